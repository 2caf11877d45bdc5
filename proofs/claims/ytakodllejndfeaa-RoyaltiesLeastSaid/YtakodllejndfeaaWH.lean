import Derived.Test.YtakodllejndfeaaT28
import Derived.Test.YtakodllejndfeaaWF
/-! RoyaltiesLeast. -/
namespace Go.Proofs.Ytakodllejndfeaa
set_option linter.unusedSimpArgs false
set_option linter.unusedVariables false
open Go Go.RowKit

set_option maxRecDepth 100000 in
set_option maxHeartbeats 2000000 in
theorem royaltiesLeast_any (p : Int) (aS aO : Option Addr) (cS cO : Nat) (S : List Sd) (O : List Int) (who cents : Int) (w : World) (hX : RyIn w aS aO p S O) : Calls Try.prog 12 #[.agg #[.int .i64 p, .slice aS S.length cS, .slice aO O.length cO], .int .i64 who, .int .i64 cents] w fun e w' => e = .returned (.bool true) ∧ Below w.heap.size w w' := by
  obtain ⟨W, hW, hb, _, x0⟩ := boxes1 w #[.int .i64 p, .slice aS S.length cS, .slice aO O.length cO] 25
  have hXW := hX.below hb (Nat.le_refl _)
  have hfar := Far_any p aS aO cS cO S O W hXW
  have hwk := fun V => works_any V
  by_cases hr : farB S O = true
  · rw [hr] at hfar
    clear hr hXW hX
    have c0 := x0.cell 0 rfl; have c1 := x0.cell 1 rfl; have c2 := x0.cell 2 rfl
    go_enter Try.func12, Try.ntmps12
    go_wp2_with fail
    refine hfar.mono ?_
    rintro e W1 ⟨rfl, hb1⟩
    clear c0 c1 c2
    replace x0 := x0.below hb1
    replace hb := hb.trans (hb1.mono hb.size)
    clear hb1 hfar hW
    have c0 := x0.cell 0 rfl; have c1 := x0.cell 1 rfl; have c2 := x0.cell 2 rfl
    go_wp2_with fail
    refine (hwk _).mono ?_
    rintro e Vw ⟨rfl, hbw9⟩
    clear c0 c1 c2
    replace hb := hb.trans (hbw9.mono hb.size)
    go_wp2
    go_ret
    exact ⟨rfl, hb⟩
  · replace hr : farB S O = false := by simpa using hr
    rw [hr] at hfar
    have hR := hXW.ry hr
    have hol := hR.ol; have hsl := hR.sd.len; have hpr := hR.pr
    clear hr hXW hX
    have hck := fun V h => chk_any p aS aO cS cO S O V h
    have hcp := fun V h => Copy_any p aS aO cS cO S O V h
    unfold CopyP at hcp
    have hs1 := fun a b c d V h => Least_any p a b c d S O who cents V h
    have hs2 := fun V h => refLeast_any p aS aO cS cO S O who cents V h
    have ht1 := fun a b c d V h => Odd_any p a b c d S O who V h
    have ht2 := fun V h => refOdd_any p aS aO cS cO S O who V h
    have hsm := fun a b c d V h h' => same_any p a b aS aO c d cS cO S O V h h'
    generalize leV p S O who cents = L at *
    generalize leE p S O who cents = E at *
    generalize odV p S O who = M at *
    generalize odE p S O who = F at *
    by_cases hp1 : 1000 < p
    · skip
      cases hv : vB p S O
      · rw [hv] at hck
        simp only [cod] at hck
        have c0 := x0.cell 0 rfl; have c1 := x0.cell 1 rfl; have c2 := x0.cell 2 rfl
        go_enter Try.func12, Try.ntmps12
        go_wp2_with fail
        refine hfar.mono ?_
        rintro e W1 ⟨rfl, hb1⟩
        clear c0 c1 c2
        replace x0 := x0.below hb1
        replace hR := hR.below hb1 (Nat.le_refl _)
        replace hb := hb.trans (hb1.mono hb.size)
        clear hb1 hfar hW
        have c0 := x0.cell 0 rfl; have c1 := x0.cell 1 rfl; have c2 := x0.cell 2 rfl
        go_wp2_with fail
        refine (hck _ hR).mono ?_
        rintro e Vc2 ⟨rfl, hb1⟩
        clear c0 c1 c2
        replace x0 := x0.below hb1
        replace hR := hR.below hb1 (Nat.le_refl _)
        replace hb := hb.trans (hb1.mono hb.size)
        clear hb1
        have c0 := x0.cell 0 rfl; have c1 := x0.cell 1 rfl; have c2 := x0.cell 2 rfl
        clear hck hv
        go_wp2_with fail
        refine (hcp _ hR).mono ?_
        rintro e V1 ⟨a, b, k1, k2, rfl, hC, hb1, hszc⟩
        have hRo := hC.ry (p := p) hsl hol hpr
        clear hC hszc hcp
        clear c0 c1 c2
        replace x0 := x0.below hb1
        replace hR := hR.below hb1 (Nat.le_refl _)
        replace hb := hb.trans (hb1.mono hb.size)
        clear hb1
        have c0 := x0.cell 0 rfl; have c1 := x0.cell 1 rfl; have c2 := x0.cell 2 rfl
        have hba := below_one (w := V1) (.cells #[.int .i64 p, .slice a S.length k1, .slice b O.length k2] 25)
        have HXa := hid (And.intro (x0.below hba) (And.intro (hR.below hba (Nat.le_refl _)) (And.intro (hRo.below hba (Nat.le_refl _)) (And.intro (hb.trans (hba.mono hb.size)) (Bx.new V1 #[.int .i64 p, .slice a S.length k1, .slice b O.length k2] 25)))))
        clear hba hb x0 hR hRo
        go_upto_region 4 with fail
        clear c0 c1 c2
        obtain ⟨x0, hR, hRo, hb, x7⟩ := HXa.out
        clear HXa
        generalize V1.heap.size = sa_x7 at *
        generalize World.alloc _ _ = Va_x7 at *
        have c0 := x0.cell 0 rfl; have c1 := x0.cell 1 rfl; have c2 := x0.cell 2 rfl
        have d0 := x7.cell 0 rfl; have d1 := x7.cell 1 rfl; have d2 := x7.cell 2 rfl
        go_wp2_with fail
        refine (hs1 _ _ _ _ _ hRo).mono ?_
        rintro e Vc4 ⟨rfl, hb1⟩
        clear d0 d1 d2
        clear c0 c1 c2
        replace x0 := x0.below hb1
        replace x7 := x7.below hb1
        replace hR := hR.below hb1 (Nat.le_refl _)
        replace hRo := hRo.below hb1 (Nat.le_refl _)
        replace hb := hb.trans (hb1.mono hb.size)
        clear hb1
        have c0 := x0.cell 0 rfl; have c1 := x0.cell 1 rfl; have c2 := x0.cell 2 rfl
        have d0 := x7.cell 0 rfl; have d1 := x7.cell 1 rfl; have d2 := x7.cell 2 rfl
        clear hs1
        go_wp2_with fail
        refine (hs2 _ hR).mono ?_
        rintro e Vc5 ⟨rfl, hb1⟩
        clear d0 d1 d2
        clear c0 c1 c2
        replace x0 := x0.below hb1
        replace x7 := x7.below hb1
        replace hR := hR.below hb1 (Nat.le_refl _)
        replace hRo := hRo.below hb1 (Nat.le_refl _)
        replace hb := hb.trans (hb1.mono hb.size)
        clear hb1
        have c0 := x0.cell 0 rfl; have c1 := x0.cell 1 rfl; have c2 := x0.cell 2 rfl
        have d0 := x7.cell 0 rfl; have d1 := x7.cell 1 rfl; have d2 := x7.cell 2 rfl
        clear hs2
        go_wp2_with fail
        refine (ht1 _ _ _ _ _ hRo).mono ?_
        rintro e Vc6 ⟨rfl, hb1⟩
        clear d0 d1 d2
        clear c0 c1 c2
        replace x0 := x0.below hb1
        replace x7 := x7.below hb1
        replace hR := hR.below hb1 (Nat.le_refl _)
        replace hRo := hRo.below hb1 (Nat.le_refl _)
        replace hb := hb.trans (hb1.mono hb.size)
        clear hb1
        have c0 := x0.cell 0 rfl; have c1 := x0.cell 1 rfl; have c2 := x0.cell 2 rfl
        have d0 := x7.cell 0 rfl; have d1 := x7.cell 1 rfl; have d2 := x7.cell 2 rfl
        clear ht1
        go_wp2_with fail
        refine (ht2 _ hR).mono ?_
        rintro e Vc7 ⟨rfl, hb1⟩
        clear d0 d1 d2
        clear c0 c1 c2
        replace x0 := x0.below hb1
        replace x7 := x7.below hb1
        replace hR := hR.below hb1 (Nat.le_refl _)
        replace hRo := hRo.below hb1 (Nat.le_refl _)
        replace hb := hb.trans (hb1.mono hb.size)
        clear hb1
        have c0 := x0.cell 0 rfl; have c1 := x0.cell 1 rfl; have c2 := x0.cell 2 rfl
        have d0 := x7.cell 0 rfl; have d1 := x7.cell 1 rfl; have d2 := x7.cell 2 rfl
        clear ht2
        go_wp2_with fail
        refine (hsm _ _ _ _ _ hRo hR).mono ?_
        rintro e Vc8 ⟨rfl, hb1⟩
        clear d0 d1 d2
        clear c0 c1 c2
        replace x0 := x0.below hb1
        replace x7 := x7.below hb1
        replace hR := hR.below hb1 (Nat.le_refl _)
        replace hRo := hRo.below hb1 (Nat.le_refl _)
        replace hb := hb.trans (hb1.mono hb.size)
        clear hb1
        have c0 := x0.cell 0 rfl; have c1 := x0.cell 1 rfl; have c2 := x0.cell 2 rfl
        have d0 := x7.cell 0 rfl; have d1 := x7.cell 1 rfl; have d2 := x7.cell 2 rfl
        clear hsm
        go_wp2_with fail
        refine (hwk _).mono ?_
        rintro e Vw ⟨rfl, hbw9⟩
        clear d0 d1 d2
        clear c0 c1 c2
        replace hb := hb.trans (hbw9.mono hb.size)
        go_wp2
        go_ret
        exact ⟨rfl, hb⟩
      · rw [hv] at hck
        simp only [cod] at hck
        have c0 := x0.cell 0 rfl; have c1 := x0.cell 1 rfl; have c2 := x0.cell 2 rfl
        go_enter Try.func12, Try.ntmps12
        go_wp2_with fail
        refine hfar.mono ?_
        rintro e W1 ⟨rfl, hb1⟩
        clear c0 c1 c2
        replace x0 := x0.below hb1
        replace hR := hR.below hb1 (Nat.le_refl _)
        replace hb := hb.trans (hb1.mono hb.size)
        clear hb1 hfar hW
        have c0 := x0.cell 0 rfl; have c1 := x0.cell 1 rfl; have c2 := x0.cell 2 rfl
        go_wp2_with fail
        refine (hck _ hR).mono ?_
        rintro e Vc10 ⟨rfl, hb1⟩
        clear c0 c1 c2
        replace x0 := x0.below hb1
        replace hR := hR.below hb1 (Nat.le_refl _)
        replace hb := hb.trans (hb1.mono hb.size)
        clear hb1
        have c0 := x0.cell 0 rfl; have c1 := x0.cell 1 rfl; have c2 := x0.cell 2 rfl
        clear hck hv
        go_wp2_with fail
        refine (hwk _).mono ?_
        rintro e Vw ⟨rfl, hbw9⟩
        clear c0 c1 c2
        replace hb := hb.trans (hbw9.mono hb.size)
        go_wp2
        go_ret
        exact ⟨rfl, hb⟩
    · skip
      clear hck
      have c0 := x0.cell 0 rfl; have c1 := x0.cell 1 rfl; have c2 := x0.cell 2 rfl
      go_enter Try.func12, Try.ntmps12
      go_wp2_with fail
      refine hfar.mono ?_
      rintro e W1 ⟨rfl, hb1⟩
      clear c0 c1 c2
      replace x0 := x0.below hb1
      replace hR := hR.below hb1 (Nat.le_refl _)
      replace hb := hb.trans (hb1.mono hb.size)
      clear hb1 hfar hW
      have c0 := x0.cell 0 rfl; have c1 := x0.cell 1 rfl; have c2 := x0.cell 2 rfl
      go_wp2_with fail
      refine (hcp _ hR).mono ?_
      rintro e V1 ⟨a, b, k1, k2, rfl, hC, hb1, hszc⟩
      have hRo := hC.ry (p := p) hsl hol hpr
      clear hC hszc hcp
      clear c0 c1 c2
      replace x0 := x0.below hb1
      replace hR := hR.below hb1 (Nat.le_refl _)
      replace hb := hb.trans (hb1.mono hb.size)
      clear hb1
      have c0 := x0.cell 0 rfl; have c1 := x0.cell 1 rfl; have c2 := x0.cell 2 rfl
      have hba := below_one (w := V1) (.cells #[.int .i64 p, .slice a S.length k1, .slice b O.length k2] 25)
      have HXa := hid (And.intro (x0.below hba) (And.intro (hR.below hba (Nat.le_refl _)) (And.intro (hRo.below hba (Nat.le_refl _)) (And.intro (hb.trans (hba.mono hb.size)) (Bx.new V1 #[.int .i64 p, .slice a S.length k1, .slice b O.length k2] 25)))))
      clear hba hb x0 hR hRo
      go_upto_region 4 with fail
      clear c0 c1 c2
      obtain ⟨x0, hR, hRo, hb, x7⟩ := HXa.out
      clear HXa
      generalize V1.heap.size = sa_x7 at *
      generalize World.alloc _ _ = Va_x7 at *
      have c0 := x0.cell 0 rfl; have c1 := x0.cell 1 rfl; have c2 := x0.cell 2 rfl
      have d0 := x7.cell 0 rfl; have d1 := x7.cell 1 rfl; have d2 := x7.cell 2 rfl
      go_wp2_with fail
      refine (hs1 _ _ _ _ _ hRo).mono ?_
      rintro e Vc13 ⟨rfl, hb1⟩
      clear d0 d1 d2
      clear c0 c1 c2
      replace x0 := x0.below hb1
      replace x7 := x7.below hb1
      replace hR := hR.below hb1 (Nat.le_refl _)
      replace hRo := hRo.below hb1 (Nat.le_refl _)
      replace hb := hb.trans (hb1.mono hb.size)
      clear hb1
      have c0 := x0.cell 0 rfl; have c1 := x0.cell 1 rfl; have c2 := x0.cell 2 rfl
      have d0 := x7.cell 0 rfl; have d1 := x7.cell 1 rfl; have d2 := x7.cell 2 rfl
      clear hs1
      go_wp2_with fail
      refine (hs2 _ hR).mono ?_
      rintro e Vc14 ⟨rfl, hb1⟩
      clear d0 d1 d2
      clear c0 c1 c2
      replace x0 := x0.below hb1
      replace x7 := x7.below hb1
      replace hR := hR.below hb1 (Nat.le_refl _)
      replace hRo := hRo.below hb1 (Nat.le_refl _)
      replace hb := hb.trans (hb1.mono hb.size)
      clear hb1
      have c0 := x0.cell 0 rfl; have c1 := x0.cell 1 rfl; have c2 := x0.cell 2 rfl
      have d0 := x7.cell 0 rfl; have d1 := x7.cell 1 rfl; have d2 := x7.cell 2 rfl
      clear hs2
      go_wp2_with fail
      refine (ht1 _ _ _ _ _ hRo).mono ?_
      rintro e Vc15 ⟨rfl, hb1⟩
      clear d0 d1 d2
      clear c0 c1 c2
      replace x0 := x0.below hb1
      replace x7 := x7.below hb1
      replace hR := hR.below hb1 (Nat.le_refl _)
      replace hRo := hRo.below hb1 (Nat.le_refl _)
      replace hb := hb.trans (hb1.mono hb.size)
      clear hb1
      have c0 := x0.cell 0 rfl; have c1 := x0.cell 1 rfl; have c2 := x0.cell 2 rfl
      have d0 := x7.cell 0 rfl; have d1 := x7.cell 1 rfl; have d2 := x7.cell 2 rfl
      clear ht1
      go_wp2_with fail
      refine (ht2 _ hR).mono ?_
      rintro e Vc16 ⟨rfl, hb1⟩
      clear d0 d1 d2
      clear c0 c1 c2
      replace x0 := x0.below hb1
      replace x7 := x7.below hb1
      replace hR := hR.below hb1 (Nat.le_refl _)
      replace hRo := hRo.below hb1 (Nat.le_refl _)
      replace hb := hb.trans (hb1.mono hb.size)
      clear hb1
      have c0 := x0.cell 0 rfl; have c1 := x0.cell 1 rfl; have c2 := x0.cell 2 rfl
      have d0 := x7.cell 0 rfl; have d1 := x7.cell 1 rfl; have d2 := x7.cell 2 rfl
      clear ht2
      go_wp2_with fail
      refine (hsm _ _ _ _ _ hRo hR).mono ?_
      rintro e Vc17 ⟨rfl, hb1⟩
      clear d0 d1 d2
      clear c0 c1 c2
      replace x0 := x0.below hb1
      replace x7 := x7.below hb1
      replace hR := hR.below hb1 (Nat.le_refl _)
      replace hRo := hRo.below hb1 (Nat.le_refl _)
      replace hb := hb.trans (hb1.mono hb.size)
      clear hb1
      have c0 := x0.cell 0 rfl; have c1 := x0.cell 1 rfl; have c2 := x0.cell 2 rfl
      have d0 := x7.cell 0 rfl; have d1 := x7.cell 1 rfl; have d2 := x7.cell 2 rfl
      clear hsm
      go_wp2_with fail
      refine (hwk _).mono ?_
      rintro e Vw ⟨rfl, hbw9⟩
      clear d0 d1 d2
      clear c0 c1 c2
      replace hb := hb.trans (hbw9.mono hb.size)
      go_wp2
      go_ret
      exact ⟨rfl, hb⟩
end Go.Proofs.Ytakodllejndfeaa
