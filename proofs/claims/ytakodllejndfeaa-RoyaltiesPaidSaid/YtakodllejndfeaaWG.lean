import Derived.Test.YtakodllejndfeaaT26
import Derived.Test.YtakodllejndfeaaWF
/-! RoyaltiesPaid. -/
namespace Go.Proofs.Ytakodllejndfeaa
set_option linter.unusedSimpArgs false
set_option linter.unusedVariables false
open Go Go.RowKit

theorem stR_le (cm : Int → Int → Int) (p : Int) (S : List Sd) {O : List Int} (hol : O.length ≤ 1000) : (stR cm p S O).length ≤ 1000 := by
  by_cases h : askE p S O true = 0
  · rw [stR_len h]; exact hol
  · rw [stR_bad h]; simp

set_option maxRecDepth 100000 in
set_option maxHeartbeats 2000000 in
theorem royaltiesPaid_any (p : Int) (aS aO : Option Addr) (cS cO : Nat) (S : List Sd) (O : List Int) (w : World) (hX : RyIn w aS aO p S O) : Calls Try.prog 11 #[.agg #[.int .i64 p, .slice aS S.length cS, .slice aO O.length cO]] w fun e w' => e = .returned (.bool true) ∧ Below w.heap.size w w' := by
  obtain ⟨W, hW, hb, _, x0⟩ := boxes1 w #[.int .i64 p, .slice aS S.length cS, .slice aO O.length cO] 25
  have hXW := hX.below hb (Nat.le_refl _)
  have hfar := Far_any p aS aO cS cO S O W hXW
  have hwk := fun V => works_any V
  by_cases hr : farB S O = true
  · rw [hr] at hfar
    clear hr hXW hX
    have c0 := x0.cell 0 rfl; have c1 := x0.cell 1 rfl; have c2 := x0.cell 2 rfl
    go_enter Try.func11, Try.ntmps11
    go_wp2_with fail
    refine hfar.mono ?_
    rintro e W1 ⟨rfl, hb1⟩
    clear c0 c1 c2
    replace x0 := x0.below hb1
    replace hb := hb.trans (hb1.mono hb.size)
    clear hb1 hfar hW
    have c0 := x0.cell 0 rfl; have c1 := x0.cell 1 rfl; have c2 := x0.cell 2 rfl
    go_wp2_with fail
    refine (hwk _).mono ?_
    rintro e Vw ⟨rfl, hbw9⟩
    clear c0 c1 c2
    replace hb := hb.trans (hbw9.mono hb.size)
    go_wp2
    go_ret
    exact ⟨rfl, hb⟩
  · replace hr : farB S O = false := by simpa using hr
    rw [hr] at hfar
    have hR := hXW.ry hr
    have hol := hR.ol; have hsl := hR.sd.len; have hpr := hR.pr
    clear hr hXW hX
    have hcp := fun V h => Copy_any p aS aO cS cO S O V h
    unfold CopyP at hcp
    have hs1 := fun a b c d V h => Paid_any p a b c d S O V h
    have hs2 := fun V h => refPaid_any p aS aO cS cO S O V h
    have ht1 := fun a b c d V h => Left_any p a b c d S O V h
    have ht2 := fun V h => refLeft_any p aS aO cS cO S O V h
    have hu1 := fun a b c d V h => Lost_any p a b c d S O V h
    have hu2 := fun V h => refLost_any p aS aO cS cO S O V h
    have hsm := fun a b c d V h h' => same_any p a b aS aO c d cS cO S O V h h'
    have hlenP := stR_le paidV p S hol
    have hlenL := stR_le leftO p S hol
    have hrgP := stR_rng paidV_rng p S O
    have hrgL := stR_rng leftO_rng p S O
    have HIP := hid (show ∀ x ∈ stR paidV p S O, -9223372036854775808 ≤ x ∧ x ≤ 9223372036854775807 from fun x hx => by have := hrgP x hx; omega)
    have HIL := hid (show ∀ x ∈ stR leftO p S O, -9223372036854775808 ≤ x ∧ x ≤ 9223372036854775807 from fun x hx => by have := hrgL x hx; omega)
    clear hrgP hrgL
    generalize lostV p S O = Z at *
    generalize askE p S O true = F at *
    generalize stR paidV p S O = L at *
    generalize stR leftO p S O = M at *
    have hsi := fun a b c d V h h' => SameInts_eq a b c d L V h h'
    have hsj := fun a b c d V h h' => SameInts_eq a b c d M V h h'
    obtain ⟨ll, hll⟩ : ∃ ll, ll = L.length := ⟨_, rfl⟩
    obtain ⟨mm, hmm⟩ : ∃ mm, mm = M.length := ⟨_, rfl⟩
    rw [← hll] at hs1 hs2 hsi hlenP
    rw [← hmm] at ht1 ht2 hsj hlenL
    have HLL := hid hll
    have HMM := hid hmm
    clear hll hmm
    have c0 := x0.cell 0 rfl; have c1 := x0.cell 1 rfl; have c2 := x0.cell 2 rfl
    go_enter Try.func11, Try.ntmps11
    go_wp2_with fail
    refine hfar.mono ?_
    rintro e W1 ⟨rfl, hb1⟩
    clear c0 c1 c2
    replace x0 := x0.below hb1
    replace hR := hR.below hb1 (Nat.le_refl _)
    replace hb := hb.trans (hb1.mono hb.size)
    clear hb1 hfar hW
    have c0 := x0.cell 0 rfl; have c1 := x0.cell 1 rfl; have c2 := x0.cell 2 rfl
    go_wp2_with fail
    refine (hcp _ hR).mono ?_
    rintro e V1 ⟨a, b, k1, k2, rfl, hC, hb1, hszc⟩
    have hRo := hC.ry (p := p) hsl hol hpr
    clear hC hszc hcp
    clear c0 c1 c2
    replace x0 := x0.below hb1
    replace hR := hR.below hb1 (Nat.le_refl _)
    replace hb := hb.trans (hb1.mono hb.size)
    clear hb1
    have c0 := x0.cell 0 rfl; have c1 := x0.cell 1 rfl; have c2 := x0.cell 2 rfl
    have hba := below_one (w := V1) (.cells #[.int .i64 p, .slice a S.length k1, .slice b O.length k2] 25)
    have HXa := hid (And.intro (x0.below hba) (And.intro (hR.below hba (Nat.le_refl _)) (And.intro (hRo.below hba (Nat.le_refl _)) (And.intro (hb.trans (hba.mono hb.size)) (Bx.new V1 #[.int .i64 p, .slice a S.length k1, .slice b O.length k2] 25)))))
    clear hba hb x0 hR hRo
    go_upto_region 4 with fail
    clear c0 c1 c2
    obtain ⟨x0, hR, hRo, hb, x7⟩ := HXa.out
    clear HXa
    generalize V1.heap.size = sa_x7 at *
    generalize World.alloc _ _ = Va_x7 at *
    have c0 := x0.cell 0 rfl; have c1 := x0.cell 1 rfl; have c2 := x0.cell 2 rfl
    have d0 := x7.cell 0 rfl; have d1 := x7.cell 1 rfl; have d2 := x7.cell 2 rfl
    go_wp2_with fail
    refine (hs1 _ _ _ _ _ hRo).mono ?_
    rintro e Vc3 ⟨a1, k3, rfl, hI1, hb1⟩
    clear c0 c1 c2
    clear d0 d1 d2
    replace x0 := x0.below hb1
    replace x7 := x7.below hb1
    replace hR := hR.below hb1 (Nat.le_refl _)
    replace hRo := hRo.below hb1 (Nat.le_refl _)
    replace hb := hb.trans (hb1.mono hb.size)
    clear hb1
    have c0 := x0.cell 0 rfl; have c1 := x0.cell 1 rfl; have c2 := x0.cell 2 rfl
    have d0 := x7.cell 0 rfl; have d1 := x7.cell 1 rfl; have d2 := x7.cell 2 rfl
    clear hs1
    go_wp2_with fail
    refine (hs2 _ hR).mono ?_
    rintro e Vc4 ⟨v2, rfl, ho2, hb1⟩
    clear d0 d1 d2
    clear c0 c1 c2
    replace x0 := x0.below hb1
    replace x7 := x7.below hb1
    replace hR := hR.below hb1 (Nat.le_refl _)
    replace hRo := hRo.below hb1 (Nat.le_refl _)
    replace hI1 := hI1.below hb1 (Nat.le_refl _)
    replace hb := hb.trans (hb1.mono hb.size)
    clear hb1
    have c0 := x0.cell 0 rfl; have c1 := x0.cell 1 rfl; have c2 := x0.cell 2 rfl
    have d0 := x7.cell 0 rfl; have d1 := x7.cell 1 rfl; have d2 := x7.cell 2 rfl
    clear hs2
    have ho3 := ho2
    rw [HLL.out] at ho3
    obtain ⟨a2, k29, e2, hI2⟩ := Ints.of_own ho3 (by rw [← HLL.out]; omega) HIP.out
    rw [← HLL.out] at e2
    subst e2
    clear ho2 ho3
    go_wp2_with fail
    refine (ht1 _ _ _ _ _ hRo).mono ?_
    rintro e Vc5 ⟨a3, k5, rfl, hI3, hb1⟩
    clear d0 d1 d2
    clear c0 c1 c2
    replace x0 := x0.below hb1
    replace x7 := x7.below hb1
    replace hR := hR.below hb1 (Nat.le_refl _)
    replace hRo := hRo.below hb1 (Nat.le_refl _)
    replace hI1 := hI1.below hb1 (Nat.le_refl _)
    replace hI2 := hI2.below hb1 (Nat.le_refl _)
    replace hb := hb.trans (hb1.mono hb.size)
    clear hb1
    have c0 := x0.cell 0 rfl; have c1 := x0.cell 1 rfl; have c2 := x0.cell 2 rfl
    have d0 := x7.cell 0 rfl; have d1 := x7.cell 1 rfl; have d2 := x7.cell 2 rfl
    clear ht1
    go_wp2_with fail
    refine (ht2 _ hR).mono ?_
    rintro e Vc6 ⟨v4, rfl, ho2, hb1⟩
    clear d0 d1 d2
    clear c0 c1 c2
    replace x0 := x0.below hb1
    replace x7 := x7.below hb1
    replace hR := hR.below hb1 (Nat.le_refl _)
    replace hRo := hRo.below hb1 (Nat.le_refl _)
    replace hI1 := hI1.below hb1 (Nat.le_refl _)
    replace hI2 := hI2.below hb1 (Nat.le_refl _)
    replace hI3 := hI3.below hb1 (Nat.le_refl _)
    replace hb := hb.trans (hb1.mono hb.size)
    clear hb1
    have c0 := x0.cell 0 rfl; have c1 := x0.cell 1 rfl; have c2 := x0.cell 2 rfl
    have d0 := x7.cell 0 rfl; have d1 := x7.cell 1 rfl; have d2 := x7.cell 2 rfl
    clear ht2
    have ho3 := ho2
    rw [HMM.out] at ho3
    obtain ⟨a4, k49, e2, hI4⟩ := Ints.of_own ho3 (by rw [← HMM.out]; omega) HIL.out
    rw [← HMM.out] at e2
    subst e2
    clear ho2 ho3
    go_wp2_with fail
    refine (hu1 _ _ _ _ _ hRo).mono ?_
    rintro e Vc7 ⟨rfl, hb1⟩
    clear d0 d1 d2
    clear c0 c1 c2
    replace x0 := x0.below hb1
    replace x7 := x7.below hb1
    replace hR := hR.below hb1 (Nat.le_refl _)
    replace hRo := hRo.below hb1 (Nat.le_refl _)
    replace hI1 := hI1.below hb1 (Nat.le_refl _)
    replace hI2 := hI2.below hb1 (Nat.le_refl _)
    replace hI3 := hI3.below hb1 (Nat.le_refl _)
    replace hI4 := hI4.below hb1 (Nat.le_refl _)
    replace hb := hb.trans (hb1.mono hb.size)
    clear hb1
    have c0 := x0.cell 0 rfl; have c1 := x0.cell 1 rfl; have c2 := x0.cell 2 rfl
    have d0 := x7.cell 0 rfl; have d1 := x7.cell 1 rfl; have d2 := x7.cell 2 rfl
    clear hu1
    go_wp2_with fail
    refine (hu2 _ hR).mono ?_
    rintro e Vc8 ⟨rfl, hb1⟩
    clear d0 d1 d2
    clear c0 c1 c2
    replace x0 := x0.below hb1
    replace x7 := x7.below hb1
    replace hR := hR.below hb1 (Nat.le_refl _)
    replace hRo := hRo.below hb1 (Nat.le_refl _)
    replace hI1 := hI1.below hb1 (Nat.le_refl _)
    replace hI2 := hI2.below hb1 (Nat.le_refl _)
    replace hI3 := hI3.below hb1 (Nat.le_refl _)
    replace hI4 := hI4.below hb1 (Nat.le_refl _)
    replace hb := hb.trans (hb1.mono hb.size)
    clear hb1
    have c0 := x0.cell 0 rfl; have c1 := x0.cell 1 rfl; have c2 := x0.cell 2 rfl
    have d0 := x7.cell 0 rfl; have d1 := x7.cell 1 rfl; have d2 := x7.cell 2 rfl
    clear hu2
    go_wp2_with fail
    refine (hsi _ _ _ _ _ hI1 hI2).mono ?_
    rintro e Vc9 ⟨rfl, hb1⟩
    clear d0 d1 d2
    clear c0 c1 c2
    replace x0 := x0.below hb1
    replace x7 := x7.below hb1
    replace hR := hR.below hb1 (Nat.le_refl _)
    replace hRo := hRo.below hb1 (Nat.le_refl _)
    replace hI1 := hI1.below hb1 (Nat.le_refl _)
    replace hI2 := hI2.below hb1 (Nat.le_refl _)
    replace hI3 := hI3.below hb1 (Nat.le_refl _)
    replace hI4 := hI4.below hb1 (Nat.le_refl _)
    replace hb := hb.trans (hb1.mono hb.size)
    clear hb1
    have c0 := x0.cell 0 rfl; have c1 := x0.cell 1 rfl; have c2 := x0.cell 2 rfl
    have d0 := x7.cell 0 rfl; have d1 := x7.cell 1 rfl; have d2 := x7.cell 2 rfl
    clear hI1
    clear hI2
    clear hsi
    go_wp2_with fail
    refine (hsj _ _ _ _ _ hI3 hI4).mono ?_
    rintro e Vc10 ⟨rfl, hb1⟩
    clear d0 d1 d2
    clear c0 c1 c2
    replace x0 := x0.below hb1
    replace x7 := x7.below hb1
    replace hR := hR.below hb1 (Nat.le_refl _)
    replace hRo := hRo.below hb1 (Nat.le_refl _)
    replace hI3 := hI3.below hb1 (Nat.le_refl _)
    replace hI4 := hI4.below hb1 (Nat.le_refl _)
    replace hb := hb.trans (hb1.mono hb.size)
    clear hb1
    have c0 := x0.cell 0 rfl; have c1 := x0.cell 1 rfl; have c2 := x0.cell 2 rfl
    have d0 := x7.cell 0 rfl; have d1 := x7.cell 1 rfl; have d2 := x7.cell 2 rfl
    clear hI3
    clear hI4
    clear hsj
    go_wp2_with fail
    refine (hsm _ _ _ _ _ hRo hR).mono ?_
    rintro e Vc11 ⟨rfl, hb1⟩
    clear d0 d1 d2
    clear c0 c1 c2
    replace x0 := x0.below hb1
    replace x7 := x7.below hb1
    replace hR := hR.below hb1 (Nat.le_refl _)
    replace hRo := hRo.below hb1 (Nat.le_refl _)
    replace hb := hb.trans (hb1.mono hb.size)
    clear hb1
    have c0 := x0.cell 0 rfl; have c1 := x0.cell 1 rfl; have c2 := x0.cell 2 rfl
    have d0 := x7.cell 0 rfl; have d1 := x7.cell 1 rfl; have d2 := x7.cell 2 rfl
    clear hsm
    go_wp2_with fail
    refine (hwk _).mono ?_
    rintro e Vw ⟨rfl, hbw9⟩
    clear d0 d1 d2
    clear c0 c1 c2
    replace hb := hb.trans (hbw9.mono hb.size)
    go_wp2
    go_ret
    exact ⟨rfl, hb⟩
end Go.Proofs.Ytakodllejndfeaa
