import Derived.Test.YtakodllejndfeaaT24
import Derived.Test.YtakodllejndfeaaT2
/-! RoyaltiesShares. -/
namespace Go.Proofs.Ytakodllejndfeaa
set_option linter.unusedSimpArgs false
set_option linter.unusedVariables false
open Go Go.RowKit

theorem shR_le (p : Int) (S : List Sd) {O : List Int} (hol : O.length ≤ 1000) : (shR p S O).length ≤ 1000 := by
  by_cases h : askE p S O true = 0
  · rw [shR_len h]; exact hol
  · rw [shR_bad h]; simp
theorem cod_if (b : Bool) : (if b = true then (0 : Int) else 100) = cod b := by cases b <;> rfl

set_option maxRecDepth 100000 in
set_option maxHeartbeats 1500000 in
theorem royaltiesShares_any (p : Int) (aS aO : Option Addr) (cS cO : Nat) (S : List Sd) (O : List Int) (who : Int) (w : World) (hX : RyIn w aS aO p S O) : Calls Try.prog 10 #[.agg #[.int .i64 p, .slice aS S.length cS, .slice aO O.length cO], .int .i64 who] w fun e w' => e = .returned (.bool true) ∧ Below w.heap.size w w' := by
  obtain ⟨W, hW, hb, _, x0⟩ := boxes1 w #[.int .i64 p, .slice aS S.length cS, .slice aO O.length cO] 25
  have hXW := hX.below hb (Nat.le_refl _)
  have hfar := Far_any p aS aO cS cO S O W hXW
  have hwk := fun V => works_any V
  by_cases hr : farB S O = true
  · rw [hr] at hfar
    clear hr hXW hX
    have c0 := x0.cell 0 rfl; have c1 := x0.cell 1 rfl; have c2 := x0.cell 2 rfl
    go_enter Try.func10, Try.ntmps10
    go_wp2_with fail
    refine hfar.mono ?_
    rintro e W1 ⟨rfl, hb1⟩
    clear c0 c1 c2
    replace x0 := x0.below hb1
    replace hb := hb.trans (hb1.mono hb.size)
    clear hb1 hfar hW
    have c0 := x0.cell 0 rfl; have c1 := x0.cell 1 rfl; have c2 := x0.cell 2 rfl
    go_wp2_with fail
    refine (hwk _).mono ?_
    rintro e Vw ⟨rfl, hbw9⟩
    clear c0 c1 c2
    replace hb := hb.trans (hbw9.mono hb.size)
    go_wp2
    go_ret
    exact ⟨rfl, hb⟩
  · replace hr : farB S O = false := by simpa using hr
    rw [hr] at hfar
    have hR := hXW.ry hr
    have hol := hR.ol; have hsl := hR.sd.len; have hpr := hR.pr
    clear hr hXW hX
    have hcp := fun V h => Copy_any p aS aO cS cO S O V h
    unfold CopyP at hcp
    have hck := fun a b c d V h => Check_any p a b c d S O V h
    rw [cod_if] at hck
    have hrk := fun V h => chk_any p aS aO cS cO S O V h
    have hx1 := fun a b c d V h => Exact_any p a b c d S O who V h
    have hx2 := fun V h => refExact_any p aS aO cS cO S O who V h
    have hs1 := fun a b c d V h => Shares_any p a b c d S O V h
    have hs2 := fun V h => refShares_any p aS aO cS cO S O V h
    have hsm := fun a b c d V h h' => same_any p a b aS aO c d cS cO S O V h h'
    have hlen := shR_le p S hol
    have hrg := shR_rng p S O
    have hi64 : ∀ x ∈ shR p S O, -9223372036854775808 ≤ x ∧ x ≤ 9223372036854775807 := fun x hx => by have := hrg x hx; omega
    clear hrg
    generalize cod (vB p S O) = C at *
    generalize exU p S O who = U at *
    generalize exL p S O who = D at *
    generalize askE p S O (hasB O who) = E at *
    generalize askE p S O true = F at *
    generalize shR p S O = L at *
    have hsi := fun a b c d V h h' => SameInts_eq a b c d L V h h'
    obtain ⟨ll, hll⟩ : ∃ ll, ll = L.length := ⟨_, rfl⟩
    rw [← hll] at hs1 hs2 hsi hlen
    have HLL := hid hll
    have HI64 := hid hi64
    clear hll hi64
    have c0 := x0.cell 0 rfl; have c1 := x0.cell 1 rfl; have c2 := x0.cell 2 rfl
    go_enter Try.func10, Try.ntmps10
    go_wp2_with fail
    refine hfar.mono ?_
    rintro e W1 ⟨rfl, hb1⟩
    clear c0 c1 c2
    replace x0 := x0.below hb1
    replace hR := hR.below hb1 (Nat.le_refl _)
    replace hb := hb.trans (hb1.mono hb.size)
    clear hb1 hfar hW
    have c0 := x0.cell 0 rfl; have c1 := x0.cell 1 rfl; have c2 := x0.cell 2 rfl
    go_wp2_with fail
    refine (hcp _ hR).mono ?_
    rintro e V1 ⟨a, b, k1, k2, rfl, hC, hb1, hszc⟩
    have hRo := hC.ry (p := p) hsl hol hpr
    clear hC hszc hcp
    clear c0 c1 c2
    replace x0 := x0.below hb1
    replace hR := hR.below hb1 (Nat.le_refl _)
    replace hb := hb.trans (hb1.mono hb.size)
    clear hb1
    have c0 := x0.cell 0 rfl; have c1 := x0.cell 1 rfl; have c2 := x0.cell 2 rfl
    have hba := below_one (w := V1) (.cells #[.int .i64 p, .slice a S.length k1, .slice b O.length k2] 25)
    have HXa := hid (And.intro (x0.below hba) (And.intro (hR.below hba (Nat.le_refl _)) (And.intro (hRo.below hba (Nat.le_refl _)) (And.intro (hb.trans (hba.mono hb.size)) (Bx.new V1 #[.int .i64 p, .slice a S.length k1, .slice b O.length k2] 25)))))
    clear hba hb x0 hR hRo
    go_upto_region 4 with fail
    clear c0 c1 c2
    obtain ⟨x0, hR, hRo, hb, x7⟩ := HXa.out
    clear HXa
    generalize V1.heap.size = sa_x7 at *
    generalize World.alloc _ _ = Va_x7 at *
    have c0 := x0.cell 0 rfl; have c1 := x0.cell 1 rfl; have c2 := x0.cell 2 rfl
    have hbd := (Below.refl Va_x7.heap.size Va_x7).drew
    have S0 := And.intro (x0.below hbd) (And.intro (x7.below hbd) (And.intro (hR.below hbd (Nat.le_refl _)) (hRo.below hbd (Nat.le_refl _))))
    replace hb := hb.trans (hbd.mono hb.size)
    clear hbd x0 x7 hR hRo c0 c1 c2
    refine wp_region_head 4 (fun w' => Bx w' w.heap.size #[.int .i64 p, .slice aS S.length cS, .slice aO O.length cO] 25 ∧ Bx w' sa_x7 #[.int .i64 p, .slice a S.length k1, .slice b O.length k2] 25 ∧ Ry w' aS aO p S O ∧ Ry w' a b p S O) (by kernel_rfl) rfl ?_
    generalize Va_x7.drew = Y0 at *
    refine HeadAt.take (i := 0) (.agg #[.int .i64 p, .slice a S.length k1, .slice b O.length k2]) rfl (by kernel_rfl) (.inl ⟨rfl, fun w' z => ?_⟩) S0 ?_
    · (have z0 := z.2.1.cell 0 rfl; have z1 := z.2.1.cell 1 rfl; have z2 := z.2.1.cell 2 rfl; simp [go_sem, z0, z1, z2])
    (try simp only [Act.put, List.getElem_toArray, List.getElem_cons_succ, List.getElem_cons_zero, List.setIfInBounds_toArray, List.set_cons_succ, List.set_cons_zero])
    refine HeadAt.take (i := 2) (.agg #[.int .i64 p, .slice aS S.length cS, .slice aO O.length cO]) rfl (by kernel_rfl) (.inl ⟨rfl, fun w' z => ?_⟩) S0 ?_
    · (have z0 := z.1.cell 0 rfl; have z1 := z.1.cell 1 rfl; have z2 := z.1.cell 2 rfl; simp [go_sem, z0, z1, z2])
    (try simp only [Act.put, List.getElem_toArray, List.getElem_cons_succ, List.getElem_cons_zero, List.setIfInBounds_toArray, List.set_cons_succ, List.set_cons_zero])
    refine HeadAt.one (i := 1) rfl (by kernel_rfl) ?_
    generalize hK : Upto _ _ = K0
    (try simp only [Act.put, List.getElem_toArray, List.getElem_cons_succ, List.getElem_cons_zero, List.setIfInBounds_toArray, List.set_cons_succ, List.set_cons_zero])
    go_wp2_with fail
    refine (hck _ _ _ _ _ S0.2.2.2).mono ?_
    rintro e V3 ⟨rfl, hb3⟩
    go_wp2_with fail
    replace S0 := And.intro (S0.1.below hb3) (And.intro (S0.2.1.below hb3) (And.intro (S0.2.2.1.below hb3 (Nat.le_refl _)) (S0.2.2.2.below hb3 (Nat.le_refl _))))
    replace hb := hb.trans (hb3.mono hb.size)
    clear hb3 hck
    subst hK
    refine ⟨S0, ?_⟩
    (try simp only [Act.put, List.getElem_toArray, List.getElem_cons_succ, List.getElem_cons_zero, List.setIfInBounds_toArray, List.set_cons_succ, List.set_cons_zero])
    refine HeadAt.one (i := 3) rfl (by kernel_rfl) ?_
    generalize hK : Upto _ _ = K0
    (try simp only [Act.put, List.getElem_toArray, List.getElem_cons_succ, List.getElem_cons_zero, List.setIfInBounds_toArray, List.set_cons_succ, List.set_cons_zero])
    go_wp2_with fail
    refine (hrk _ S0.2.2.1).mono ?_
    rintro e V4 ⟨rfl, hb3⟩
    go_wp2_with fail
    replace S0 := And.intro (S0.1.below hb3) (And.intro (S0.2.1.below hb3) (And.intro (S0.2.2.1.below hb3 (Nat.le_refl _)) (S0.2.2.2.below hb3 (Nat.le_refl _))))
    replace hb := hb.trans (hb3.mono hb.size)
    clear hb3 hrk
    subst hK
    refine ⟨S0, ?_⟩
    (try simp only [Act.put, List.getElem_toArray, List.getElem_cons_succ, List.getElem_cons_zero, List.setIfInBounds_toArray, List.set_cons_succ, List.set_cons_zero])
    refine HeadAt.done (by kernel_rfl) ?_
    (try simp only [Act.put, List.drop_succ_cons, List.drop_zero, List.getElem_toArray, List.getElem_cons_succ, List.getElem_cons_zero])
    go_wp2_with fail
    refine NoPanic.normal ?_
    obtain ⟨x0, x7, hR, hRo⟩ := S0
    have c0 := x0.cell 0 rfl; have c1 := x0.cell 1 rfl; have c2 := x0.cell 2 rfl
    have d0 := x7.cell 0 rfl; have d1 := x7.cell 1 rfl; have d2 := x7.cell 2 rfl
    go_wp2_with fail
    refine (hx1 _ _ _ _ _ hRo).mono ?_
    rintro e Vc5 ⟨rfl, hb1⟩
    clear c0 c1 c2
    clear d0 d1 d2
    replace x0 := x0.below hb1
    replace x7 := x7.below hb1
    replace hR := hR.below hb1 (Nat.le_refl _)
    replace hRo := hRo.below hb1 (Nat.le_refl _)
    replace hb := hb.trans (hb1.mono hb.size)
    clear hb1
    have c0 := x0.cell 0 rfl; have c1 := x0.cell 1 rfl; have c2 := x0.cell 2 rfl
    have d0 := x7.cell 0 rfl; have d1 := x7.cell 1 rfl; have d2 := x7.cell 2 rfl
    clear hx1
    go_wp2_with fail
    refine (hx2 _ hR).mono ?_
    rintro e Vc6 ⟨rfl, hb1⟩
    clear c0 c1 c2
    clear d0 d1 d2
    replace x0 := x0.below hb1
    replace x7 := x7.below hb1
    replace hR := hR.below hb1 (Nat.le_refl _)
    replace hRo := hRo.below hb1 (Nat.le_refl _)
    replace hb := hb.trans (hb1.mono hb.size)
    clear hb1
    have c0 := x0.cell 0 rfl; have c1 := x0.cell 1 rfl; have c2 := x0.cell 2 rfl
    have d0 := x7.cell 0 rfl; have d1 := x7.cell 1 rfl; have d2 := x7.cell 2 rfl
    clear hx2
    go_wp2_with fail
    refine (hs1 _ _ _ _ _ hRo).mono ?_
    rintro e Vc7 ⟨a1, k3, rfl, hI1, hb1⟩
    clear c0 c1 c2
    clear d0 d1 d2
    replace x0 := x0.below hb1
    replace x7 := x7.below hb1
    replace hR := hR.below hb1 (Nat.le_refl _)
    replace hRo := hRo.below hb1 (Nat.le_refl _)
    replace hb := hb.trans (hb1.mono hb.size)
    clear hb1
    have c0 := x0.cell 0 rfl; have c1 := x0.cell 1 rfl; have c2 := x0.cell 2 rfl
    have d0 := x7.cell 0 rfl; have d1 := x7.cell 1 rfl; have d2 := x7.cell 2 rfl
    clear hs1
    go_wp2_with fail
    refine (hs2 _ hR).mono ?_
    rintro e Vc8 ⟨v2, rfl, ho2, hb1⟩
    clear c0 c1 c2
    clear d0 d1 d2
    replace x0 := x0.below hb1
    replace x7 := x7.below hb1
    replace hR := hR.below hb1 (Nat.le_refl _)
    replace hRo := hRo.below hb1 (Nat.le_refl _)
    replace hI1 := hI1.below hb1 (Nat.le_refl _)
    replace hb := hb.trans (hb1.mono hb.size)
    clear hb1
    have c0 := x0.cell 0 rfl; have c1 := x0.cell 1 rfl; have c2 := x0.cell 2 rfl
    have d0 := x7.cell 0 rfl; have d1 := x7.cell 1 rfl; have d2 := x7.cell 2 rfl
    clear hs2
    have ho3 := ho2
    rw [HLL.out] at ho3
    obtain ⟨a2, k4, e2, hI2⟩ := Ints.of_own ho3 (by rw [← HLL.out]; omega) HI64.out
    rw [← HLL.out] at e2
    subst e2
    clear ho2 ho3
    go_wp2_with fail
    refine (hsi _ _ _ _ _ hI1 hI2).mono ?_
    rintro e Vc9 ⟨rfl, hb1⟩
    clear c0 c1 c2
    clear d0 d1 d2
    replace x0 := x0.below hb1
    replace x7 := x7.below hb1
    replace hR := hR.below hb1 (Nat.le_refl _)
    replace hRo := hRo.below hb1 (Nat.le_refl _)
    replace hI1 := hI1.below hb1 (Nat.le_refl _)
    replace hI2 := hI2.below hb1 (Nat.le_refl _)
    replace hb := hb.trans (hb1.mono hb.size)
    clear hb1
    have c0 := x0.cell 0 rfl; have c1 := x0.cell 1 rfl; have c2 := x0.cell 2 rfl
    have d0 := x7.cell 0 rfl; have d1 := x7.cell 1 rfl; have d2 := x7.cell 2 rfl
    clear hI1
    clear hI2
    go_wp2_with fail
    refine (hsm _ _ _ _ _ hRo hR).mono ?_
    rintro e Vc10 ⟨rfl, hb1⟩
    clear c0 c1 c2
    clear d0 d1 d2
    replace x0 := x0.below hb1
    replace x7 := x7.below hb1
    replace hR := hR.below hb1 (Nat.le_refl _)
    replace hRo := hRo.below hb1 (Nat.le_refl _)
    replace hb := hb.trans (hb1.mono hb.size)
    clear hb1
    have c0 := x0.cell 0 rfl; have c1 := x0.cell 1 rfl; have c2 := x0.cell 2 rfl
    have d0 := x7.cell 0 rfl; have d1 := x7.cell 1 rfl; have d2 := x7.cell 2 rfl
    clear hsm
    go_wp2_with fail
    refine (hwk _).mono ?_
    rintro e Vw ⟨rfl, hbw9⟩
    clear c0 c1 c2
    clear d0 d1 d2
    replace hb := hb.trans (hbw9.mono hb.size)
    go_wp2
    go_ret
    exact ⟨rfl, hb⟩
end Go.Proofs.Ytakodllejndfeaa
