import Derived.Test.YteianfbdhakhpaaM7
import Derived.Test.YteianfbdhakhpaaTW
import Derived.Test.YteianfbdhakhpaaUA
/-! The law of what is written. -/
namespace Go.Proofs.Yteianfbdhakhpaa
set_option linter.unusedSimpArgs false
set_option linter.unusedVariables false
open Go Go.RowKit

theorem wrE_of {X : Pu} {L : List Int} {t : Int} (hv : vB X = true) (hl : listB X L = true) (ht : fromI 0 t 99999 = true) : chkE X (wrO X L t) = 0 := by
  have : wrO X L t = true := by unfold wrO tmB; rw [hl, ht]; rfl
  unfold chkE; rw [this, hv]; rfl
set_option maxRecDepth 100000 in
set_option maxHeartbeats 1500000 in
theorem PulsesWritten_any (aT : Option Addr) (cT : Nat) (X : Pu) (aL : Option Addr) (cL : Nat) (L : List Int) (t : Int) (w : World) (hX : Ints w aT X.ts) (hL : Ints w aL L) : Calls Try.prog 6 #[.agg #[.int .i64 X.l, .int .i64 X.n, .int .i64 X.pi, .int .i64 X.sl, .int .i64 X.ga, .int .i64 X.pa, .int .i64 X.sp, .slice aT X.ts.length cT], .slice aL L.length cL, .int .i64 t] w fun e w' => e = .returned (.bool true) ∧ Below w.heap.size w w' := by
  obtain ⟨i0, hi0, iz0, iz1, iz2⟩ := info_parts info3i
  obtain ⟨W, hW, hb, _, x0⟩ := boxes1 w #[.int .i64 X.l, .int .i64 X.n, .int .i64 X.pi, .int .i64 X.sl, .int .i64 X.ga, .int .i64 X.pa, .int .i64 X.sp, .slice aT X.ts.length cT] 24
  replace hX := hX.below hb (Nat.le_refl _)
  replace hL := hL.below hb (Nat.le_refl _)
  have hck := fun V h => rCheck_any aT cT X V h
  have hil := fun V h => rIsList_any aT cT X aL cL L V h
  have hwi := fun V => Within_any 0 t 99999 V
  have hwr := fun b d V h hl => Write_any aT cT X b d L t V h hl
  have hcp := fun V h h1 => Copy_any aT cT X V h h1
  have hwk := fun V => works_any V
  have hckY : ∀ aQ cQ V, Ints V aQ (wrtL X L t) → Calls Try.prog 16 #[.agg #[.int .i64 X.l, .int .i64 X.n, .int .i64 X.pi, .int .i64 X.sl, .int .i64 X.ga, .int .i64 X.pa, .int .i64 0, .slice aQ (wrtL X L t).length cQ]] V _ := fun aQ cQ V h => rCheck_any aQ cQ (X.wr L t) V h
  have hreY : ∀ aQ cQ V, Ints V aQ (wrtL X L t) → Calls Try.prog 28 #[.agg #[.int .i64 X.l, .int .i64 X.n, .int .i64 X.pi, .int .i64 X.sl, .int .i64 X.ga, .int .i64 X.pa, .int .i64 0, .slice aQ (wrtL X L t).length cQ]] V _ := fun aQ cQ V h => Read_any aQ cQ (X.wr L t) V h
  have hmaY : ∀ aQ cQ V, Ints V aQ (wrtL X L t) → Calls Try.prog 24 #[.agg #[.int .i64 X.l, .int .i64 X.n, .int .i64 X.pi, .int .i64 X.sl, .int .i64 X.ga, .int .i64 X.pa, .int .i64 0, .slice aQ (wrtL X L t).length cQ]] V _ := fun aQ cQ V h => Many_any aQ cQ (X.wr L t) V h
  have hrlY : ∀ aQ cQ V, Ints V aQ (wrtL X L t) → Calls Try.prog 32 #[.agg #[.int .i64 X.l, .int .i64 X.n, .int .i64 X.pi, .int .i64 X.sl, .int .i64 X.ga, .int .i64 X.pa, .int .i64 0, .slice aQ (wrtL X L t).length cQ]] V _ := fun aQ cQ V h => Real_any aQ cQ (X.wr L t) V h
  unfold CpP at hcp
  unfold ReP at hwr hreY hrlY
  have HLR := hid hL.2.1
  have HVE := hid (show vE X = if vB X = true then 0 else 130 from rfl)
  have HRNG := hid (show listB X L = true → vB X = true → L.length ≤ 24 ∧ ∀ s ∈ L, 0 ≤ s ∧ s < X.l * X.n from fun h hv => by
    have := wrO_ok (X := X) (L := L) (t := 0) (vB_ok hv).1 (by unfold wrO; rw [h]; rfl)
    exact this.2)
  have HWE := hid (show vB X = true → listB X L = true → fromI 0 t 99999 = true → wrE X L t = (if wrB X L t = true then 0 else 131) ∧ wrLi X L t = (if wrB X L t = true then wrtL X L t else []) from fun h1 h2 h3 => by
    have hc := wrE_of h1 h2 h3
    have e : wrE X L t = if wrB X L t = true then 0 else 131 := by unfold wrE; rw [if_pos hc]
    refine ⟨e, ?_⟩
    unfold wrLi; rw [e]
    by_cases h : wrB X L t = true
    · rw [if_pos h, if_pos h, if_pos rfl]
    · rw [if_neg h, if_neg h, if_neg (by decide)])
  have HW := hid (show vB X = true → wrB X L t = true → (∀ s ∈ L, 0 ≤ s ∧ s < X.l * X.n) → vE (X.wr L t) = 0 ∧ erX (X.wr L t) true = 0 ∧ manN (X.wr L t) = 1 ∧ rdE (X.wr L t) true = 0 ∧ rdLi (X.wr L t) true = L ∧ (soX reB (X.wr L t)).length = (wrtL X L t).length from fun h1 h2 h3 => by
    have h := wr_law h1 h2 h3
    exact ⟨by unfold vE; rw [wr_valid h1 h2]; rfl, h.e, h.m, h.re, h.li, h.so⟩)
  have HW24 := hid (show wrB X L t = true → (wrtL X L t).length ≤ 24 from fun h => by
    unfold wrB at h
    rw [Bool.and_eq_true, decide_eq_true_eq] at h
    exact h.1)
  have HNL := hid (show (wrtL X L t).length = 0 ↔ L.length = 0 from wr_nil)
  have HFI := hid (show 0 < L.length → (wrtL X L t)[0]? = some t from fun h => by
    rcases L with _ | ⟨s, L⟩
    · simp at h
    · exact wr_first)
  generalize vE X = VE at *
  generalize vB X = vb at *
  generalize listB X L = lb at *
  generalize fromI 0 t 99999 = fb at *
  generalize wrB X L t = wb at *
  generalize wrE X L t = WE at *
  generalize wrLi X L t = WL at *
  generalize vE (X.wr L t) = VEY at *
  generalize erX (X.wr L t) true = ERY at *
  generalize manN (X.wr L t) = MNY at *
  generalize rdE (X.wr L t) true = REY at *
  generalize rdLi (X.wr L t) true = RLY at *
  generalize soX reB (X.wr L t) = SOY at *
  generalize wrtL X L t = TS at *
  generalize hnn : X.ts.length = n at *
  have HNN := hid hnn
  clear hnn
  generalize hts : X.ts = ts at *
  clear hts
  generalize hmm : L.length = m at *
  have HM := hid hmm.symm
  clear hmm
  go_enter Try.func6, Try.ntmps6
  have c0 := x0.cell 0 rfl; have c1 := x0.cell 1 rfl; have c2 := x0.cell 2 rfl; have c3 := x0.cell 3 rfl; have c4 := x0.cell 4 rfl; have c5 := x0.cell 5 rfl; have c6 := x0.cell 6 rfl; have c7 := x0.cell 7 rfl
  by_cases hn40 : n > 40
  · have hn40I : (n : Int) > 40 := by omega
    go_wp2_with fail
    refine (hwk _).mono ?_
    rintro e Vw ⟨rfl, hbw9⟩
    clear c0 c1 c2 c3 c4 c5 c6 c7
    replace hb := hb.trans (hbw9.mono hb.size)
    go_wp2
    go_ret
    exact ⟨rfl, hb⟩
  have hn40I : ¬ (n : Int) > 40 := by omega
  go_wp2_with fail
  refine (hck _ hX).mono ?_
  rintro e Vc2 ⟨rfl, hb1⟩
  clear c0 c1 c2 c3 c4 c5 c6 c7
  replace x0 := x0.below hb1
  replace hX := hX.below hb1 (Nat.le_refl _)
  replace hL := hL.below hb1 (Nat.le_refl _)
  replace hb := hb.trans (hb1.mono hb.size)
  clear hb1 hck hW
  have c0 := x0.cell 0 rfl; have c1 := x0.cell 1 rfl; have c2 := x0.cell 2 rfl; have c3 := x0.cell 3 rfl; have c4 := x0.cell 4 rfl; have c5 := x0.cell 5 rfl; have c6 := x0.cell 6 rfl; have c7 := x0.cell 7 rfl
  cases vb with
  | false =>
    obtain rfl : VE = 130 := HVE.out
    go_wp2_with fail
    refine (hwk _).mono ?_
    rintro e Vw ⟨rfl, hbw9⟩
    clear c0 c1 c2 c3 c4 c5 c6 c7
    replace hb := hb.trans (hbw9.mono hb.size)
    go_wp2
    go_ret
    exact ⟨rfl, hb⟩
  | true =>
    obtain rfl : VE = 0 := HVE.out
    by_cases hm40 : m > 40
    · have hm40I : (m : Int) > 40 := by omega
      go_wp2_with fail
      refine (hwk _).mono ?_
      rintro e Vw ⟨rfl, hbw9⟩
      clear c0 c1 c2 c3 c4 c5 c6 c7
      replace hb := hb.trans (hbw9.mono hb.size)
      go_wp2
      go_ret
      exact ⟨rfl, hb⟩
    have hm40I : ¬ (m : Int) > 40 := by omega
    go_wp2_with fail
    refine (hil _ hL).mono ?_
    rintro e Vc5 ⟨rfl, hb1⟩
    clear c0 c1 c2 c3 c4 c5 c6 c7
    replace x0 := x0.below hb1
    replace hX := hX.below hb1 (Nat.le_refl _)
    replace hL := hL.below hb1 (Nat.le_refl _)
    replace hb := hb.trans (hb1.mono hb.size)
    clear hb1 hil
    have c0 := x0.cell 0 rfl; have c1 := x0.cell 1 rfl; have c2 := x0.cell 2 rfl; have c3 := x0.cell 3 rfl; have c4 := x0.cell 4 rfl; have c5 := x0.cell 5 rfl; have c6 := x0.cell 6 rfl; have c7 := x0.cell 7 rfl
    cases lb with
    | false =>
      go_wp2_with fail
      refine (hwk _).mono ?_
      rintro e Vw ⟨rfl, hbw9⟩
      clear c0 c1 c2 c3 c4 c5 c6 c7
      replace hb := hb.trans (hbw9.mono hb.size)
      go_wp2
      go_ret
      exact ⟨rfl, hb⟩
    | true =>
      cases fb with
      | false =>
        go_wp2_with fail
        refine (hwi _).mono ?_
        rintro e Vc7 ⟨rfl, rfl⟩
        clear hwi
        go_wp2_with fail
        refine (hwk _).mono ?_
        rintro e Vw ⟨rfl, hbw9⟩
        clear c0 c1 c2 c3 c4 c5 c6 c7
        replace hb := hb.trans (hbw9.mono hb.size)
        go_wp2
        go_ret
        exact ⟨rfl, hb⟩
      | true =>
        go_wp2_with fail
        refine (hwi _).mono ?_
        rintro e Vc9 ⟨rfl, rfl⟩
        clear hwi
        have HR := HRNG.out
        have HE := HWE.out
        (try simp only [forall_const] at HR HE)
        have hm24 := HR.1
        have HSL := hid HR.2
        have HEH := hid HE
        clear HR HE HRNG HWE hn40 hm40
        clear c0 c1 c2 c3 c4 c5 c6 c7
        go_upto_region 3 with fail
        have S0 : BlS Vc5 Vc5.drew := (Below.refl Vc5.heap.size Vc5).drew
        refine wp_region_headW 11 (fun w' => BlS Vc5 w') (by kernel_rfl) (by kernel_rfl) ?_
        generalize Vc5.drew = Y0 at *
        refine HeadAt.takeW (i := 0) (.agg #[.int .i64 X.l, .int .i64 X.n, .int .i64 X.pi, .int .i64 X.sl, .int .i64 X.ga, .int .i64 X.pa, .int .i64 X.sp, .slice aT n cT]) rfl (by kernel_rfl) (.inl ⟨rfl, fun w' z => ?_⟩) S0 ?_
        · (have z0 := (x0.below z).cell 0 rfl; have z1 := (x0.below z).cell 1 rfl; have z2 := (x0.below z).cell 2 rfl; have z3 := (x0.below z).cell 3 rfl; have z4 := (x0.below z).cell 4 rfl; have z5 := (x0.below z).cell 5 rfl; have z6 := (x0.below z).cell 6 rfl; have z7 := (x0.below z).cell 7 rfl; simp [go_sem, z0, z1, z2, z3, z4, z5, z6, z7])
        (try simp only [Act.put, List.getElem_toArray, List.getElem_cons_succ, List.getElem_cons_zero, List.setIfInBounds_toArray, List.set_cons_succ, List.set_cons_zero])
        refine HeadAt.takeW (i := 2) (.slice aL m cL) rfl (by kernel_rfl) (.inl ⟨rfl, fun _ _ => by simp [go_sem]⟩) S0 ?_
        (try simp only [Act.put, List.getElem_toArray, List.getElem_cons_succ, List.getElem_cons_zero, List.setIfInBounds_toArray, List.set_cons_succ, List.set_cons_zero])
        refine HeadAt.takeW (i := 4) (.int .i64 t) rfl (by kernel_rfl) (.inl ⟨rfl, fun _ _ => by simp [go_sem]⟩) S0 ?_
        (try simp only [Act.put, List.getElem_toArray, List.getElem_cons_succ, List.getElem_cons_zero, List.setIfInBounds_toArray, List.set_cons_succ, List.set_cons_zero])
        skip
        refine HeadAt.one (i := 1) rfl (by kernel_rfl) ?_
        generalize hK : Upto _ _ = K0
        (try simp only [Act.put, List.getElem_toArray, List.getElem_cons_succ, List.getElem_cons_zero, List.setIfInBounds_toArray, List.set_cons_succ, List.set_cons_zero])
        have hb1 := below_one (w := Y0) (.cells #[] 3)
        have hA := own_litB Y0 3 1 (B := Y0.heap.size) (Nat.le_refl _)
        have HH := hid (And.intro hb1 (And.intro hA (show Y0.heap.size ≤ (Y0.alloc (.cells #[] 3)).heap.size by simp)))
        clear hb1 hA
        go_wp2_with fail
        replace S0 : BlS Vc5 (Y0.alloc (.cells #[] 3)) := Below.trans S0 (HH.out.1.mono (Below.size S0))
        subst hK
        refine ⟨S0, ?_⟩
        (try simp only [Act.put, List.getElem_toArray, List.getElem_cons_succ, List.getElem_cons_zero, List.setIfInBounds_toArray, List.set_cons_succ, List.set_cons_zero])
        obtain ⟨-, hA, hsz⟩ := HH.out
        clear HH
        generalize Y0.heap.size = gY at *
        generalize World.alloc _ _ = Y1 at *
        skip
        refine HeadAt.one (i := 3) rfl (by kernel_rfl) ?_
        generalize hK : Upto _ _ = K0
        (try simp only [Act.put, List.getElem_toArray, List.getElem_cons_succ, List.getElem_cons_zero, List.setIfInBounds_toArray, List.set_cons_succ, List.set_cons_zero])
        have hcl := (hL.below S0 (Nat.le_refl _)).cls
        have HLN := hid (show (L.map (Value.int .i64)).length = m * 1 by rw [List.length_map, HM.out, Nat.mul_one])
        go_wp2_with (at_builtin; refine wpList_appLit rfl (.tmp 44) (.tmp 45) 22 rfl gY 3 i0 (.int .i64 0) 1 8 under22 hi0 iz0 iz1 iz2 rfl (by decide) gY rfl hA aL m cL (L.map (Value.int .i64)) rfl HLN.out hcl (ints_oneC L) (by unfold maxLen; omega) (by omega) hsz ?_; intro vO W1 hownO hbO hplO)
        obtain ⟨b, d, rfl⟩ := own_slice2 hownO
        go_wp2_with fail
        have hzO := (own_nw hownO HM.out (by rw [← HM.out]; omega) HLR.out).1
        replace S0 : BlS Vc5 W1 := Below.trans S0 (hbO.mono (Below.size S0))
        subst hK
        refine ⟨S0, ?_⟩
        clear hownO hbO hplO hcl hA HLN hsz
        (try simp only [Act.put, List.getElem_toArray, List.getElem_cons_succ, List.getElem_cons_zero, List.setIfInBounds_toArray, List.set_cons_succ, List.set_cons_zero])
        refine HeadAt.one (i := 5) rfl (by kernel_rfl) ?_
        generalize hK : Upto _ _ = K0
        (try simp only [Act.put, List.getElem_toArray, List.getElem_cons_succ, List.getElem_cons_zero, List.setIfInBounds_toArray, List.set_cons_succ, List.set_cons_zero])
        have hwc := hwr b d _ (hX.below S0 (Nat.le_refl _)) hzO.i
        go_wp2_with fail
        refine hwc.mono ?_
        rintro e V9 ⟨hb9, a7, c7, rfl, z7⟩
        go_wp2_with fail
        replace S0 : BlS Vc5 V9 := Below.trans S0 (hb9.mono (Below.size S0))
        subst hK
        refine ⟨S0, ?_⟩
        clear hwc hwr hb9 hzO
        (try simp only [Act.put, List.getElem_toArray, List.getElem_cons_succ, List.getElem_cons_zero, List.setIfInBounds_toArray, List.set_cons_succ, List.set_cons_zero])
        refine HeadAt.takeW (i := 6) (.tuple #[.slice a7 WL.length c7, .int .i64 WE]) rfl (by kernel_rfl) (.inl ⟨rfl, fun _ _ => by simp [go_sem]⟩) S0 ?_
        (try simp only [Act.put, List.getElem_toArray, List.getElem_cons_succ, List.getElem_cons_zero, List.setIfInBounds_toArray, List.set_cons_succ, List.set_cons_zero])
        refine HeadAt.takeW (i := 7) (.slice a7 WL.length c7) rfl (by kernel_rfl) (.inl ⟨rfl, fun _ _ => by simp [go_sem]⟩) S0 ?_
        (try simp only [Act.put, List.getElem_toArray, List.getElem_cons_succ, List.getElem_cons_zero, List.setIfInBounds_toArray, List.set_cons_succ, List.set_cons_zero])
        refine HeadAt.takeW (i := 8) (.int .i64 WE) rfl (by kernel_rfl) (.inl ⟨rfl, fun _ _ => by simp [go_sem]⟩) S0 ?_
        (try simp only [Act.put, List.getElem_toArray, List.getElem_cons_succ, List.getElem_cons_zero, List.setIfInBounds_toArray, List.set_cons_succ, List.set_cons_zero])
        refine HeadAt.takeW (i := 9) (.slice a7 WL.length c7) rfl (by kernel_rfl) (.inl ⟨rfl, fun _ _ => by simp [go_sem]⟩) S0 ?_
        (try simp only [Act.put, List.getElem_toArray, List.getElem_cons_succ, List.getElem_cons_zero, List.setIfInBounds_toArray, List.set_cons_succ, List.set_cons_zero])
        refine HeadAt.takeW (i := 10) (.int .i64 WE) rfl (by kernel_rfl) (.inl ⟨rfl, fun _ _ => by simp [go_sem]⟩) S0 ?_
        (try simp only [Act.put, List.getElem_toArray, List.getElem_cons_succ, List.getElem_cons_zero, List.setIfInBounds_toArray, List.set_cons_succ, List.set_cons_zero])
        refine HeadAt.done (by kernel_rfl) ?_
        (try simp only [Act.put, List.drop_succ_cons, List.drop_zero, List.getElem_toArray, List.getElem_cons_succ, List.getElem_cons_zero])
        go_wp2_with fail
        refine NoPanic.normal ?_
        have hz7 := z7.i
        replace x0 := x0.below S0
        replace hX := hX.below S0 (Nat.le_refl _)
        replace hL := hL.below S0 (Nat.le_refl _)
        replace hb := hb.trans (Below.mono S0 hb.size)
        clear S0 z7
        obtain ⟨hE1, hE2⟩ := HEH.out
        cases wb with
        | false =>
          obtain rfl : WE = 131 := hE1
          obtain rfl : WL = [] := hE2
          go_wp2_with fail
          refine (hwk _).mono ?_
          rintro e Vw ⟨rfl, hbw9⟩
          replace hb := hb.trans (hbw9.mono hb.size)
          go_wp2
          go_ret
          exact ⟨rfl, hb⟩
        | true =>
          obtain rfl : WE = 0 := hE1
          obtain rfl : WL = TS := hE2
          have hH := HW.out
          (try simp only [forall_const] at hH)
          obtain ⟨q1, q2, q3, q4, q5, q6⟩ := hH HSL.out
          subst q1 q2 q3 q4
          have HSO := hid q6
          obtain rfl : RLY = L := q5
          clear HW hH q6
          have h24 := HW24.out rfl
          generalize hn7 : WL.length = n7 at *
          have HN7 := hid hn7.symm
          clear hn7
          have hg7 : ¬ (n7 : Int) > 24 := by omega
          have hRW := hid hz7.2.1
          by_cases hm0 : m = 0
          · have h70 : n7 = 0 := HNL.out.2 hm0
            have b1 : ((n7 : Int) == 0) = true := by simp [h70]
            have b2 : ((m : Int) == 0) = true := by simp [hm0]
            have b3 : ¬ (n7 : Int) > 0 := by omega
            clear hm0 h70 HNL HFI
            have c0 := x0.cell 0 rfl; have c1 := x0.cell 1 rfl; have c2 := x0.cell 2 rfl; have c3 := x0.cell 3 rfl; have c4 := x0.cell 4 rfl; have c5 := x0.cell 5 rfl; have c6 := x0.cell 6 rfl; have c7 := x0.cell 7 rfl
            go_wp2_with fail
            refine (hcp _ hX (by omega)).mono ?_
            rintro e Vq ⟨hb1, aQ, cQ, rfl, hQ⟩
            clear hQ
            clear c0 c1 c2 c3 c4 c5 c6 c7
            replace x0 := x0.below hb1
            replace hX := hX.below hb1 (Nat.le_refl _)
            replace hL := hL.below hb1 (Nat.le_refl _)
            replace hz7 := hz7.below hb1 (Nat.le_refl _)
            replace hb := hb.trans (hb1.mono hb.size)
            clear hb1 hcp
            clear x0 hX
            have H_hv := hid ((And.intro hL hz7))
            clear hL
            clear hz7
            have hba := below_one (w := Vq) (.cells #[.int .i64 X.l, .int .i64 X.n, .int .i64 X.pi, .int .i64 X.sl, .int .i64 X.ga, .int .i64 X.pa, .int .i64 X.sp, .slice aQ n cQ] 24)
            have HXa := hid (And.intro (hb.trans (hba.mono hb.size)) (And.intro (Bx.new Vq #[.int .i64 X.l, .int .i64 X.n, .int .i64 X.pi, .int .i64 X.sl, .int .i64 X.ga, .int .i64 X.pa, .int .i64 X.sp, .slice aQ n cQ] 24) (And.intro hba hb.size)))
            clear hba hb 
            go_upto_region 9 with fail
            obtain ⟨hb, x9, hv, hwz_x9⟩ := HXa.out
            clear HXa
            obtain ⟨sa_x9, hsa⟩ : ∃ q, q = Vq.heap.size := ⟨_, rfl⟩
            have HS_x9 := hid hsa
            rw [← hsa] at x9 hv hwz_x9 ⊢
            clear hsa
            generalize World.alloc _ _ = Va_x9 at *
            have HW_x9 := hid hwz_x9
            clear hwz_x9
            have hA := own_litB Va_x9 3 1 (B := Va_x9.heap.size) (Nat.le_refl _)
            have hb1 := below_one (w := Va_x9) (.cells #[] 3)
            have hvn := hv.trans (hb1.mono (Nat.le_of_lt x9.lt))
            have hcl := (H_hv.out.2.below hvn (by rw [HS_x9.out]; exact Nat.le_refl _)).cls
            have HXa := hid (And.intro (x9.below hb1) (And.intro hvn (And.intro (hb.trans (hb1.mono hb.size)) (And.intro hA x9.lt))))
            have HLN := hid (show (WL.map (Value.int .i64)).length = n7 * 1 by rw [List.length_map, HN7.out, Nat.mul_one])
            clear x9 hv hb hA hb1 hvn
            go_upto_region 10 with (at_builtin
                                    obtain ⟨x9, hv, hb, hA, hlt9⟩ := HXa.out
                                    refine wpList_appLit rfl (.tmp 89) (.tmp 90) 22 rfl Va_x9.heap.size 3 i0 (.int .i64 0) 1 8 under22 hi0 iz0 iz1 iz2 rfl (by decide) Va_x9.heap.size rfl hA _ n7 c7 (WL.map (Value.int .i64)) rfl HLN.out hcl (ints_oneC WL) (by unfold maxLen; omega) (by omega) (by simp) ?_
                                    intro vO W1 hownO hbO hplO
                                    clear hA
                                    obtain ⟨b, d, rfl⟩ := own_slice2 hownO
                                    replace hv := hv.trans (hbO.mono (Nat.le_of_lt x9.lt))
                                    replace hb := hb.trans (hbO.mono hb.size)
                                    replace x9 := x9.below hbO
                                    have e6 := x9.cell 6 rfl; have f6 := x9.free 6
                                    have e7 := x9.cell 7 rfl; have f7 := x9.free 7)
            have hzO := (own_nw hownO HN7.out (by rw [← HN7.out]; omega) hRW.out).1
            have y9 : Bx _ sa_x9 #[.int .i64 X.l, .int .i64 X.n, .int .i64 X.pi, .int .i64 X.sl, .int .i64 X.ga, .int .i64 X.pa, .int .i64 0, .slice b n7 d] 24 := (x9.set 6 (.int .i64 0)).set 7 (.slice b n7 d)
            have yv := (hv.setCell (p := ⟨sa_x9, 6, none⟩) (Nat.le_refl _) (.int .i64 0)).setCell (p := ⟨sa_x9, 7, none⟩) (Nat.le_refl _) (.slice b n7 d)
            have yb := (hb.setCell (p := ⟨sa_x9, 6, none⟩) HW_x9.out (.int .i64 0)).setCell (p := ⟨sa_x9, 7, none⟩) HW_x9.out (.slice b n7 d)
            have yo := (hzO.set ⟨sa_x9, 6, none⟩ (.int .i64 0) hlt9).set ⟨sa_x9, 7, none⟩ (.slice b n7 d) hlt9
            have HY := hid (And.intro y9 (And.intro yv (And.intro yb yo)))
            clear x9 hv hb hownO hzO y9 yv yb yo e6 f6 e7 f7 hbO hplO HXa hcl
            obtain ⟨x9, hv, hb, yo⟩ := HY.out
            clear HY
            generalize World.setCell _ _ _ = V0 at *
            have hL := (H_hv.out.1.below hv (by rw [HS_x9.out]; exact Nat.le_refl _))
            have hQ := yo.i
            clear hv yo
            have d0 := x9.cell 0 rfl; have d1 := x9.cell 1 rfl; have d2 := x9.cell 2 rfl; have d3 := x9.cell 3 rfl; have d4 := x9.cell 4 rfl; have d5 := x9.cell 5 rfl; have d6 := x9.cell 6 rfl; have d7 := x9.cell 7 rfl
            go_wp2_with fail
            refine (hckY b d _ hQ).mono ?_
            rintro e Vc13 ⟨rfl, hb1⟩
            clear d0 d1 d2 d3 d4 d5 d6 d7
            replace x9 := x9.below hb1
            replace hL := hL.below hb1 (Nat.le_refl _)
            replace hQ := hQ.below hb1 (Nat.le_refl _)
            replace hb := hb.trans (hb1.mono hb.size)
            clear hb1 hckY
            have d0 := x9.cell 0 rfl; have d1 := x9.cell 1 rfl; have d2 := x9.cell 2 rfl; have d3 := x9.cell 3 rfl; have d4 := x9.cell 4 rfl; have d5 := x9.cell 5 rfl; have d6 := x9.cell 6 rfl; have d7 := x9.cell 7 rfl
            go_wp2_with fail
            refine (hreY b d _ hQ).mono ?_
            rintro e Vc14 ⟨hb1, a1, k1, rfl, z1⟩
            clear d0 d1 d2 d3 d4 d5 d6 d7
            replace x9 := x9.below hb1
            replace hL := hL.below hb1 (Nat.le_refl _)
            replace hQ := hQ.below hb1 (Nat.le_refl _)
            replace hb := hb.trans (hb1.mono hb.size)
            clear hb1 hreY
            have d0 := x9.cell 0 rfl; have d1 := x9.cell 1 rfl; have d2 := x9.cell 2 rfl; have d3 := x9.cell 3 rfl; have d4 := x9.cell 4 rfl; have d5 := x9.cell 5 rfl; have d6 := x9.cell 6 rfl; have d7 := x9.cell 7 rfl
            go_wp2_with fail
            refine (hmaY b d _ hQ).mono ?_
            rintro e Vc15 ⟨rfl, hb1⟩
            clear d0 d1 d2 d3 d4 d5 d6 d7
            replace x9 := x9.below hb1
            replace hL := hL.below hb1 (Nat.le_refl _)
            replace hQ := hQ.below hb1 (Nat.le_refl _)
            replace z1 := z1.below hb1
            replace hb := hb.trans (hb1.mono hb.size)
            clear hb1 hmaY
            have d0 := x9.cell 0 rfl; have d1 := x9.cell 1 rfl; have d2 := x9.cell 2 rfl; have d3 := x9.cell 3 rfl; have d4 := x9.cell 4 rfl; have d5 := x9.cell 5 rfl; have d6 := x9.cell 6 rfl; have d7 := x9.cell 7 rfl
            go_wp2_with fail
            refine (hrlY b d _ hQ).mono ?_
            rintro e Vc16 ⟨hb1, a2, k2, rfl, -⟩
            clear d0 d1 d2 d3 d4 d5 d6 d7
            replace x9 := x9.below hb1
            replace hL := hL.below hb1 (Nat.le_refl _)
            replace hQ := hQ.below hb1 (Nat.le_refl _)
            replace z1 := z1.below hb1
            replace hb := hb.trans (hb1.mono hb.size)
            clear hb1 hrlY
            have d0 := x9.cell 0 rfl; have d1 := x9.cell 1 rfl; have d2 := x9.cell 2 rfl; have d3 := x9.cell 3 rfl; have d4 := x9.cell 4 rfl; have d5 := x9.cell 5 rfl; have d6 := x9.cell 6 rfl; have d7 := x9.cell 7 rfl
            clear d0 d1 d2 d3 d4 d5 d6 d7
            clear x9 hQ
            rw [HSO.out, ← HM.out]
            have hsm := SameInts_any a1 aL k1 cL RLY RLY _ z1.i hL
            rw [decide_eq_true (rfl : RLY = RLY), ← HM.out] at hsm
            have hnn7 : ((n7 : Int) == (n7 : Int)) = true := by simp
            go_wp2_with fail
            refine (hsm).mono ?_
            rintro e Vc17 ⟨rfl, hb1⟩
            replace hL := hL.below hb1 (Nat.le_refl _)
            replace z1 := z1.below hb1
            replace hb := hb.trans (hb1.mono hb.size)
            clear hb1 hsm
            go_wp2_with fail
            refine (hwk _).mono ?_
            rintro e Vw ⟨rfl, hbw9⟩
            replace hb := hb.trans (hbw9.mono hb.size)
            go_wp2
            go_ret
            exact ⟨rfl, hb⟩
          · have h70 : n7 ≠ 0 := fun h => hm0 (HNL.out.1 h)
            have b1 : ((n7 : Int) == 0) = false := by rw [beq_eq_false_iff_ne]; omega
            have b2 : ((m : Int) == 0) = false := by rw [beq_eq_false_iff_ne]; omega
            have b3 : (n7 : Int) > 0 := by omega
            have b4 : (0 : Int) < (n7 : Int) := by omega
            obtain ⟨g7, o7, y, rfl, _, hc0, _, _, hg0, _⟩ := hz7.at (k := 0) (by rw [← HN7.out]; omega)
            obtain rfl : t = y := by have := hg0.out; rw [HFI.out (by omega)] at this; injection this
            have b5 : (t != t) = false := by simp
            rw [Nat.add_zero] at hc0
            clear hm0 h70 HNL HFI hg0
            have c0 := x0.cell 0 rfl; have c1 := x0.cell 1 rfl; have c2 := x0.cell 2 rfl; have c3 := x0.cell 3 rfl; have c4 := x0.cell 4 rfl; have c5 := x0.cell 5 rfl; have c6 := x0.cell 6 rfl; have c7 := x0.cell 7 rfl
            go_wp2_with fail
            refine (hcp _ hX (by omega)).mono ?_
            rintro e Vq ⟨hb1, aQ, cQ, rfl, hQ⟩
            clear hQ
            clear c0 c1 c2 c3 c4 c5 c6 c7
            replace x0 := x0.below hb1
            replace hX := hX.below hb1 (Nat.le_refl _)
            replace hL := hL.below hb1 (Nat.le_refl _)
            replace hz7 := hz7.below hb1 (Nat.le_refl _)
            replace hb := hb.trans (hb1.mono hb.size)
            clear hb1 hcp
            clear x0 hX
            have H_hv := hid ((And.intro hL hz7))
            clear hL
            clear hz7
            have hba := below_one (w := Vq) (.cells #[.int .i64 X.l, .int .i64 X.n, .int .i64 X.pi, .int .i64 X.sl, .int .i64 X.ga, .int .i64 X.pa, .int .i64 X.sp, .slice aQ n cQ] 24)
            have HXa := hid (And.intro (hb.trans (hba.mono hb.size)) (And.intro (Bx.new Vq #[.int .i64 X.l, .int .i64 X.n, .int .i64 X.pi, .int .i64 X.sl, .int .i64 X.ga, .int .i64 X.pa, .int .i64 X.sp, .slice aQ n cQ] 24) (And.intro hba hb.size)))
            clear hba hb 
            go_upto_region 9 with fail
            obtain ⟨hb, x9, hv, hwz_x9⟩ := HXa.out
            clear HXa
            obtain ⟨sa_x9, hsa⟩ : ∃ q, q = Vq.heap.size := ⟨_, rfl⟩
            have HS_x9 := hid hsa
            rw [← hsa] at x9 hv hwz_x9 ⊢
            clear hsa
            generalize World.alloc _ _ = Va_x9 at *
            have HW_x9 := hid hwz_x9
            clear hwz_x9
            have hA := own_litB Va_x9 3 1 (B := Va_x9.heap.size) (Nat.le_refl _)
            have hb1 := below_one (w := Va_x9) (.cells #[] 3)
            have hvn := hv.trans (hb1.mono (Nat.le_of_lt x9.lt))
            have hcl := (H_hv.out.2.below hvn (by rw [HS_x9.out]; exact Nat.le_refl _)).cls
            have HXa := hid (And.intro (x9.below hb1) (And.intro hvn (And.intro (hb.trans (hb1.mono hb.size)) (And.intro hA x9.lt))))
            have HLN := hid (show (WL.map (Value.int .i64)).length = n7 * 1 by rw [List.length_map, HN7.out, Nat.mul_one])
            clear x9 hv hb hA hb1 hvn
            go_upto_region 10 with (at_builtin
                                    obtain ⟨x9, hv, hb, hA, hlt9⟩ := HXa.out
                                    refine wpList_appLit rfl (.tmp 89) (.tmp 90) 22 rfl Va_x9.heap.size 3 i0 (.int .i64 0) 1 8 under22 hi0 iz0 iz1 iz2 rfl (by decide) Va_x9.heap.size rfl hA _ n7 c7 (WL.map (Value.int .i64)) rfl HLN.out hcl (ints_oneC WL) (by unfold maxLen; omega) (by omega) (by simp) ?_
                                    intro vO W1 hownO hbO hplO
                                    clear hA
                                    obtain ⟨b, d, rfl⟩ := own_slice2 hownO
                                    replace hv := hv.trans (hbO.mono (Nat.le_of_lt x9.lt))
                                    replace hb := hb.trans (hbO.mono hb.size)
                                    replace x9 := x9.below hbO
                                    have e6 := x9.cell 6 rfl; have f6 := x9.free 6
                                    have e7 := x9.cell 7 rfl; have f7 := x9.free 7)
            have hzO := (own_nw hownO HN7.out (by rw [← HN7.out]; omega) hRW.out).1
            have y9 : Bx _ sa_x9 #[.int .i64 X.l, .int .i64 X.n, .int .i64 X.pi, .int .i64 X.sl, .int .i64 X.ga, .int .i64 X.pa, .int .i64 0, .slice b n7 d] 24 := (x9.set 6 (.int .i64 0)).set 7 (.slice b n7 d)
            have yv := (hv.setCell (p := ⟨sa_x9, 6, none⟩) (Nat.le_refl _) (.int .i64 0)).setCell (p := ⟨sa_x9, 7, none⟩) (Nat.le_refl _) (.slice b n7 d)
            have yb := (hb.setCell (p := ⟨sa_x9, 6, none⟩) HW_x9.out (.int .i64 0)).setCell (p := ⟨sa_x9, 7, none⟩) HW_x9.out (.slice b n7 d)
            have yo := (hzO.set ⟨sa_x9, 6, none⟩ (.int .i64 0) hlt9).set ⟨sa_x9, 7, none⟩ (.slice b n7 d) hlt9
            have HY := hid (And.intro y9 (And.intro yv (And.intro yb yo)))
            clear x9 hv hb hownO hzO y9 yv yb yo e6 f6 e7 f7 hbO hplO HXa hcl
            obtain ⟨x9, hv, hb, yo⟩ := HY.out
            clear HY
            generalize World.setCell _ _ _ = V0 at *
            have hL := (H_hv.out.1.below hv (by rw [HS_x9.out]; exact Nat.le_refl _))
            have hQ := yo.i
            clear hv yo
            have d0 := x9.cell 0 rfl; have d1 := x9.cell 1 rfl; have d2 := x9.cell 2 rfl; have d3 := x9.cell 3 rfl; have d4 := x9.cell 4 rfl; have d5 := x9.cell 5 rfl; have d6 := x9.cell 6 rfl; have d7 := x9.cell 7 rfl
            go_wp2_with fail
            refine (hckY b d _ hQ).mono ?_
            rintro e Vc71 ⟨rfl, hb1⟩
            clear d0 d1 d2 d3 d4 d5 d6 d7
            replace x9 := x9.below hb1
            replace hL := hL.below hb1 (Nat.le_refl _)
            replace hQ := hQ.below hb1 (Nat.le_refl _)
            replace hb := hb.trans (hb1.mono hb.size)
            clear hb1 hckY
            have d0 := x9.cell 0 rfl; have d1 := x9.cell 1 rfl; have d2 := x9.cell 2 rfl; have d3 := x9.cell 3 rfl; have d4 := x9.cell 4 rfl; have d5 := x9.cell 5 rfl; have d6 := x9.cell 6 rfl; have d7 := x9.cell 7 rfl
            go_wp2_with fail
            refine (hreY b d _ hQ).mono ?_
            rintro e Vc72 ⟨hb1, a1, k1, rfl, z1⟩
            clear d0 d1 d2 d3 d4 d5 d6 d7
            replace x9 := x9.below hb1
            replace hL := hL.below hb1 (Nat.le_refl _)
            replace hQ := hQ.below hb1 (Nat.le_refl _)
            replace hb := hb.trans (hb1.mono hb.size)
            clear hb1 hreY
            have d0 := x9.cell 0 rfl; have d1 := x9.cell 1 rfl; have d2 := x9.cell 2 rfl; have d3 := x9.cell 3 rfl; have d4 := x9.cell 4 rfl; have d5 := x9.cell 5 rfl; have d6 := x9.cell 6 rfl; have d7 := x9.cell 7 rfl
            go_wp2_with fail
            refine (hmaY b d _ hQ).mono ?_
            rintro e Vc73 ⟨rfl, hb1⟩
            clear d0 d1 d2 d3 d4 d5 d6 d7
            replace x9 := x9.below hb1
            replace hL := hL.below hb1 (Nat.le_refl _)
            replace hQ := hQ.below hb1 (Nat.le_refl _)
            replace z1 := z1.below hb1
            replace hb := hb.trans (hb1.mono hb.size)
            clear hb1 hmaY
            have d0 := x9.cell 0 rfl; have d1 := x9.cell 1 rfl; have d2 := x9.cell 2 rfl; have d3 := x9.cell 3 rfl; have d4 := x9.cell 4 rfl; have d5 := x9.cell 5 rfl; have d6 := x9.cell 6 rfl; have d7 := x9.cell 7 rfl
            go_wp2_with fail
            refine (hrlY b d _ hQ).mono ?_
            rintro e Vc74 ⟨hb1, a2, k2, rfl, -⟩
            clear d0 d1 d2 d3 d4 d5 d6 d7
            replace x9 := x9.below hb1
            replace hL := hL.below hb1 (Nat.le_refl _)
            replace hQ := hQ.below hb1 (Nat.le_refl _)
            replace z1 := z1.below hb1
            replace hb := hb.trans (hb1.mono hb.size)
            clear hb1 hrlY
            have d0 := x9.cell 0 rfl; have d1 := x9.cell 1 rfl; have d2 := x9.cell 2 rfl; have d3 := x9.cell 3 rfl; have d4 := x9.cell 4 rfl; have d5 := x9.cell 5 rfl; have d6 := x9.cell 6 rfl; have d7 := x9.cell 7 rfl
            clear d0 d1 d2 d3 d4 d5 d6 d7
            clear x9 hQ
            rw [HSO.out, ← HM.out]
            have hsm := SameInts_any a1 aL k1 cL RLY RLY _ z1.i hL
            rw [decide_eq_true (rfl : RLY = RLY), ← HM.out] at hsm
            have hnn7 : ((n7 : Int) == (n7 : Int)) = true := by simp
            go_wp2_with fail
            refine (hsm).mono ?_
            rintro e Vc75 ⟨rfl, hb1⟩
            replace hL := hL.below hb1 (Nat.le_refl _)
            replace z1 := z1.below hb1
            replace hb := hb.trans (hb1.mono hb.size)
            clear hb1 hsm
            go_wp2_with fail
            refine (hwk _).mono ?_
            rintro e Vw ⟨rfl, hbw9⟩
            replace hb := hb.trans (hbw9.mono hb.size)
            go_wp2
            go_ret
            exact ⟨rfl, hb⟩
end Go.Proofs.Yteianfbdhakhpaa
