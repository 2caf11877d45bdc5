import Derived.Test.YteianfbdhakhpaaMA
import Derived.Test.YteianfbdhakhpaaV4
/-! The specification's Write. -/
namespace Go.Proofs.Yteianfbdhakhpaa
set_option linter.unusedSimpArgs false
set_option linter.unusedVariables false
open Go Go.RowKit
/-- The times so far, and the last one. -/
def WSt (X : Pu) (t : Int) (A : List Int) (now : Int) (C : List Int) : Prop := C = accL (t - X.pa) A ∧ now = (if A = [] then t else sumL (t - X.pa) A)
theorem WSt.step {X : Pu} {t : Int} {A : List Int} {now : Int} {C : List Int} (h : WSt X t A now C) (hA : A ≠ []) (d : Int) : WSt X t (A ++ [d]) (now + d) (C ++ [now + d]) := by
  obtain ⟨rfl, h2⟩ := h
  rw [if_neg hA] at h2
  subst h2
  refine ⟨?_, ?_⟩
  · rw [accL_app]; rfl
  · rw [if_neg (by simp)]; unfold sumL; rw [List.foldl_append]; rfl
theorem WSt.first {X : Pu} {t now : Int} {C : List Int} (h : WSt X t [] now C) : WSt X t ([] ++ [X.pa]) now (C ++ [now]) := by
  obtain ⟨rfl, h2⟩ := h
  rw [if_pos rfl] at h2
  subst h2
  refine ⟨?_, ?_⟩
  · show [now] = [now - X.pa + X.pa]
    rw [Int.sub_add_cancel]
  · show now = now - X.pa + X.pa
    omega
theorem dsL_len (X : Pu) (s : Int) : (dsL X s).length = (s / X.n).toNat + (s % X.n).toNat + 2 := by
  rw [dsL_rst]; simp [rst]; omega
theorem take_at {l : List Int} {q : Nat} {d : Int} (h : l[q]? = some d) : l.take (q + 1) = l.take q ++ [d] := by
  rw [List.take_add_one, h]; rfl
theorem alD_ne {X : Pu} {L : List Int} {i : Nat} (hi : 0 < i) (hl : i ≤ L.length) : alD X (L.take i) ≠ [] := by
  intro h
  have h1 : (alD X (L.take i)).length = 0 := by rw [h]; rfl
  cases L with
  | nil => simp at hl; omega
  | cons s L =>
    obtain ⟨j, rfl⟩ : ∃ j, i = j + 1 := ⟨i - 1, by omega⟩
    rw [List.take_succ_cons] at h1
    unfold alD at h1
    rw [List.flatMap_cons, List.length_append, dsL_len] at h1
    omega
theorem alD_next {X : Pu} {L : List Int} {i : Nat} {s : Int} (h : L[i]? = some s) : alD X (L.take (i + 1)) = alD X (L.take i) ++ dsL X s := by
  rw [take_at h, alD_snoc]
set_option maxRecDepth 100000 in
set_option maxHeartbeats 12000000 in
theorem rWrite_any (aT : Option Addr) (cT : Nat) (X : Pu) (aL : Option Addr) (cL : Nat) (L : List Int) (t : Int) (w : World) (hX : Ints w aT X.ts) (hL : Ints w aL L) : Calls Try.prog 18 #[.agg #[.int .i64 X.l, .int .i64 X.n, .int .i64 X.pi, .int .i64 X.sl, .int .i64 X.ga, .int .i64 X.pa, .int .i64 X.sp, .slice aT X.ts.length cT], .slice aL L.length cL, .int .i64 t] w (ReP (wrE X L t) (wrLi X L t) w) := by
  obtain ⟨i0, hi0, iz0, iz1, iz2⟩ := info_parts info3i
  obtain ⟨W, hW, hb, _, x0⟩ := boxes1 w #[.int .i64 X.l, .int .i64 X.n, .int .i64 X.pi, .int .i64 X.sl, .int .i64 X.ga, .int .i64 X.pa, .int .i64 X.sp, .slice aT X.ts.length cT] 24
  replace hX := hX.below hb (Nat.le_refl _)
  replace hL := hL.below hb (Nat.le_refl _)
  have hck := fun V h => rCheck_any aT cT X V h
  have hil := fun V h => rIsList_any aT cT X aL cL L V h
  have hwi := fun V => within_any 0 t 99999 V
  have HVE := hid (show vE X = if vB X = true then 0 else 130 from rfl)
  have HCE := hid (show chkE X (wrO X L t) = if vB X = true then (if (listB X L && fromI 0 t 99999) = true then 0 else 1) else 130 from rfl)
  have HWE := hid (show wrE X L t = if chkE X (wrO X L t) = 0 then (if wrB X L t = true then 0 else 131) else chkE X (wrO X L t) from rfl)
  have HWL := hid (show wrLi X L t = if wrE X L t = 0 then wrtL X L t else [] from rfl)
  have HOK := hid (show vB X = true → (listB X L && fromI 0 t 99999) = true → POk X ∧ (0 ≤ t ∧ t ≤ 99999) ∧ L.length ≤ 24 ∧ ∀ s ∈ L, 0 ≤ s ∧ s < X.l * X.n from fun h1 h2 => by
    have ok := (vB_ok h1).1
    exact ⟨ok, wrO_ok ok h2⟩)
  have HRES := hid (show POk X → (0 ≤ t ∧ t ≤ 99999) → ∀ now C, WSt X t (alD X L) now C → C = wrtL X L t ∧ (wrB X L t = true ↔ (C.length ≤ 24 ∧ (0 < C.length → now ≤ 99999))) from fun ok ht now C h => by
    obtain ⟨h1, h2⟩ := h
    have hC : C = wrtL X L t := h1
    refine ⟨hC, ?_⟩
    rw [hC]
    unfold wrB
    rw [Bool.and_eq_true, decide_eq_true_eq, decide_eq_true_eq]
    cases L with
    | nil => simp [wrtL, alD, accL, cntF]
    | cons s L =>
      have hne : alD X (s :: L) ≠ [] := by
        have := alD_ne (X := X) (L := s :: L) (i := 1) (by omega) (by simp)
        intro h
        apply this
        show alD X [s] = []
        rw [alD, List.flatMap_cons] at h
        rw [alD, List.flatMap_cons]
        have := (List.append_eq_nil_iff.1 h).1
        rw [this]; rfl
      rw [if_neg hne] at h2
      rw [wr_times ok (by simp) ht.1, show lastW X (s :: L) t = now from h2.symm]
      constructor
      · rintro ⟨q1, q2⟩; exact ⟨q1, fun _ => q2⟩
      · rintro ⟨q1, q2⟩; exact ⟨q1, q2 (by rw [wrtL_cons]; simp)⟩)
  generalize vE X = VE at *
  generalize vB X = vb at *
  generalize listB X L = lb at *
  generalize fromI 0 t 99999 = fb at *
  generalize chkE X (wrO X L t) = CE at *
  generalize wrE X L t = WE at *
  generalize wrLi X L t = WL at *
  generalize X.ts.length = nT at *
  obtain ⟨m, hm⟩ : ∃ m, m = L.length := ⟨_, rfl⟩
  have HM := hid hm
  rw [← hm] at hil ⊢
  clear hm
  have hws := hb.size
  have c0 := x0.cell 0 rfl; have c1 := x0.cell 1 rfl; have c2 := x0.cell 2 rfl; have c3 := x0.cell 3 rfl; have c4 := x0.cell 4 rfl; have c5 := x0.cell 5 rfl; have c6 := x0.cell 6 rfl; have c7 := x0.cell 7 rfl
  go_enter Try.func18, Try.ntmps18
  go_wp2_with fail
  refine (hck _ hX).mono ?_
  rintro e V1 ⟨rfl, hb1⟩
  clear c0 c1 c2 c3 c4 c5 c6 c7 hck hW
  replace x0 := x0.below hb1
  replace hX := hX.below hb1 (Nat.le_refl _)
  replace hL := hL.below hb1 (Nat.le_refl _)
  replace hb := hb.trans (hb1.mono hb.size)
  clear hb1
  cases vb with
  | false =>
    obtain rfl : VE = 130 := HVE.out
    obtain rfl : CE = 130 := HCE.out
    obtain rfl : WE = 130 := HWE.out
    obtain rfl : WL = [] := HWL.out
    clear hX hL x0
    go_wp2
    go_ret2
    exact ⟨hb, none, 0, rfl, Iz.none_ _ _⟩
  | true =>
    obtain rfl : VE = 0 := HVE.out
    have c0 := x0.cell 0 rfl; have c1 := x0.cell 1 rfl; have c2 := x0.cell 2 rfl; have c3 := x0.cell 3 rfl; have c4 := x0.cell 4 rfl; have c5 := x0.cell 5 rfl; have c6 := x0.cell 6 rfl; have c7 := x0.cell 7 rfl
    go_wp2_with fail
    refine (hil _ hL).mono ?_
    rintro e V2 ⟨rfl, hb1⟩
    clear c0 c1 c2 c3 c4 c5 c6 c7 hil
    replace x0 := x0.below hb1
    replace hL := hL.below hb1 (Nat.le_refl _)
    replace hb := hb.trans (hb1.mono hb.size)
    clear hb1 hX
    cases lb with
    | false =>
      obtain rfl : CE = 1 := HCE.out
      obtain rfl : WE = 1 := HWE.out
      obtain rfl : WL = [] := HWL.out
      clear hL x0
      go_wp2
      go_ret2
      exact ⟨hb, none, 0, rfl, Iz.none_ _ _⟩
    | true =>
      go_wp2_with fail
      refine (hwi _).mono ?_
      rintro e V3 ⟨rfl, hV⟩
      subst hV
      clear hwi
      cases fb with
      | false =>
        obtain rfl : CE = 1 := HCE.out
        obtain rfl : WE = 1 := HWE.out
        obtain rfl : WL = [] := HWL.out
        clear hL x0
        go_wp2
        go_ret2
        exact ⟨hb, none, 0, rfl, Iz.none_ _ _⟩
      | true =>
        obtain rfl : CE = 0 := HCE.out
        obtain ⟨ok, ht, hm24, hLr⟩ := HOK.out (by trivial) (by trivial)
        have hWE := HWE.out
        rw [if_pos rfl] at hWE
        have HWE2 := hid hWE
        have HRS := hid (HRES.out ok ht)
        rw [← HM.out] at hm24
        have k1 := ok.l; have k2 := ok.n; have k3 := ok.pi; have k4 := ok.sl; have k5 := ok.ga; have k6 := ok.pa
        have HLR := hid hLr
        have HX0 := hid x0
        have HL := hid hL
        have HB := hid hb
        clear hL x0 hb HRES HOK HCE HVE HWE hWE hLr ok
        go_wp2
        go_loopw [9, 10, 11] (fun v9 v10 v11 wr => ∃ (i p : Nat) (a : Option Addr) (c : Nat) (now : Int) (C : List Int), i ≤ m ∧ v11 = .int .i64 (i : Int) ∧ v10 = .int .i64 now ∧ v9 = .slice a p c ∧ p ≤ 10 * i ∧ 0 ≤ now ∧ now ≤ 99999 + 999 * p ∧ Hid (WSt X t (alD X (L.take i)) now C ∧ p = C.length ∧ ∀ x ∈ C, 0 ≤ x ∧ x ≤ 1000000) ∧ wr.ownsRow V2.heap.size 3 1 (.slice a p c) p (C.map (Value.int .i64)) ∧ Below V2.heap.size V2 wr) (fun _ _ v11 _ => m - (intOf v11).toNat)
        case atStart => exact ⟨0, 0, none, 0, t, [], Nat.zero_le _, rfl, rfl, rfl, by omega, ht.1, by omega, hid ⟨⟨rfl, rfl⟩, rfl, fun _ h => nomatch h⟩, World.ownsRow_nil _ _ _ _, Below.refl _ _⟩
        case round =>
          obtain ⟨i, p, a, c, now, C, hi, rfl, rfl, rfl, hp, hn1, hn2, HC, hown, hb⟩ := hrel
          by_cases hlt : i < m
          · obtain ⟨b, off, s, rfl, hbl, hc, hy1, hy2, hg, _⟩ := (HL.out.below hb (Nat.le_refl _)).at (k := i) (by rw [← HM.out]; exact hlt)
            have hsr := HLR.out s (List.mem_of_getElem? hg.out)
            have hiI : (i : Int) < m := by omega
            have hiz0 : (0 : Int) ≤ (i : Int) := by omega
            have hcl : ClB wr b (off + i) (.int .i64 s) := ⟨hc, hbl⟩
            have x0 := HX0.out.below hb
            obtain ⟨a1, ha1⟩ : ∃ a1, a1 = (s / X.n).toNat := ⟨_, rfl⟩
            obtain ⟨b1, hb1⟩ : ∃ b1, b1 = (s % X.n).toNat := ⟨_, rfl⟩
            have hd0 : 0 ≤ s / X.n := Int.ediv_nonneg hsr.1 (by omega)
            have hd1 : s / X.n < X.l := Int.ediv_lt_of_lt_mul (by omega) (by have := hsr.2; rw [Int.mul_comm] at this; rw [Int.mul_comm]; exact this)
            have hr0 : 0 ≤ s % X.n := Int.emod_nonneg _ (by omega)
            have hr1 : s % X.n < X.n := Int.emod_lt_of_pos _ (by omega)
            have ha4 : a1 ≤ 4 := by omega
            have hb4 : b1 ≤ 4 := by omega
            have hqa : s.tdiv X.n = (a1 : Int) := by rw [Int.tdiv_eq_ediv_of_nonneg hsr.1]; omega
            have hqb : s.tmod X.n = (b1 : Int) := by rw [Int.tmod_eq_emod_of_nonneg hsr.1]; omega
            have HDL := hid (show ∀ q, (dsL X s)[q]? = if q = 0 then some X.pa else if q ≤ a1 then some X.pi else if q = a1 + 1 then some X.ga else if q ≤ a1 + 1 + b1 then some X.pi else none from fun q => by rw [hb1]; exact dsL_at ha1)
            have HDN := hid (show (dsL X s).length = a1 + b1 + 2 by rw [dsL_len, ha1, hb1])
            have HNX := hid (show alD X (L.take (i + 1)) = alD X (L.take i) ++ dsL X s from alD_next hg.out)
            have HNE := hid (show 0 < i → alD X (L.take i) ≠ [] from fun h => alD_ne h (by rw [← HM.out]; omega))
            have HN0 := hid (show i = 0 → alD X (L.take i) = [] from fun h => by rw [h]; rfl)
            have hn0 : ¬ X.n = 0 := by omega
            generalize dsL X s = DS at *
            generalize alD X (L.take i) = A0 at *
            clear hg hc hy1 hy2 hsr hd0 hd1 hr0 hr1 ha1 hb1
            go_upto_region 11 with fail
            have S0 : BlS wr wr.drew := (Below.refl wr.heap.size wr).drew
            refine wp_region_headW 18 (fun w' => BlS wr w') (by kernel_rfl) (by kernel_rfl) ?_
            generalize wr.drew = Y0 at *
            refine HeadAt.takeW (i := 0) (.slice (some ⟨b, off, none⟩) m cL) rfl (by kernel_rfl) (.inl ⟨rfl, fun _ _ => by simp [go_sem]⟩) S0 ?_
            (try simp only [Act.put, List.getElem_toArray, List.getElem_cons_succ, List.getElem_cons_zero, List.setIfInBounds_toArray, List.set_cons_succ, List.set_cons_zero])
            refine HeadAt.takeW (i := 1) (.int .i64 (i : Int)) rfl (by kernel_rfl) (.inl ⟨rfl, fun _ _ => by simp [go_sem]⟩) S0 ?_
            (try simp only [Act.put, List.getElem_toArray, List.getElem_cons_succ, List.getElem_cons_zero, List.setIfInBounds_toArray, List.set_cons_succ, List.set_cons_zero])
            refine HeadAt.takeW (i := 2) (.pointer (some ⟨b, off + i, none⟩)) rfl (by kernel_rfl) (.inl ⟨rfl, fun w' z => ?_⟩) S0 ?_
            · (have i1 : (0 : Int) ≤ (i : Int) := (by omega); have i2 : (i : Int) < (m : Int) := (by omega); simp [go_sem, i1, i2])
            (try simp only [Act.put, List.getElem_toArray, List.getElem_cons_succ, List.getElem_cons_zero, List.setIfInBounds_toArray, List.set_cons_succ, List.set_cons_zero])
            refine HeadAt.takeW (i := 3) (.int .i64 s) rfl (by kernel_rfl) (.inl ⟨rfl, fun w' z => ?_⟩) S0 ?_
            · (have z0 := (hcl.below z).1; simp [go_sem, z0])
            (try simp only [Act.put, List.getElem_toArray, List.getElem_cons_succ, List.getElem_cons_zero, List.setIfInBounds_toArray, List.set_cons_succ, List.set_cons_zero])
            refine HeadAt.takeW (i := 4) (.pointer (some ⟨w.heap.size, 1, none⟩)) rfl (by kernel_rfl) (.inl ⟨rfl, fun _ _ => by simp [go_sem]⟩) S0 ?_
            (try simp only [Act.put, List.getElem_toArray, List.getElem_cons_succ, List.getElem_cons_zero, List.setIfInBounds_toArray, List.set_cons_succ, List.set_cons_zero])
            refine HeadAt.takeW (i := 5) (.int .i64 X.n) rfl (by kernel_rfl) (.inl ⟨rfl, fun w' z => ?_⟩) S0 ?_
            · (have z0 := (x0.below z).cell 1 rfl; simp [go_sem, z0])
            (try simp only [Act.put, List.getElem_toArray, List.getElem_cons_succ, List.getElem_cons_zero, List.setIfInBounds_toArray, List.set_cons_succ, List.set_cons_zero])
            refine HeadAt.takeW (i := 6) (.int .i64 (a1 : Int)) rfl (by kernel_rfl) (.inl ⟨rfl, fun w' z => ?_⟩) S0 ?_
            · (simp [go_sem, hn0, hqa] <;> exact IntWalk.i64_in _ (by omega))
            (try simp only [Act.put, List.getElem_toArray, List.getElem_cons_succ, List.getElem_cons_zero, List.setIfInBounds_toArray, List.set_cons_succ, List.set_cons_zero])
            refine HeadAt.takeW (i := 7) (.int .i64 ((a1 : Int) + 1)) rfl (by kernel_rfl) (.inl ⟨rfl, fun w' z => ?_⟩) S0 ?_
            · (simp [go_sem] <;> (first | omega | (rw [IntWalk.i64_in _ (by omega)] <;> omega)))
            (try simp only [Act.put, List.getElem_toArray, List.getElem_cons_succ, List.getElem_cons_zero, List.setIfInBounds_toArray, List.set_cons_succ, List.set_cons_zero])
            refine HeadAt.takeW (i := 8) (.slice (some ⟨b, off, none⟩) m cL) rfl (by kernel_rfl) (.inl ⟨rfl, fun _ _ => by simp [go_sem]⟩) S0 ?_
            (try simp only [Act.put, List.getElem_toArray, List.getElem_cons_succ, List.getElem_cons_zero, List.setIfInBounds_toArray, List.set_cons_succ, List.set_cons_zero])
            refine HeadAt.takeW (i := 9) (.int .i64 (i : Int)) rfl (by kernel_rfl) (.inl ⟨rfl, fun _ _ => by simp [go_sem]⟩) S0 ?_
            (try simp only [Act.put, List.getElem_toArray, List.getElem_cons_succ, List.getElem_cons_zero, List.setIfInBounds_toArray, List.set_cons_succ, List.set_cons_zero])
            refine HeadAt.takeW (i := 10) (.pointer (some ⟨b, off + i, none⟩)) rfl (by kernel_rfl) (.inl ⟨rfl, fun w' z => ?_⟩) S0 ?_
            · (have i1 : (0 : Int) ≤ (i : Int) := (by omega); have i2 : (i : Int) < (m : Int) := (by omega); simp [go_sem, i1, i2])
            (try simp only [Act.put, List.getElem_toArray, List.getElem_cons_succ, List.getElem_cons_zero, List.setIfInBounds_toArray, List.set_cons_succ, List.set_cons_zero])
            refine HeadAt.takeW (i := 11) (.int .i64 s) rfl (by kernel_rfl) (.inl ⟨rfl, fun w' z => ?_⟩) S0 ?_
            · (have z0 := (hcl.below z).1; simp [go_sem, z0])
            (try simp only [Act.put, List.getElem_toArray, List.getElem_cons_succ, List.getElem_cons_zero, List.setIfInBounds_toArray, List.set_cons_succ, List.set_cons_zero])
            refine HeadAt.takeW (i := 12) (.pointer (some ⟨w.heap.size, 1, none⟩)) rfl (by kernel_rfl) (.inl ⟨rfl, fun _ _ => by simp [go_sem]⟩) S0 ?_
            (try simp only [Act.put, List.getElem_toArray, List.getElem_cons_succ, List.getElem_cons_zero, List.setIfInBounds_toArray, List.set_cons_succ, List.set_cons_zero])
            refine HeadAt.takeW (i := 13) (.int .i64 X.n) rfl (by kernel_rfl) (.inl ⟨rfl, fun w' z => ?_⟩) S0 ?_
            · (have z0 := (x0.below z).cell 1 rfl; simp [go_sem, z0])
            (try simp only [Act.put, List.getElem_toArray, List.getElem_cons_succ, List.getElem_cons_zero, List.setIfInBounds_toArray, List.set_cons_succ, List.set_cons_zero])
            refine HeadAt.takeW (i := 14) (.int .i64 (b1 : Int)) rfl (by kernel_rfl) (.inl ⟨rfl, fun w' z => ?_⟩) S0 ?_
            · (simp [go_sem, hn0, hqb])
            (try simp only [Act.put, List.getElem_toArray, List.getElem_cons_succ, List.getElem_cons_zero, List.setIfInBounds_toArray, List.set_cons_succ, List.set_cons_zero])
            refine HeadAt.takeW (i := 15) (.int .i64 ((b1 : Int) + 1)) rfl (by kernel_rfl) (.inl ⟨rfl, fun w' z => ?_⟩) S0 ?_
            · (simp [go_sem] <;> (first | omega | (rw [IntWalk.i64_in _ (by omega)] <;> omega)))
            (try simp only [Act.put, List.getElem_toArray, List.getElem_cons_succ, List.getElem_cons_zero, List.setIfInBounds_toArray, List.set_cons_succ, List.set_cons_zero])
            have hsz0 := Below.size S0
            have hlo := fun z hz => (hown.lt z hz).2
            skip
            refine HeadAt.one (i := 16) rfl (by kernel_rfl) ?_
            generalize hK : Upto _ _ = K0
            (try simp only [Act.put, List.getElem_toArray, List.getElem_cons_succ, List.getElem_cons_zero, List.setIfInBounds_toArray, List.set_cons_succ, List.set_cons_zero])
            have hb1 := below_one (w := Y0) (.cells #[.int .i64 ((a1 : Int) + 1), .int .i64 ((b1 : Int) + 1)] 3)
            have G0 := Bx.new Y0 #[.int .i64 ((a1 : Int) + 1), .int .i64 ((b1 : Int) + 1)] 3
            have HH := hid (And.intro hb1 G0)
            clear hb1 G0
            go_wp2_with fail
            replace S0 : BlS wr (Y0.alloc (.cells #[.int .i64 ((a1 : Int) + 1), .int .i64 ((b1 : Int) + 1)] 3)) := Below.trans S0 (HH.out.1.mono (Below.size S0))
            subst hK
            refine ⟨S0, ?_⟩
            (try simp only [Act.put, List.getElem_toArray, List.getElem_cons_succ, List.getElem_cons_zero, List.setIfInBounds_toArray, List.set_cons_succ, List.set_cons_zero])
            obtain ⟨-, G0⟩ := HH.out
            clear HH
            generalize World.alloc _ _ = Y1 at *
            obtain ⟨g1, hg1⟩ : ∃ g, g = Y0.heap.size := ⟨_, rfl⟩
            rw [← hg1] at G0 ⊢
            have HNQ := hid (show ∀ z, (Value.slice a p c).ownBlock = some z → z ≠ g1 from fun z hz => by have := hlo z hz; omega)
            clear hg1 hlo
            refine HeadAt.takeW (i := 17) (.slice (some ⟨g1, 0, none⟩) 2 2) rfl (by kernel_rfl) (.inl ⟨rfl, fun _ _ => by simp [go_sem]⟩) S0 ?_
            (try simp only [Act.put, List.getElem_toArray, List.getElem_cons_succ, List.getElem_cons_zero, List.setIfInBounds_toArray, List.set_cons_succ, List.set_cons_zero])
            refine HeadAt.done (by kernel_rfl) ?_
            (try simp only [Act.put, List.drop_succ_cons, List.drop_zero, List.getElem_toArray, List.getElem_cons_succ, List.getElem_cons_zero])
            go_wp2_with fail
            refine NoPanic.normal ?_
            replace hown := own_below2 hown S0
            have hb2 := hb.trans (Below.mono S0 hb.size)
            clear S0 hcl x0 hb hqa hqb
            go_wp2
            go_loopw [9, 10, 13] (fun v9 v10 v13 wr => ∃ (k : Int) (q p : Nat) (a : Option Addr) (c : Nat) (now : Int) (C : List Int), v13 = .int .i64 k ∧ ((k = 0 ∧ q = 0) ∨ (k = 1 ∧ q = a1 + 1) ∨ (k = 2 ∧ q = a1 + b1 + 2)) ∧ v10 = .int .i64 now ∧ v9 = .slice a p c ∧ p ≤ 10 * i + q ∧ 0 ≤ now ∧ now ≤ 99999 + 999 * p ∧ Hid (WSt X t (A0 ++ DS.take q) now C ∧ p = C.length ∧ ∀ x ∈ C, 0 ≤ x ∧ x ≤ 1000000) ∧ Hid (∀ z, (Value.slice a p c).ownBlock = some z → z ≠ g1) ∧ Bx wr g1 #[.int .i64 ((a1 : Int) + 1), .int .i64 ((b1 : Int) + 1)] 3 ∧ wr.ownsRow V2.heap.size 3 1 (.slice a p c) p (C.map (Value.int .i64)) ∧ Below V2.heap.size V2 wr) (fun _ _ v13 _ => 2 - (intOf v13).toNat)
            case atStart => exact ⟨0, 0, p, a, c, now, C, rfl, .inl ⟨rfl, rfl⟩, rfl, rfl, by omega, hn1, hn2, hid (by simpa using HC.out), HNQ, G0, hown, hb2⟩
            case round =>
              clear G0 hown hb2 HC HNQ hp hn1 hn2
              obtain ⟨k, q, p, a, c, now, C, rfl, hkq, rfl, rfl, hp, hn1, hn2, HC, HNQ, G0, hown, hb⟩ := hrel
              rcases hkq with ⟨rfl, rfl⟩ | ⟨rfl, rfl⟩ | ⟨rfl, rfl⟩
              · skip
                go_wp2
                go_loopw [9, 10, 14] (fun v9 v10 v14 wr => ∃ (n p : Nat) (a : Option Addr) (c : Nat) (now : Int) (C : List Int), n ≤ a1 + 1 ∧ v14 = .int .i64 (n : Int) ∧ v10 = .int .i64 now ∧ v9 = .slice a p c ∧ p ≤ 10 * i + 0 + n ∧ 0 ≤ now ∧ now ≤ 99999 + 999 * p ∧ Hid (WSt X t (A0 ++ DS.take (0 + n)) now C ∧ p = C.length ∧ ∀ x ∈ C, 0 ≤ x ∧ x ≤ 1000000) ∧ Hid (∀ z, (Value.slice a p c).ownBlock = some z → z ≠ g1) ∧ Bx wr g1 #[.int .i64 ((a1 : Int) + 1), .int .i64 ((b1 : Int) + 1)] 3 ∧ wr.ownsRow V2.heap.size 3 1 (.slice a p c) p (C.map (Value.int .i64)) ∧ Below V2.heap.size V2 wr) (fun _ _ v14 _ => a1 + 1 - (intOf v14).toNat)
                case atStart => exact ⟨0, p, a, c, now, C, Nat.zero_le _, rfl, rfl, rfl, by omega, hn1, hn2, hid (by simpa using HC.out), HNQ, G0, hown, hb⟩
                case round =>
                  clear G0 hown hb HC HNQ hp hn1 hn2
                  obtain ⟨n, p, a, c, now, C, hn, rfl, rfl, rfl, hp, hn1, hn2, HC, HNQ, G0, hown, hb⟩ := hrel
                  have e0 := G0.cell 0 rfl
                  by_cases hlt3 : n < a1 + 1
                  · have hnI : (n : Int) < ((a1 : Int) + 1) := by omega
                    have x0 := HX0.out.below hb
                    have c2 := x0.cell 2 rfl; have c4 := x0.cell 4 rfl; have c5 := x0.cell 5 rfl
                    clear x0
                    by_cases hn0' : n = 0
                    · subst hn0'
                      have hgt : ¬ ((0 : Nat) : Int) > 0 := by omega
                      have HDLq : DS[0 + 0]? = some X.pa := by rw [HDL.out, if_pos (by omega)]
                      by_cases hi00 : i = 0
                      · have hig : ¬ (i : Int) > 0 := by omega
                        have hA0 := HN0.out hi00
                        have HAA := hid hA0
                        clear hA0 hi00
                        have HG2 := hid (show now ≤ 1000000 ∧ 0 ≤ now ∧ now ≤ 99999 + 999 * ((p : Int) + 1) by omega)
                        have HC2 := hid (show WSt X t (A0 ++ DS.take (0 + (0 + 1))) now (C ++ [now]) ∧ p + 1 = (C ++ [now]).length ∧ ∀ x ∈ C ++ [now], 0 ≤ x ∧ x ≤ 1000000 from ⟨by rw [← Nat.add_assoc, take_at HDLq, ← List.append_assoc]; have h := HC.out.1; rw [HAA.out] at h ⊢; exact h.first, by rw [List.length_append, HC.out.2.1]; rfl, fun x hx => by
                          rcases List.mem_append.1 hx with hx | hx
                          · exact HC.out.2.2 x hx
                          · rw [List.mem_singleton.1 hx]; exact ⟨HG2.out.2.1, HG2.out.1⟩⟩)
                        have hsz := hb.size
                        clear HDLq HC
                        go_wp2_with (at_builtin; go_loud (refine wpList_append_own_at _ rfl _ _ 22 rfl V2.heap.size 3 i0 (.int .i64 0) 1 8 under22 hi0 iz0 iz1 iz2 rfl (by decide) (.slice a p c) p _ rfl (hown.alloc _) ⟨wr.heap.size, 0, none⟩ 1 1 [.int .i64 (now)] rfl rfl (cell_one_new _ _ _) (ints_oneCell .i64 [now]) (by unfold maxLen; omega) (by omega) (by simp; omega) ?_); intro v9 W9 hrow9 hg9 _ hat)
                        obtain ⟨a9, c9, rfl⟩ := own_slice2 hrow9
                        have hba := below_one (w := wr) (.cells #[.int .i64 (now)] 3)
                        have hb3 : Below V2.heap.size V2 W9 := (hb.trans (hba.mono hb.size)).grown hg9 (by have := hb.size; simp; omega) (own_ge hown)
                        have hrow10 : W9.ownsRow V2.heap.size 3 1 (.slice a9 (p + 1) c9) (p + 1) ((C ++ [now]).map (Value.int .i64)) := by simpa using hrow9
                        have hGl := G0.lt
                        have hGa := G0.below hba
                        have G9 : Bx W9 g1 _ 3 := (hg9.block _ hGa.lt (fun e => HNQ.out _ e.symm rfl)).trans hGa
                        have HNQ9 := hid (show ∀ z, (Value.slice a9 (p + 1) c9).ownBlock = some z → z ≠ g1 from fun z hz => by
                          rcases hat with h | h
                          · rw [h] at hz; exact HNQ.out z hz
                          · rw [h] at hz
                            have := Option.some.inj hz
                            simp at this
                            omega)
                        have HGN := HG2.out
                        clear hown hg9 hrow9 hb hba hGa hat G0 HNQ c2 c4 c5 e0 HG2
                        go_wp2
                        go_roundw
                        case rel => exact ⟨0 + 1, p + 1, a9, c9, now, C ++ [now], by omega, by go_num, rfl, rfl, by omega, HGN.2.1, by have := HGN.2.2; omega, HC2, HNQ9, G9, hrow10, hb3⟩
                        case measure => simp [intOf] <;> omega
                      · have hig : (i : Int) > 0 := by omega
                        have HAA := hid (HNE.out (by omega))
                        have HG2 := hid (show (now + X.pa) ≤ 1000000 ∧ 0 ≤ (now + X.pa) ∧ (now + X.pa) ≤ 99999 + 999 * ((p : Int) + 1) by omega)
                        have HC2 := hid (show WSt X t (A0 ++ DS.take (0 + (0 + 1))) (now + X.pa) (C ++ [now + X.pa]) ∧ p + 1 = (C ++ [now + X.pa]).length ∧ ∀ x ∈ C ++ [now + X.pa], 0 ≤ x ∧ x ≤ 1000000 from ⟨by rw [← Nat.add_assoc, take_at HDLq, ← List.append_assoc]; exact HC.out.1.step (fun h => HAA.out (List.append_eq_nil_iff.1 h).1) _, by rw [List.length_append, HC.out.2.1]; rfl, fun x hx => by
                          rcases List.mem_append.1 hx with hx | hx
                          · exact HC.out.2.2 x hx
                          · rw [List.mem_singleton.1 hx]; exact ⟨HG2.out.2.1, HG2.out.1⟩⟩)
                        have hsz := hb.size
                        clear HDLq HC
                        go_wp2_with (at_builtin; go_loud (refine wpList_append_own_at _ rfl _ _ 22 rfl V2.heap.size 3 i0 (.int .i64 0) 1 8 under22 hi0 iz0 iz1 iz2 rfl (by decide) (.slice a p c) p _ rfl (hown.alloc _) ⟨wr.heap.size, 0, none⟩ 1 1 [.int .i64 (now + X.pa)] rfl rfl (cell_one_new _ _ _) (ints_oneCell .i64 [now + X.pa]) (by unfold maxLen; omega) (by omega) (by simp; omega) ?_); intro v9 W9 hrow9 hg9 _ hat)
                        obtain ⟨a9, c9, rfl⟩ := own_slice2 hrow9
                        have hba := below_one (w := wr) (.cells #[.int .i64 (now + X.pa)] 3)
                        have hb3 : Below V2.heap.size V2 W9 := (hb.trans (hba.mono hb.size)).grown hg9 (by have := hb.size; simp; omega) (own_ge hown)
                        have hrow10 : W9.ownsRow V2.heap.size 3 1 (.slice a9 (p + 1) c9) (p + 1) ((C ++ [now + X.pa]).map (Value.int .i64)) := by simpa using hrow9
                        have hGl := G0.lt
                        have hGa := G0.below hba
                        have G9 : Bx W9 g1 _ 3 := (hg9.block _ hGa.lt (fun e => HNQ.out _ e.symm rfl)).trans hGa
                        have HNQ9 := hid (show ∀ z, (Value.slice a9 (p + 1) c9).ownBlock = some z → z ≠ g1 from fun z hz => by
                          rcases hat with h | h
                          · rw [h] at hz; exact HNQ.out z hz
                          · rw [h] at hz
                            have := Option.some.inj hz
                            simp at this
                            omega)
                        have HGN := HG2.out
                        clear hown hg9 hrow9 hb hba hGa hat G0 HNQ c2 c4 c5 e0 HG2
                        go_wp2
                        go_roundw
                        case rel => exact ⟨0 + 1, p + 1, a9, c9, now + X.pa, C ++ [now + X.pa], by omega, by go_num, rfl, rfl, by omega, HGN.2.1, by have := HGN.2.2; omega, HC2, HNQ9, G9, hrow10, hb3⟩
                        case measure => simp [intOf] <;> omega
                    · have hgt : (n : Int) > 0 := by omega
                      have HDLq : DS[0 + n]? = some X.pi := by rw [HDL.out, if_neg (by omega), if_pos (by omega)]
                      have HG2 := hid (show (now + X.pi) ≤ 1000000 ∧ 0 ≤ (now + X.pi) ∧ (now + X.pi) ≤ 99999 + 999 * ((p : Int) + 1) by omega)
                      have HC2 := hid (show WSt X t (A0 ++ DS.take (0 + (n + 1))) (now + X.pi) (C ++ [now + X.pi]) ∧ p + 1 = (C ++ [now + X.pi]).length ∧ ∀ x ∈ C ++ [now + X.pi], 0 ≤ x ∧ x ≤ 1000000 from ⟨by rw [← Nat.add_assoc, take_at HDLq, ← List.append_assoc]; exact HC.out.1.step (by intro h; have h2 := congrArg List.length h; simp only [List.length_append, List.length_take, HDN.out, List.length_nil] at h2; omega) _, by rw [List.length_append, HC.out.2.1]; rfl, fun x hx => by
                        rcases List.mem_append.1 hx with hx | hx
                        · exact HC.out.2.2 x hx
                        · rw [List.mem_singleton.1 hx]; exact ⟨HG2.out.2.1, HG2.out.1⟩⟩)
                      have hsz := hb.size
                      clear HDLq HC
                      go_wp2_with (at_builtin; go_loud (refine wpList_append_own_at _ rfl _ _ 22 rfl V2.heap.size 3 i0 (.int .i64 0) 1 8 under22 hi0 iz0 iz1 iz2 rfl (by decide) (.slice a p c) p _ rfl (hown.alloc _) ⟨wr.heap.size, 0, none⟩ 1 1 [.int .i64 (now + X.pi)] rfl rfl (cell_one_new _ _ _) (ints_oneCell .i64 [now + X.pi]) (by unfold maxLen; omega) (by omega) (by simp; omega) ?_); intro v9 W9 hrow9 hg9 _ hat)
                      obtain ⟨a9, c9, rfl⟩ := own_slice2 hrow9
                      have hba := below_one (w := wr) (.cells #[.int .i64 (now + X.pi)] 3)
                      have hb3 : Below V2.heap.size V2 W9 := (hb.trans (hba.mono hb.size)).grown hg9 (by have := hb.size; simp; omega) (own_ge hown)
                      have hrow10 : W9.ownsRow V2.heap.size 3 1 (.slice a9 (p + 1) c9) (p + 1) ((C ++ [now + X.pi]).map (Value.int .i64)) := by simpa using hrow9
                      have hGl := G0.lt
                      have hGa := G0.below hba
                      have G9 : Bx W9 g1 _ 3 := (hg9.block _ hGa.lt (fun e => HNQ.out _ e.symm rfl)).trans hGa
                      have HNQ9 := hid (show ∀ z, (Value.slice a9 (p + 1) c9).ownBlock = some z → z ≠ g1 from fun z hz => by
                        rcases hat with h | h
                        · rw [h] at hz; exact HNQ.out z hz
                        · rw [h] at hz
                          have := Option.some.inj hz
                          simp at this
                          omega)
                      have HGN := HG2.out
                      clear hown hg9 hrow9 hb hba hGa hat G0 HNQ c2 c4 c5 e0 HG2
                      go_wp2
                      go_roundw
                      case rel => exact ⟨n + 1, p + 1, a9, c9, now + X.pi, C ++ [now + X.pi], by omega, by go_num, rfl, rfl, by omega, HGN.2.1, by have := HGN.2.2; omega, HC2, HNQ9, G9, hrow10, hb3⟩
                      case measure => simp [intOf] <;> omega
                  · obtain rfl : n = a1 + 1 := by omega
                    have hnI : ¬ (((a1 + 1 : Nat)) : Int) < ((a1 : Int) + 1) := by omega
                    have HC2 := hid (show WSt X t (A0 ++ DS.take (a1 + 1)) now C ∧ p = C.length ∧ ∀ x ∈ C, 0 ≤ x ∧ x ≤ 1000000 by
                      have h := HC.out
                      rw [show 0 + (a1 + 1) = a1 + 1 by omega] at h
                      exact h)
                    clear HC
                    go_wp2
                    go_roundw
                    case rel => exact ⟨1, a1 + 1, p, a, c, now, C, by go_num, by omega, rfl, rfl, by omega, hn1, hn2, HC2, HNQ, G0, hown, hb⟩
                    case measure => simp [intOf]
              · skip
                go_wp2
                go_loopw [9, 10, 14] (fun v9 v10 v14 wr => ∃ (n p : Nat) (a : Option Addr) (c : Nat) (now : Int) (C : List Int), n ≤ b1 + 1 ∧ v14 = .int .i64 (n : Int) ∧ v10 = .int .i64 now ∧ v9 = .slice a p c ∧ p ≤ 10 * i + (a1 + 1) + n ∧ 0 ≤ now ∧ now ≤ 99999 + 999 * p ∧ Hid (WSt X t (A0 ++ DS.take ((a1 + 1) + n)) now C ∧ p = C.length ∧ ∀ x ∈ C, 0 ≤ x ∧ x ≤ 1000000) ∧ Hid (∀ z, (Value.slice a p c).ownBlock = some z → z ≠ g1) ∧ Bx wr g1 #[.int .i64 ((a1 : Int) + 1), .int .i64 ((b1 : Int) + 1)] 3 ∧ wr.ownsRow V2.heap.size 3 1 (.slice a p c) p (C.map (Value.int .i64)) ∧ Below V2.heap.size V2 wr) (fun _ _ v14 _ => b1 + 1 - (intOf v14).toNat)
                case atStart => exact ⟨0, p, a, c, now, C, Nat.zero_le _, rfl, rfl, rfl, by omega, hn1, hn2, hid (by simpa using HC.out), HNQ, G0, hown, hb⟩
                case round =>
                  clear G0 hown hb HC HNQ hp hn1 hn2
                  obtain ⟨n, p, a, c, now, C, hn, rfl, rfl, rfl, hp, hn1, hn2, HC, HNQ, G0, hown, hb⟩ := hrel
                  have e0 := G0.cell 1 rfl
                  by_cases hlt3 : n < b1 + 1
                  · have hnI : (n : Int) < ((b1 : Int) + 1) := by omega
                    have x0 := HX0.out.below hb
                    have c2 := x0.cell 2 rfl; have c4 := x0.cell 4 rfl; have c5 := x0.cell 5 rfl
                    clear x0
                    by_cases hn0' : n = 0
                    · subst hn0'
                      have hgt : ¬ ((0 : Nat) : Int) > 0 := by omega
                      have HDLq : DS[(a1 + 1) + 0]? = some X.ga := by rw [HDL.out, if_neg (by omega), if_neg (by omega), if_pos (by omega)]
                      have HG2 := hid (show (now + X.ga) ≤ 1000000 ∧ 0 ≤ (now + X.ga) ∧ (now + X.ga) ≤ 99999 + 999 * ((p : Int) + 1) by omega)
                      have HC2 := hid (show WSt X t (A0 ++ DS.take ((a1 + 1) + (0 + 1))) (now + X.ga) (C ++ [now + X.ga]) ∧ p + 1 = (C ++ [now + X.ga]).length ∧ ∀ x ∈ C ++ [now + X.ga], 0 ≤ x ∧ x ≤ 1000000 from ⟨by rw [← Nat.add_assoc, take_at HDLq, ← List.append_assoc]; exact HC.out.1.step (by intro h; have h2 := congrArg List.length h; simp only [List.length_append, List.length_take, HDN.out, List.length_nil] at h2; omega) _, by rw [List.length_append, HC.out.2.1]; rfl, fun x hx => by
                        rcases List.mem_append.1 hx with hx | hx
                        · exact HC.out.2.2 x hx
                        · rw [List.mem_singleton.1 hx]; exact ⟨HG2.out.2.1, HG2.out.1⟩⟩)
                      have hsz := hb.size
                      clear HDLq HC
                      go_wp2_with (at_builtin; go_loud (refine wpList_append_own_at _ rfl _ _ 22 rfl V2.heap.size 3 i0 (.int .i64 0) 1 8 under22 hi0 iz0 iz1 iz2 rfl (by decide) (.slice a p c) p _ rfl (hown.alloc _) ⟨wr.heap.size, 0, none⟩ 1 1 [.int .i64 (now + X.ga)] rfl rfl (cell_one_new _ _ _) (ints_oneCell .i64 [now + X.ga]) (by unfold maxLen; omega) (by omega) (by simp; omega) ?_); intro v9 W9 hrow9 hg9 _ hat)
                      obtain ⟨a9, c9, rfl⟩ := own_slice2 hrow9
                      have hba := below_one (w := wr) (.cells #[.int .i64 (now + X.ga)] 3)
                      have hb3 : Below V2.heap.size V2 W9 := (hb.trans (hba.mono hb.size)).grown hg9 (by have := hb.size; simp; omega) (own_ge hown)
                      have hrow10 : W9.ownsRow V2.heap.size 3 1 (.slice a9 (p + 1) c9) (p + 1) ((C ++ [now + X.ga]).map (Value.int .i64)) := by simpa using hrow9
                      have hGl := G0.lt
                      have hGa := G0.below hba
                      have G9 : Bx W9 g1 _ 3 := (hg9.block _ hGa.lt (fun e => HNQ.out _ e.symm rfl)).trans hGa
                      have HNQ9 := hid (show ∀ z, (Value.slice a9 (p + 1) c9).ownBlock = some z → z ≠ g1 from fun z hz => by
                        rcases hat with h | h
                        · rw [h] at hz; exact HNQ.out z hz
                        · rw [h] at hz
                          have := Option.some.inj hz
                          simp at this
                          omega)
                      have HGN := HG2.out
                      clear hown hg9 hrow9 hb hba hGa hat G0 HNQ c2 c4 c5 e0 HG2
                      go_wp2
                      go_roundw
                      case rel => exact ⟨0 + 1, p + 1, a9, c9, now + X.ga, C ++ [now + X.ga], by omega, by go_num, rfl, rfl, by omega, HGN.2.1, by have := HGN.2.2; omega, HC2, HNQ9, G9, hrow10, hb3⟩
                      case measure => simp [intOf] <;> omega
                    · have hgt : (n : Int) > 0 := by omega
                      have HDLq : DS[(a1 + 1) + n]? = some X.pi := by rw [HDL.out, if_neg (by omega), if_neg (by omega), if_neg (by omega), if_pos (by omega)]
                      have HG2 := hid (show (now + X.pi) ≤ 1000000 ∧ 0 ≤ (now + X.pi) ∧ (now + X.pi) ≤ 99999 + 999 * ((p : Int) + 1) by omega)
                      have HC2 := hid (show WSt X t (A0 ++ DS.take ((a1 + 1) + (n + 1))) (now + X.pi) (C ++ [now + X.pi]) ∧ p + 1 = (C ++ [now + X.pi]).length ∧ ∀ x ∈ C ++ [now + X.pi], 0 ≤ x ∧ x ≤ 1000000 from ⟨by rw [← Nat.add_assoc, take_at HDLq, ← List.append_assoc]; exact HC.out.1.step (by intro h; have h2 := congrArg List.length h; simp only [List.length_append, List.length_take, HDN.out, List.length_nil] at h2; omega) _, by rw [List.length_append, HC.out.2.1]; rfl, fun x hx => by
                        rcases List.mem_append.1 hx with hx | hx
                        · exact HC.out.2.2 x hx
                        · rw [List.mem_singleton.1 hx]; exact ⟨HG2.out.2.1, HG2.out.1⟩⟩)
                      have hsz := hb.size
                      clear HDLq HC
                      go_wp2_with (at_builtin; go_loud (refine wpList_append_own_at _ rfl _ _ 22 rfl V2.heap.size 3 i0 (.int .i64 0) 1 8 under22 hi0 iz0 iz1 iz2 rfl (by decide) (.slice a p c) p _ rfl (hown.alloc _) ⟨wr.heap.size, 0, none⟩ 1 1 [.int .i64 (now + X.pi)] rfl rfl (cell_one_new _ _ _) (ints_oneCell .i64 [now + X.pi]) (by unfold maxLen; omega) (by omega) (by simp; omega) ?_); intro v9 W9 hrow9 hg9 _ hat)
                      obtain ⟨a9, c9, rfl⟩ := own_slice2 hrow9
                      have hba := below_one (w := wr) (.cells #[.int .i64 (now + X.pi)] 3)
                      have hb3 : Below V2.heap.size V2 W9 := (hb.trans (hba.mono hb.size)).grown hg9 (by have := hb.size; simp; omega) (own_ge hown)
                      have hrow10 : W9.ownsRow V2.heap.size 3 1 (.slice a9 (p + 1) c9) (p + 1) ((C ++ [now + X.pi]).map (Value.int .i64)) := by simpa using hrow9
                      have hGl := G0.lt
                      have hGa := G0.below hba
                      have G9 : Bx W9 g1 _ 3 := (hg9.block _ hGa.lt (fun e => HNQ.out _ e.symm rfl)).trans hGa
                      have HNQ9 := hid (show ∀ z, (Value.slice a9 (p + 1) c9).ownBlock = some z → z ≠ g1 from fun z hz => by
                        rcases hat with h | h
                        · rw [h] at hz; exact HNQ.out z hz
                        · rw [h] at hz
                          have := Option.some.inj hz
                          simp at this
                          omega)
                      have HGN := HG2.out
                      clear hown hg9 hrow9 hb hba hGa hat G0 HNQ c2 c4 c5 e0 HG2
                      go_wp2
                      go_roundw
                      case rel => exact ⟨n + 1, p + 1, a9, c9, now + X.pi, C ++ [now + X.pi], by omega, by go_num, rfl, rfl, by omega, HGN.2.1, by have := HGN.2.2; omega, HC2, HNQ9, G9, hrow10, hb3⟩
                      case measure => simp [intOf] <;> omega
                  · obtain rfl : n = b1 + 1 := by omega
                    have hnI : ¬ (((b1 + 1 : Nat)) : Int) < ((b1 : Int) + 1) := by omega
                    have HC2 := hid (show WSt X t (A0 ++ DS.take (a1 + b1 + 2)) now C ∧ p = C.length ∧ ∀ x ∈ C, 0 ≤ x ∧ x ≤ 1000000 by
                      have h := HC.out
                      rw [show (a1 + 1) + (b1 + 1) = a1 + b1 + 2 by omega] at h
                      exact h)
                    clear HC
                    go_wp2
                    go_roundw
                    case rel => exact ⟨2, a1 + b1 + 2, p, a, c, now, C, by go_num, by omega, rfl, rfl, by omega, hn1, hn2, HC2, HNQ, G0, hown, hb⟩
                    case measure => simp [intOf]
              · have HC2 := hid (show WSt X t (alD X (L.take (i + 1))) now C ∧ p = C.length ∧ ∀ x ∈ C, 0 ≤ x ∧ x ≤ 1000000 by
                  have h := HC.out
                  rw [List.take_of_length_le (by rw [HDN.out]; omega)] at h
                  rw [HNX.out]
                  exact h)
                clear HC G0 HNQ
                go_wp2
                go_roundw
                case rel => exact ⟨i + 1, p, a, c, now, C, by omega, by go_num, rfl, rfl, by omega, hn1, hn2, HC2, hown, hb⟩
                case measure => simp [intOf] <;> omega
          · obtain rfl : i = m := by omega
            obtain ⟨h1, h2, h3⟩ := HC.out
            rw [List.take_of_length_le (by rw [← HM.out]; exact Nat.le_refl _)] at h1
            obtain ⟨e1, e2⟩ := HRS.out now C h1
            have hz := own_nw hown h2 (by omega) (fun x hx => by have := h3 x hx; omega)
            have hbz := HB.out.trans (hb.mono HB.out.size)
            have HZ := hid hz
            have HE1 := hid e1
            have HE2 := hid e2
            have HP := hid h2
            clear hown hb HC h1 h2 h3 e1 e2 hz
            by_cases hp24 : p > 24
            · have hpI : (p : Int) > 24 := by omega
              have HW := hid (show WE = 131 ∧ WL = [] by
                have hno : ¬ wrB X L t = true := fun h => by have := (HE2.out.1 h).1; rw [← HP.out] at this; omega
                have hw : WE = 131 := by rw [HWE2.out, if_neg hno]
                exact ⟨hw, by rw [HWL.out, hw]; rfl⟩)
              clear hp24
              go_wp2
              go_ret2
              exact ⟨hbz, none, 0, by rw [HW.out.1, HW.out.2]; rfl, by rw [HW.out.2]; exact Iz.none_ _ _⟩
            · have hpI : ¬ (p : Int) > 24 := by omega
              by_cases hp0 : p > 0
              · have hp0I : (p : Int) > 0 := by omega
                by_cases hnow : now > 99999
                · have HW := hid (show WE = 131 ∧ WL = [] by
                    have hno : ¬ wrB X L t = true := fun h => by have := (HE2.out.1 h).2 (by rw [← HP.out]; omega); omega
                    have hw : WE = 131 := by rw [HWE2.out, if_neg hno]
                    exact ⟨hw, by rw [HWL.out, hw]; rfl⟩)
                  clear hp24 hp0
                  go_wp2
                  go_ret2
                  exact ⟨hbz, none, 0, by rw [HW.out.1, HW.out.2]; rfl, by rw [HW.out.2]; exact Iz.none_ _ _⟩
                · have HW := hid (show WE = 0 ∧ WL = C by
                    have hyes : wrB X L t = true := HE2.out.2 ⟨by rw [← HP.out]; omega, fun _ => by omega⟩
                    have hw : WE = 0 := by rw [HWE2.out, if_pos hyes]
                    exact ⟨hw, by rw [HWL.out, hw, if_pos rfl, HE1.out]⟩)
                  have HR := hid (show ReP WE WL w (.returned (.tuple #[.slice a p c, .int .i64 0])) wr from ⟨hbz, a, c, by rw [HW.out.1, HW.out.2, HP.out], by rw [HW.out.2]; exact HZ.out.1.mono HB.out.size⟩)
                  clear hp24 hp0
                  go_wp2
                  go_ret2
                  exact HR.out
              · have hp0I : ¬ (p : Int) > 0 := by omega
                have HW := hid (show WE = 0 ∧ WL = C by
                  have hyes : wrB X L t = true := HE2.out.2 ⟨by rw [← HP.out]; omega, fun h => by rw [← HP.out] at h; omega⟩
                  have hw : WE = 0 := by rw [HWE2.out, if_pos hyes]
                  exact ⟨hw, by rw [HWL.out, hw, if_pos rfl, HE1.out]⟩)
                have HR := hid (show ReP WE WL w (.returned (.tuple #[.slice a p c, .int .i64 0])) wr from ⟨hbz, a, c, by rw [HW.out.1, HW.out.2, HP.out], by rw [HW.out.2]; exact HZ.out.1.mono HB.out.size⟩)
                clear hp24 hp0
                go_wp2
                go_ret2
                exact HR.out
end Go.Proofs.Yteianfbdhakhpaa
