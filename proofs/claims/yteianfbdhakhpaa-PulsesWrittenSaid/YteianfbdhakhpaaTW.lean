import Derived.Test.YteianfbdhakhpaaTJ
import Derived.Test.YteianfbdhakhpaaQ7
/-! The reference's IsList. -/
namespace Go.Proofs.Yteianfbdhakhpaa
set_option linter.unusedSimpArgs false
set_option linter.unusedVariables false
open Go Go.RowKit
set_option maxRecDepth 100000 in
set_option maxHeartbeats 3000000 in
theorem rIsList_any (aT : Option Addr) (cT : Nat) (X : Pu) (a : Option Addr) (c : Nat) (l : List Int) (w : World) (hI : Ints w a l) : Calls Try.prog 36 #[.agg #[.int .i64 X.l, .int .i64 X.n, .int .i64 X.pi, .int .i64 X.sl, .int .i64 X.ga, .int .i64 X.pa, .int .i64 X.sp, .slice aT X.ts.length cT], .slice a l.length c] w fun e w' => e = .returned (.bool (listB X l)) ∧ Below w.heap.size w w' := by
  obtain ⟨W, hW, hb, _, x0⟩ := boxes1 w #[.int .i64 X.l, .int .i64 X.n, .int .i64 X.pi, .int .i64 X.sl, .int .i64 X.ga, .int .i64 X.pa, .int .i64 X.sp, .slice aT X.ts.length cT] 24
  replace hI := hI.below hb (Nat.le_refl _)
  have hse := fun x V => rIsSelection_any aT cT X x V
  have hlen := hI.len
  have H1 := hid (show ∀ k x, l[k]? = some x → selB X x = false → listB X l = false from fun k x hk hx => by
    unfold listB
    rw [Bool.and_eq_false_iff]
    refine .inr (decide_eq_false fun h => ?_)
    rw [cntF_all h x (List.mem_of_getElem? hk)] at hx
    cases hx)
  have H2 := hid (show (l.take l.length).all (selB X) = true → listB X l = decide (l.length ≤ 24) from fun h => by
    rw [List.take_length] at h
    unfold listB
    rw [decide_eq_true (show cntF (selB X) l = l.length from List.length_filter_eq_length_iff.2 (List.all_eq_true.1 h)), Bool.and_true])
  generalize listB X l = r at *
  generalize selB X = f at *
  obtain ⟨n, hn⟩ : ∃ n, n = l.length := ⟨_, rfl⟩
  rw [← hn] at hlen H2 ⊢
  have HN := hid hn
  generalize X.ts.length = m at *
  clear hn
  have HX0 := hid (And.intro x0 hb)
  have c0 := x0.cell 0 rfl; have c1 := x0.cell 1 rfl; have c2 := x0.cell 2 rfl; have c3 := x0.cell 3 rfl; have c4 := x0.cell 4 rfl; have c5 := x0.cell 5 rfl; have c6 := x0.cell 6 rfl; have c7 := x0.cell 7 rfl
  go_enter Try.func36, Try.ntmps36
  go_wp2
  clear hW c0 c1 c2 c3 c4 c5 c6 c7 x0 hb
  go_loopw [5] (fun v5 wr => ∃ k : Nat, k ≤ n ∧ v5 = .int .i64 (k : Int) ∧ Hid ((l.take k).all f = true) ∧ Below W.heap.size W wr) (fun v5 _ => n - (intOf v5).toNat)
  case atStart => exact ⟨0, Nat.zero_le _, rfl, hid rfl, Below.refl _ _⟩
  case round =>
    obtain ⟨k, hk, rfl, HA, hb⟩ := hrel
    by_cases hlt : k < n
    · obtain ⟨b, off, y, rfl, hbl, hc, hy1, hy2, hg, _⟩ := (hI.below hb (Nat.le_refl _)).at (k := k) (by rw [← HN.out]; exact hlt)
      have hkI : (k : Int) < n := by omega
      have hk0 : (0 : Int) ≤ (k : Int) := by omega
      have hcl : ClB wr b (off + k) (.int .i64 y) := ⟨hc, hbl⟩
      have x0 := HX0.out.1.below hb
      have hse1 := hse y
      clear hc
      go_upto_region 4 with fail
      have S0 : BlS wr wr.drew := (Below.refl wr.heap.size wr).drew
      refine wp_region_headW 7 (fun w' => BlS wr w') (by kernel_rfl) (by kernel_rfl) ?_
      generalize wr.drew = Y0 at *
      refine HeadAt.takeW (i := 0) (.agg #[.int .i64 X.l, .int .i64 X.n, .int .i64 X.pi, .int .i64 X.sl, .int .i64 X.ga, .int .i64 X.pa, .int .i64 X.sp, .slice aT m cT]) rfl (by kernel_rfl) (.inl ⟨rfl, fun w' z => ?_⟩) S0 ?_
      · (have z0 := (x0.below z).cell 0 rfl; have z1 := (x0.below z).cell 1 rfl; have z2 := (x0.below z).cell 2 rfl; have z3 := (x0.below z).cell 3 rfl; have z4 := (x0.below z).cell 4 rfl; have z5 := (x0.below z).cell 5 rfl; have z6 := (x0.below z).cell 6 rfl; have z7 := (x0.below z).cell 7 rfl; simp [go_sem, z0, z1, z2, z3, z4, z5, z6, z7])
      (try simp only [Act.put, List.getElem_toArray, List.getElem_cons_succ, List.getElem_cons_zero, List.setIfInBounds_toArray, List.set_cons_succ, List.set_cons_zero])
      refine HeadAt.takeW (i := 1) (.slice (some ⟨b, off, none⟩) n c) rfl (by kernel_rfl) (.inl ⟨rfl, fun _ _ => by simp [go_sem]⟩) S0 ?_
      (try simp only [Act.put, List.getElem_toArray, List.getElem_cons_succ, List.getElem_cons_zero, List.setIfInBounds_toArray, List.set_cons_succ, List.set_cons_zero])
      refine HeadAt.takeW (i := 2) (.int .i64 (k : Int)) rfl (by kernel_rfl) (.inl ⟨rfl, fun _ _ => by simp [go_sem]⟩) S0 ?_
      (try simp only [Act.put, List.getElem_toArray, List.getElem_cons_succ, List.getElem_cons_zero, List.setIfInBounds_toArray, List.set_cons_succ, List.set_cons_zero])
      refine HeadAt.takeW (i := 3) (.pointer (some ⟨b, off + k, none⟩)) rfl (by kernel_rfl) (.inl ⟨rfl, fun w' z => ?_⟩) S0 ?_
      · (simp [go_sem, hkI, hk0])
      (try simp only [Act.put, List.getElem_toArray, List.getElem_cons_succ, List.getElem_cons_zero, List.setIfInBounds_toArray, List.set_cons_succ, List.set_cons_zero])
      refine HeadAt.takeW (i := 4) (.int .i64 y) rfl (by kernel_rfl) (.inl ⟨rfl, fun w' z => ?_⟩) S0 ?_
      · (have z0 := (hcl.below z).1; simp [go_sem, z0])
      (try simp only [Act.put, List.getElem_toArray, List.getElem_cons_succ, List.getElem_cons_zero, List.setIfInBounds_toArray, List.set_cons_succ, List.set_cons_zero])
      skip
      refine HeadAt.one (i := 5) rfl (by kernel_rfl) ?_
      generalize hK : Upto _ _ = K0
      (try simp only [Act.put, List.getElem_toArray, List.getElem_cons_succ, List.getElem_cons_zero, List.setIfInBounds_toArray, List.set_cons_succ, List.set_cons_zero])
      cases hy : f y with
      | true =>
        rw [hy] at hse1
        have HB := hid (show (l.take (k + 1)).all f = true by rw [List.take_add_one, hg.out, List.all_append, HA.out]; simp [hy])
        clear hy hg
        go_wp2_with fail
        refine (hse1 _).mono ?_
        rintro e V1 ⟨rfl, hb1⟩
        go_wp2_with fail
        replace S0 : BlS wr V1 := Below.trans S0 (hb1.mono (Below.size S0))
        subst hK
        refine ⟨S0, ?_⟩
        clear hb1
        (try simp only [Act.put, List.getElem_toArray, List.getElem_cons_succ, List.getElem_cons_zero, List.setIfInBounds_toArray, List.set_cons_succ, List.set_cons_zero])
        refine HeadAt.takeW (i := 6) (.bool false) rfl (by kernel_rfl) (.inl ⟨rfl, fun _ _ => by simp [go_sem]⟩) S0 ?_
        (try simp only [Act.put, List.getElem_toArray, List.getElem_cons_succ, List.getElem_cons_zero, List.setIfInBounds_toArray, List.set_cons_succ, List.set_cons_zero])
        refine HeadAt.done (by kernel_rfl) ?_
        (try simp only [Act.put, List.drop_succ_cons, List.drop_zero, List.getElem_toArray, List.getElem_cons_succ, List.getElem_cons_zero])
        go_wp2_with fail
        refine NoPanic.normal ?_
        have hbz := hb.trans (Below.mono S0 hb.size)
        clear S0
        go_wp2
        go_roundw
        case rel => exact ⟨k + 1, by omega, by simp, HB, hbz⟩
        case measure => simp [intOf]; omega
      | false =>
        rw [hy] at hse1
        have HR := hid (H1.out k y hg.out hy)
        clear hy hg
        go_wp2_with fail
        refine (hse1 _).mono ?_
        rintro e V1 ⟨rfl, hb1⟩
        go_wp2_with fail
        replace S0 : BlS wr V1 := Below.trans S0 (hb1.mono (Below.size S0))
        subst hK
        refine ⟨S0, ?_⟩
        clear hb1
        (try simp only [Act.put, List.getElem_toArray, List.getElem_cons_succ, List.getElem_cons_zero, List.setIfInBounds_toArray, List.set_cons_succ, List.set_cons_zero])
        refine HeadAt.takeW (i := 6) (.bool true) rfl (by kernel_rfl) (.inl ⟨rfl, fun _ _ => by simp [go_sem]⟩) S0 ?_
        (try simp only [Act.put, List.getElem_toArray, List.getElem_cons_succ, List.getElem_cons_zero, List.setIfInBounds_toArray, List.set_cons_succ, List.set_cons_zero])
        refine HeadAt.done (by kernel_rfl) ?_
        (try simp only [Act.put, List.drop_succ_cons, List.drop_zero, List.getElem_toArray, List.getElem_cons_succ, List.getElem_cons_zero])
        go_wp2_with fail
        refine NoPanic.normal ?_
        have hbz := HX0.out.2.trans ((hb.trans (Below.mono S0 hb.size)).mono HX0.out.2.size)
        clear S0
        go_wp2
        go_ret
        exact ⟨ret_bool HR.out.symm, hbz⟩
    · obtain rfl : k = n := by omega
      have HR := hid (H2.out HA.out)
      have hbz := HX0.out.2.trans (hb.mono HX0.out.2.size)
      by_cases h24 : k ≤ 24
      · have h24I : (k : Int) ≤ 24 := by omega
        rw [decide_eq_true h24] at HR
        clear h24
        go_wp2
        go_ret
        exact ⟨ret_bool HR.out.symm, hbz⟩
      · have h24I : ¬ (k : Int) ≤ 24 := by omega
        rw [decide_eq_false h24] at HR
        clear h24
        go_wp2
        go_ret
        exact ⟨ret_bool (by first | exact HR.out.symm | exact (decide_eq_false (by omega)).trans HR.out.symm), hbz⟩
end Go.Proofs.Yteianfbdhakhpaa
