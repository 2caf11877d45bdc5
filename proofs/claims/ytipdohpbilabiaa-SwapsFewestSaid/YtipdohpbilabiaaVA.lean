import Derived.Test.YtipdohpbilabiaaV8
/-! Fits. -/
namespace Go.Proofs.Ytipdohpbilabiaa
set_option linter.unusedSimpArgs false
set_option linter.unusedVariables false
open Go Go.RowKit

theorem plB_title {X : Sw} {P : List (List Int)} (hok : XOk X) (h : plB X P = true) : P.length = X.bs.length ∧ ∀ l ∈ P, ∀ x ∈ l, 0 ≤ x ∧ x < (X.st.length : Int) := by
  unfold plB at h
  simp only [Bool.and_eq_true, decide_eq_true_eq] at h
  refine ⟨h.1, fun l hl x hx => ?_⟩
  obtain ⟨i, hi, rfl⟩ := mem_getD [] hl
  have := all_at h.2 hi
  unfold plI at this
  simp only [Bool.and_eq_true, decide_eq_true_eq] at this
  have := ris_mem this.2 x hx
  unfold ntI at this
  omega

set_option maxRecDepth 100000 in
set_option maxHeartbeats 6000000 in
theorem Fits_bad (ab ast ae ak : Option Addr) (cb cs ce ck : Nat) (X : Sw) (ap : Option Addr) (cp : Nat) (P : List (List Int)) (w : World) (hX : Swp w ab ast ae ak X) (hP : Lss w ap P) (r : Int) (hr : r = if vB X then 1 else 70) (hb : vB X = true → plB X P = false) : Calls Try.prog 19 #[.agg #[.slice ab X.bs.length cb, .slice ast X.st.length cs, .slice ae X.er.length ce, .slice ak X.ks.length ck, .int .i64 X.ch], .slice ap P.length cp] w fun e w' => e = .returned (.tuple #[.bool false, .int .i64 r]) ∧ Below w.heap.size w w' := by
  obtain ⟨W, hW, hbw, _, x0⟩ := boxes1 w #[.slice ab X.bs.length cb, .slice ast X.st.length cs, .slice ae X.er.length ce, .slice ak X.ks.length ck, .int .i64 X.ch] 26
  have hgX := fun V (h : Below w.heap.size w V) => hX.below h (Nat.le_refl _)
  have hgP := fun V (h : Below w.heap.size w V) => hP.below h (Nat.le_refl _)
  have hip := fun V h1 h2 => isPlan_any ab ast ae ak cb cs ce ck X ap cp P V h1 h2
  have hvo := fun V h => visitOf_bad ab ast ae ak cb cs ce ck X (plB X P) V h r hr hb
  have hrB : (r != 0) = true := by rw [hr]; split <;> rfl
  generalize plB X P = bb at *
  clear hX hP hr hb
  have c0 := x0.cell 0 rfl; have c1 := x0.cell 1 rfl; have c2 := x0.cell 2 rfl; have c3 := x0.cell 3 rfl; have c4 := x0.cell 4 rfl
  go_enter Try.func19, Try.ntmps19
  go_wp2_with fail
  clear hW c0 c1 c2 c3 c4
  go_cut [6, 7] (fun s6 s7 wx => ∃ g : Nat, s6 = .pointer (some ⟨g, 0, none⟩) ∧ s7 = .int .i64 r ∧ w.heap.size < g ∧ Bx wx g #[.slice none 0 0, .slice none 0 0, .slice none 0 0, .slice none 0 0, .int .i64 0, .int .u8 0, .int .u8 0, .int .u8 0, .int .u8 0, .int .u8 0, .int .u8 0] 72 ∧ Bx wx w.heap.size #[.slice ab X.bs.length cb, .slice ast X.st.length cs, .slice ae X.er.length ce, .slice ak X.ks.length ck, .int .i64 X.ch] 26 ∧ Below w.heap.size w wx)
  case first =>
    have hbd := (Below.refl W.heap.size W).drew
    have S0 := x0.below hbd
    replace hbw := hbw.trans (hbd.mono hbw.size)
    clear hbd x0
    refine wp_region_head 10 (fun w' => Bx w' w.heap.size #[.slice ab X.bs.length cb, .slice ast X.st.length cs, .slice ae X.er.length ce, .slice ak X.ks.length ck, .int .i64 X.ch] 26) (by kernel_rfl) rfl ?_
    generalize W.drew = Y0 at *
    refine HeadAt.take (i := 0) (.agg #[.slice ab X.bs.length cb, .slice ast X.st.length cs, .slice ae X.er.length ce, .slice ak X.ks.length ck, .int .i64 X.ch]) rfl (by kernel_rfl) (.inl ⟨rfl, fun w' z => ?_⟩) S0 ?_
    · (have z0 := z.cell 0 rfl; have z1 := z.cell 1 rfl; have z2 := z.cell 2 rfl; have z3 := z.cell 3 rfl; have z4 := z.cell 4 rfl; simp [go_sem, z0, z1, z2, z3, z4])
    refine HeadAt.take (i := 1) (.agg #[.slice ab X.bs.length cb, .slice ast X.st.length cs, .slice ae X.er.length ce, .slice ak X.ks.length ck, .int .i64 X.ch]) rfl (by kernel_rfl) (.inl ⟨rfl, fun w' z => ?_⟩) S0 ?_
    · (have z0 := z.cell 0 rfl; have z1 := z.cell 1 rfl; have z2 := z.cell 2 rfl; have z3 := z.cell 3 rfl; have z4 := z.cell 4 rfl; simp [go_sem, z0, z1, z2, z3, z4])
    refine HeadAt.take (i := 2) (.slice ap P.length cp) rfl (by kernel_rfl) (.inl ⟨rfl, fun _ _ => by simp [go_sem]⟩) S0 ?_
    (try simp only [Act.put, List.getElem_toArray, List.getElem_cons_succ, List.getElem_cons_zero, List.setIfInBounds_toArray, List.set_cons_succ, List.set_cons_zero])
    refine HeadAt.two (i := 3) (j := 8) rfl rfl (by kernel_rfl) ?_ ?_
    · skip
      generalize hK : Upto _ _ = K0
      (try simp only [Act.put, List.getElem_toArray, List.getElem_cons_succ, List.getElem_cons_zero, List.setIfInBounds_toArray, List.set_cons_succ, List.set_cons_zero])
      go_wp2_with fail
      refine (hip _ (hgX _ hbw) (hgP _ hbw)).mono ?_
      rintro e V1 ⟨rfl, hb1⟩
      replace S0 := S0.below hb1
      skip
      replace hbw := hbw.trans (hb1.mono hbw.size)
      clear hb1
      go_wp2_with fail
      subst hK
      refine ⟨S0, ?_⟩
      (try simp only [Act.put, List.getElem_toArray, List.getElem_cons_succ, List.getElem_cons_zero, List.setIfInBounds_toArray, List.set_cons_succ, List.set_cons_zero])
      obtain ⟨Y0, rfl⟩ : ∃ Y : World, Y = V1 := ⟨_, rfl⟩
      refine HeadAt.two (i := 4) (j := 8) rfl rfl (by kernel_rfl) ?_ ?_
      · skip
        generalize hK : Upto _ _ = K0
        (try simp only [Act.put, List.getElem_toArray, List.getElem_cons_succ, List.getElem_cons_zero, List.setIfInBounds_toArray, List.set_cons_succ, List.set_cons_zero])
        go_wp2_with fail
        refine (hvo _ (hgX _ hbw)).mono ?_
        rintro e V1 ⟨rfl, hb1⟩
        replace S0 := S0.below hb1
        skip
        replace hbw := hbw.trans (hb1.mono hbw.size)
        clear hb1
        go_wp2_with fail
        subst hK
        refine ⟨S0, ?_⟩
        (try simp only [Act.put, List.getElem_toArray, List.getElem_cons_succ, List.getElem_cons_zero, List.setIfInBounds_toArray, List.set_cons_succ, List.set_cons_zero])
        obtain ⟨Y0, rfl⟩ : ∃ Y : World, Y = V1 := ⟨_, rfl⟩
        refine HeadAt.take (i := 5) (.tuple #[.agg #[.slice none 0 0, .slice none 0 0, .slice none 0 0, .slice none 0 0, .int .i64 0, .int .u8 0, .int .u8 0, .int .u8 0, .int .u8 0, .int .u8 0, .int .u8 0], .int .i64 r]) rfl (by kernel_rfl) (.inl ⟨rfl, fun _ _ => by simp [go_sem]⟩) S0 ?_
        (try simp only [Act.put, List.getElem_toArray, List.getElem_cons_succ, List.getElem_cons_zero, List.setIfInBounds_toArray, List.set_cons_succ, List.set_cons_zero])
        refine HeadAt.take (i := 6) (.agg #[.slice none 0 0, .slice none 0 0, .slice none 0 0, .slice none 0 0, .int .i64 0, .int .u8 0, .int .u8 0, .int .u8 0, .int .u8 0, .int .u8 0, .int .u8 0]) rfl (by kernel_rfl) (.inl ⟨rfl, fun _ _ => by simp [go_sem]⟩) S0 ?_
        (try simp only [Act.put, List.getElem_toArray, List.getElem_cons_succ, List.getElem_cons_zero, List.setIfInBounds_toArray, List.set_cons_succ, List.set_cons_zero])
        refine HeadAt.take (i := 7) (.int .i64 r) rfl (by kernel_rfl) (.inl ⟨rfl, fun _ _ => by simp [go_sem]⟩) S0 ?_
        (try simp only [Act.put, List.getElem_toArray, List.getElem_cons_succ, List.getElem_cons_zero, List.setIfInBounds_toArray, List.set_cons_succ, List.set_cons_zero])
        refine HeadAt.one (i := 8) rfl (by kernel_rfl) ?_
        generalize hK : Upto _ _ = K0
        (try simp only [Act.put, List.getElem_toArray, List.getElem_cons_succ, List.getElem_cons_zero, List.setIfInBounds_toArray, List.set_cons_succ, List.set_cons_zero])
        have hb1 := below_one (w := Y0) (.cells #[.slice none 0 0, .slice none 0 0, .slice none 0 0, .slice none 0 0, .int .i64 0, .int .u8 0, .int .u8 0, .int .u8 0, .int .u8 0, .int .u8 0, .int .u8 0] 72)
        have HX := hid (And.intro (S0.below hb1) (And.intro (hbw.trans (hb1.mono hbw.size)) (Bx.new Y0 #[.slice none 0 0, .slice none 0 0, .slice none 0 0, .slice none 0 0, .int .i64 0, .int .u8 0, .int .u8 0, .int .u8 0, .int .u8 0, .int .u8 0, .int .u8 0] 72)))
        clear hb1
        go_wp2_with fail
        subst hK
        obtain ⟨S1, hbw', xg⟩ := HX.out
        refine ⟨S1, ?_⟩
        (try simp only [Act.put, List.getElem_toArray, List.getElem_cons_succ, List.getElem_cons_zero, List.setIfInBounds_toArray, List.set_cons_succ, List.set_cons_zero])
        obtain ⟨g, hg⟩ : ∃ g, g = Y0.heap.size := ⟨_, rfl⟩
        have hgs : w.heap.size < g := by have := S0.lt; omega
        rw [← hg] at xg ⊢
        clear hg HX S0 hbw
        have S0 := S1
        have hbw := hbw'
        clear S1 hbw'
        generalize Y0.alloc _ = Y1 at *
        obtain ⟨Y0, rfl⟩ : ∃ Y : World, Y = Y1 := ⟨_, rfl⟩
        refine HeadAt.one (i := 9) rfl (by kernel_rfl) ?_
        generalize hK : Upto _ _ = K0
        (try simp only [Act.put, List.getElem_toArray, List.getElem_cons_succ, List.getElem_cons_zero, List.setIfInBounds_toArray, List.set_cons_succ, List.set_cons_zero])
        have d0 := xg.cell 0 rfl; have d1 := xg.cell 1 rfl; have d2 := xg.cell 2 rfl; have d3 := xg.cell 3 rfl; have d4 := xg.cell 4 rfl; have d5 := xg.cell 5 rfl; have d6 := xg.cell 6 rfl; have d7 := xg.cell 7 rfl; have d8 := xg.cell 8 rfl; have d9 := xg.cell 9 rfl; have d10 := xg.cell 10 rfl
        have f0 := xg.free 0; have f1 := xg.free 1; have f2 := xg.free 2; have f3 := xg.free 3; have f4 := xg.free 4; have f5 := xg.free 5; have f6 := xg.free 6; have f7 := xg.free 7; have f8 := xg.free 8; have f9 := xg.free 9; have f10 := xg.free 10
        have xg' := xg.set11 (.slice none 0 0) (.slice none 0 0) (.slice none 0 0) (.slice none 0 0) (.int .i64 0) (.int .u8 0) (.int .u8 0) (.int .u8 0) (.int .u8 0) (.int .u8 0) (.int .u8 0)
        have hb' := below_put11 hbw (b := g) (by omega) (.slice none 0 0) (.slice none 0 0) (.slice none 0 0) (.slice none 0 0) (.int .i64 0) (.int .u8 0) (.int .u8 0) (.int .u8 0) (.int .u8 0) (.int .u8 0) (.int .u8 0)
        have S1 := S0.other11 (b := g) (by omega) (.slice none 0 0) (.slice none 0 0) (.slice none 0 0) (.slice none 0 0) (.int .i64 0) (.int .u8 0) (.int .u8 0) (.int .u8 0) (.int .u8 0) (.int .u8 0) (.int .u8 0)
        have HY := hid (And.intro hgs (And.intro xg' (And.intro S1 hb')))
        clear xg' hb' S1
        go_wp2_with fail
        subst hK
        obtain ⟨_, xg', S1, hb'⟩ := HY.out
        refine ⟨S1, ?_⟩
        generalize World.setCell _ _ _ = YY at *
        refine HeadAt.done (by kernel_rfl) ?_
        (try simp only [Act.put, List.drop_succ_cons, List.drop_zero, List.getElem_toArray, List.getElem_cons_succ, List.getElem_cons_zero])
        go_wp2_with fail
        refine NoPanic.normal ?_
        go_wp2_with fail
        go_meet
        exact ⟨g, rfl, rfl, hgs, xg', S1, hb'⟩
      · skip
        generalize hK : Upto _ _ = K0
        (try simp only [Act.put, List.getElem_toArray, List.getElem_cons_succ, List.getElem_cons_zero, List.setIfInBounds_toArray, List.set_cons_succ, List.set_cons_zero])
        have hb1 := below_one (w := Y0) (.cells #[.slice none 0 0, .slice none 0 0, .slice none 0 0, .slice none 0 0, .int .i64 0, .int .u8 0, .int .u8 0, .int .u8 0, .int .u8 0, .int .u8 0, .int .u8 0] 72)
        have HX := hid (And.intro (S0.below hb1) (And.intro (hbw.trans (hb1.mono hbw.size)) (Bx.new Y0 #[.slice none 0 0, .slice none 0 0, .slice none 0 0, .slice none 0 0, .int .i64 0, .int .u8 0, .int .u8 0, .int .u8 0, .int .u8 0, .int .u8 0, .int .u8 0] 72)))
        clear hb1
        go_wp2_with fail
        subst hK
        obtain ⟨S1, hbw', xg⟩ := HX.out
        refine ⟨S1, ?_⟩
        (try simp only [Act.put, List.getElem_toArray, List.getElem_cons_succ, List.getElem_cons_zero, List.setIfInBounds_toArray, List.set_cons_succ, List.set_cons_zero])
        obtain ⟨g, hg⟩ : ∃ g, g = Y0.heap.size := ⟨_, rfl⟩
        have hgs : w.heap.size < g := by have := S0.lt; omega
        rw [← hg] at xg ⊢
        clear hg HX S0 hbw
        have S0 := S1
        have hbw := hbw'
        clear S1 hbw'
        generalize Y0.alloc _ = Y1 at *
        obtain ⟨Y0, rfl⟩ : ∃ Y : World, Y = Y1 := ⟨_, rfl⟩
        refine HeadAt.one (i := 4) rfl (by kernel_rfl) ?_
        generalize hK : Upto _ _ = K0
        (try simp only [Act.put, List.getElem_toArray, List.getElem_cons_succ, List.getElem_cons_zero, List.setIfInBounds_toArray, List.set_cons_succ, List.set_cons_zero])
        go_wp2_with fail
        refine (hvo _ (hgX _ hbw)).mono ?_
        rintro e V1 ⟨rfl, hb1⟩
        replace S0 := S0.below hb1
        replace xg := xg.below hb1
        replace hbw := hbw.trans (hb1.mono hbw.size)
        clear hb1
        go_wp2_with fail
        subst hK
        refine ⟨S0, ?_⟩
        (try simp only [Act.put, List.getElem_toArray, List.getElem_cons_succ, List.getElem_cons_zero, List.setIfInBounds_toArray, List.set_cons_succ, List.set_cons_zero])
        obtain ⟨Y0, rfl⟩ : ∃ Y : World, Y = V1 := ⟨_, rfl⟩
        refine HeadAt.take (i := 5) (.tuple #[.agg #[.slice none 0 0, .slice none 0 0, .slice none 0 0, .slice none 0 0, .int .i64 0, .int .u8 0, .int .u8 0, .int .u8 0, .int .u8 0, .int .u8 0, .int .u8 0], .int .i64 r]) rfl (by kernel_rfl) (.inl ⟨rfl, fun _ _ => by simp [go_sem]⟩) S0 ?_
        (try simp only [Act.put, List.getElem_toArray, List.getElem_cons_succ, List.getElem_cons_zero, List.setIfInBounds_toArray, List.set_cons_succ, List.set_cons_zero])
        refine HeadAt.take (i := 6) (.agg #[.slice none 0 0, .slice none 0 0, .slice none 0 0, .slice none 0 0, .int .i64 0, .int .u8 0, .int .u8 0, .int .u8 0, .int .u8 0, .int .u8 0, .int .u8 0]) rfl (by kernel_rfl) (.inl ⟨rfl, fun _ _ => by simp [go_sem]⟩) S0 ?_
        (try simp only [Act.put, List.getElem_toArray, List.getElem_cons_succ, List.getElem_cons_zero, List.setIfInBounds_toArray, List.set_cons_succ, List.set_cons_zero])
        refine HeadAt.take (i := 7) (.int .i64 r) rfl (by kernel_rfl) (.inl ⟨rfl, fun _ _ => by simp [go_sem]⟩) S0 ?_
        (try simp only [Act.put, List.getElem_toArray, List.getElem_cons_succ, List.getElem_cons_zero, List.setIfInBounds_toArray, List.set_cons_succ, List.set_cons_zero])
        refine HeadAt.one (i := 9) rfl (by kernel_rfl) ?_
        generalize hK : Upto _ _ = K0
        (try simp only [Act.put, List.getElem_toArray, List.getElem_cons_succ, List.getElem_cons_zero, List.setIfInBounds_toArray, List.set_cons_succ, List.set_cons_zero])
        have d0 := xg.cell 0 rfl; have d1 := xg.cell 1 rfl; have d2 := xg.cell 2 rfl; have d3 := xg.cell 3 rfl; have d4 := xg.cell 4 rfl; have d5 := xg.cell 5 rfl; have d6 := xg.cell 6 rfl; have d7 := xg.cell 7 rfl; have d8 := xg.cell 8 rfl; have d9 := xg.cell 9 rfl; have d10 := xg.cell 10 rfl
        have f0 := xg.free 0; have f1 := xg.free 1; have f2 := xg.free 2; have f3 := xg.free 3; have f4 := xg.free 4; have f5 := xg.free 5; have f6 := xg.free 6; have f7 := xg.free 7; have f8 := xg.free 8; have f9 := xg.free 9; have f10 := xg.free 10
        have xg' := xg.set11 (.slice none 0 0) (.slice none 0 0) (.slice none 0 0) (.slice none 0 0) (.int .i64 0) (.int .u8 0) (.int .u8 0) (.int .u8 0) (.int .u8 0) (.int .u8 0) (.int .u8 0)
        have hb' := below_put11 hbw (b := g) (by omega) (.slice none 0 0) (.slice none 0 0) (.slice none 0 0) (.slice none 0 0) (.int .i64 0) (.int .u8 0) (.int .u8 0) (.int .u8 0) (.int .u8 0) (.int .u8 0) (.int .u8 0)
        have S1 := S0.other11 (b := g) (by omega) (.slice none 0 0) (.slice none 0 0) (.slice none 0 0) (.slice none 0 0) (.int .i64 0) (.int .u8 0) (.int .u8 0) (.int .u8 0) (.int .u8 0) (.int .u8 0) (.int .u8 0)
        have HY := hid (And.intro hgs (And.intro xg' (And.intro S1 hb')))
        clear xg' hb' S1
        go_wp2_with fail
        subst hK
        obtain ⟨_, xg', S1, hb'⟩ := HY.out
        refine ⟨S1, ?_⟩
        generalize World.setCell _ _ _ = YY at *
        refine HeadAt.done (by kernel_rfl) ?_
        (try simp only [Act.put, List.drop_succ_cons, List.drop_zero, List.getElem_toArray, List.getElem_cons_succ, List.getElem_cons_zero])
        go_wp2_with fail
        refine NoPanic.normal ?_
        go_wp2_with fail
        go_meet
        exact ⟨g, rfl, rfl, hgs, xg', S1, hb'⟩
    · skip
      generalize hK : Upto _ _ = K0
      (try simp only [Act.put, List.getElem_toArray, List.getElem_cons_succ, List.getElem_cons_zero, List.setIfInBounds_toArray, List.set_cons_succ, List.set_cons_zero])
      have hb1 := below_one (w := Y0) (.cells #[.slice none 0 0, .slice none 0 0, .slice none 0 0, .slice none 0 0, .int .i64 0, .int .u8 0, .int .u8 0, .int .u8 0, .int .u8 0, .int .u8 0, .int .u8 0] 72)
      have HX := hid (And.intro (S0.below hb1) (And.intro (hbw.trans (hb1.mono hbw.size)) (Bx.new Y0 #[.slice none 0 0, .slice none 0 0, .slice none 0 0, .slice none 0 0, .int .i64 0, .int .u8 0, .int .u8 0, .int .u8 0, .int .u8 0, .int .u8 0, .int .u8 0] 72)))
      clear hb1
      go_wp2_with fail
      subst hK
      obtain ⟨S1, hbw', xg⟩ := HX.out
      refine ⟨S1, ?_⟩
      (try simp only [Act.put, List.getElem_toArray, List.getElem_cons_succ, List.getElem_cons_zero, List.setIfInBounds_toArray, List.set_cons_succ, List.set_cons_zero])
      obtain ⟨g, hg⟩ : ∃ g, g = Y0.heap.size := ⟨_, rfl⟩
      have hgs : w.heap.size < g := by have := S0.lt; omega
      rw [← hg] at xg ⊢
      clear hg HX S0 hbw
      have S0 := S1
      have hbw := hbw'
      clear S1 hbw'
      generalize Y0.alloc _ = Y1 at *
      obtain ⟨Y0, rfl⟩ : ∃ Y : World, Y = Y1 := ⟨_, rfl⟩
      refine HeadAt.one (i := 3) rfl (by kernel_rfl) ?_
      generalize hK : Upto _ _ = K0
      (try simp only [Act.put, List.getElem_toArray, List.getElem_cons_succ, List.getElem_cons_zero, List.setIfInBounds_toArray, List.set_cons_succ, List.set_cons_zero])
      go_wp2_with fail
      refine (hip _ (hgX _ hbw) (hgP _ hbw)).mono ?_
      rintro e V1 ⟨rfl, hb1⟩
      replace S0 := S0.below hb1
      replace xg := xg.below hb1
      replace hbw := hbw.trans (hb1.mono hbw.size)
      clear hb1
      go_wp2_with fail
      subst hK
      refine ⟨S0, ?_⟩
      (try simp only [Act.put, List.getElem_toArray, List.getElem_cons_succ, List.getElem_cons_zero, List.setIfInBounds_toArray, List.set_cons_succ, List.set_cons_zero])
      obtain ⟨Y0, rfl⟩ : ∃ Y : World, Y = V1 := ⟨_, rfl⟩
      refine HeadAt.one (i := 4) rfl (by kernel_rfl) ?_
      generalize hK : Upto _ _ = K0
      (try simp only [Act.put, List.getElem_toArray, List.getElem_cons_succ, List.getElem_cons_zero, List.setIfInBounds_toArray, List.set_cons_succ, List.set_cons_zero])
      go_wp2_with fail
      refine (hvo _ (hgX _ hbw)).mono ?_
      rintro e V1 ⟨rfl, hb1⟩
      replace S0 := S0.below hb1
      replace xg := xg.below hb1
      replace hbw := hbw.trans (hb1.mono hbw.size)
      clear hb1
      go_wp2_with fail
      subst hK
      refine ⟨S0, ?_⟩
      (try simp only [Act.put, List.getElem_toArray, List.getElem_cons_succ, List.getElem_cons_zero, List.setIfInBounds_toArray, List.set_cons_succ, List.set_cons_zero])
      obtain ⟨Y0, rfl⟩ : ∃ Y : World, Y = V1 := ⟨_, rfl⟩
      refine HeadAt.take (i := 5) (.tuple #[.agg #[.slice none 0 0, .slice none 0 0, .slice none 0 0, .slice none 0 0, .int .i64 0, .int .u8 0, .int .u8 0, .int .u8 0, .int .u8 0, .int .u8 0, .int .u8 0], .int .i64 r]) rfl (by kernel_rfl) (.inl ⟨rfl, fun _ _ => by simp [go_sem]⟩) S0 ?_
      (try simp only [Act.put, List.getElem_toArray, List.getElem_cons_succ, List.getElem_cons_zero, List.setIfInBounds_toArray, List.set_cons_succ, List.set_cons_zero])
      refine HeadAt.take (i := 6) (.agg #[.slice none 0 0, .slice none 0 0, .slice none 0 0, .slice none 0 0, .int .i64 0, .int .u8 0, .int .u8 0, .int .u8 0, .int .u8 0, .int .u8 0, .int .u8 0]) rfl (by kernel_rfl) (.inl ⟨rfl, fun _ _ => by simp [go_sem]⟩) S0 ?_
      (try simp only [Act.put, List.getElem_toArray, List.getElem_cons_succ, List.getElem_cons_zero, List.setIfInBounds_toArray, List.set_cons_succ, List.set_cons_zero])
      refine HeadAt.take (i := 7) (.int .i64 r) rfl (by kernel_rfl) (.inl ⟨rfl, fun _ _ => by simp [go_sem]⟩) S0 ?_
      (try simp only [Act.put, List.getElem_toArray, List.getElem_cons_succ, List.getElem_cons_zero, List.setIfInBounds_toArray, List.set_cons_succ, List.set_cons_zero])
      refine HeadAt.one (i := 9) rfl (by kernel_rfl) ?_
      generalize hK : Upto _ _ = K0
      (try simp only [Act.put, List.getElem_toArray, List.getElem_cons_succ, List.getElem_cons_zero, List.setIfInBounds_toArray, List.set_cons_succ, List.set_cons_zero])
      have d0 := xg.cell 0 rfl; have d1 := xg.cell 1 rfl; have d2 := xg.cell 2 rfl; have d3 := xg.cell 3 rfl; have d4 := xg.cell 4 rfl; have d5 := xg.cell 5 rfl; have d6 := xg.cell 6 rfl; have d7 := xg.cell 7 rfl; have d8 := xg.cell 8 rfl; have d9 := xg.cell 9 rfl; have d10 := xg.cell 10 rfl
      have f0 := xg.free 0; have f1 := xg.free 1; have f2 := xg.free 2; have f3 := xg.free 3; have f4 := xg.free 4; have f5 := xg.free 5; have f6 := xg.free 6; have f7 := xg.free 7; have f8 := xg.free 8; have f9 := xg.free 9; have f10 := xg.free 10
      have xg' := xg.set11 (.slice none 0 0) (.slice none 0 0) (.slice none 0 0) (.slice none 0 0) (.int .i64 0) (.int .u8 0) (.int .u8 0) (.int .u8 0) (.int .u8 0) (.int .u8 0) (.int .u8 0)
      have hb' := below_put11 hbw (b := g) (by omega) (.slice none 0 0) (.slice none 0 0) (.slice none 0 0) (.slice none 0 0) (.int .i64 0) (.int .u8 0) (.int .u8 0) (.int .u8 0) (.int .u8 0) (.int .u8 0) (.int .u8 0)
      have S1 := S0.other11 (b := g) (by omega) (.slice none 0 0) (.slice none 0 0) (.slice none 0 0) (.slice none 0 0) (.int .i64 0) (.int .u8 0) (.int .u8 0) (.int .u8 0) (.int .u8 0) (.int .u8 0) (.int .u8 0)
      have HY := hid (And.intro hgs (And.intro xg' (And.intro S1 hb')))
      clear xg' hb' S1
      go_wp2_with fail
      subst hK
      obtain ⟨_, xg', S1, hb'⟩ := HY.out
      refine ⟨S1, ?_⟩
      generalize World.setCell _ _ _ = YY at *
      refine HeadAt.done (by kernel_rfl) ?_
      (try simp only [Act.put, List.drop_succ_cons, List.drop_zero, List.getElem_toArray, List.getElem_cons_succ, List.getElem_cons_zero])
      go_wp2_with fail
      refine NoPanic.normal ?_
      go_wp2_with fail
      go_meet
      exact ⟨g, rfl, rfl, hgs, xg', S1, hb'⟩
  case rest =>
    clear hbw x0
    obtain ⟨g, rfl, rfl, hg, xg, x0, hb⟩ := hcut
    clear xg x0 hvo hgX hgP hip
    go_wp2
    go_ret2
    exact ⟨rfl, hb⟩

set_option maxRecDepth 100000 in
set_option maxHeartbeats 6000000 in
theorem Fits_ok (ab ast ae ak : Option Addr) (cb cs ce ck : Nat) (X : Sw) (ap : Option Addr) (cp : Nat) (P : List (List Int)) (w : World) (hX : Swp w ab ast ae ak X) (hP : Lss w ap P) (hv : vB X = true) (hpl : plB X P = true) : Calls Try.prog 19 #[.agg #[.slice ab X.bs.length cb, .slice ast X.st.length cs, .slice ae X.er.length ce, .slice ak X.ks.length ck, .int .i64 X.ch], .slice ap P.length cp] w fun e w' => e = .returned (.tuple #[.bool (fitA X.vz (planM P)), .int .i64 0]) ∧ Below w.heap.size w w' := by
  obtain ⟨W, hW, hbw, _, x0⟩ := boxes1 w #[.slice ab X.bs.length cb, .slice ast X.st.length cs, .slice ae X.er.length ce, .slice ak X.ks.length ck, .int .i64 X.ch] 26
  have hgX := fun V (h : Below w.heap.size w V) => hX.below h (Nat.le_refl _)
  have hgP := fun V (h : Below w.heap.size w V) => hP.below h (Nat.le_refl _)
  have hip := fun V h1 h2 => isPlan_any ab ast ae ak cb cs ce ck X ap cp P V h1 h2
  obtain ⟨p, hp⟩ : ∃ p, p = planM X.bs := ⟨_, rfl⟩
  obtain ⟨q, hq⟩ : ∃ q, q = stayF X.ks := ⟨_, rfl⟩
  obtain ⟨s, hs⟩ : ∃ s, s = planM P := ⟨_, rfl⟩
  have hok := vB_iff hv
  have hvo := fun V h => visitOf_ok ab ast ae ak cb cs ce ck X V h hv p q hp hq
  have ht := plB_title hok hpl
  have hso : s.ok 64 := by rw [hs]; exact (planM_ok ht.2).le (Nat.pow_le_pow_right (n := 2) (by omega) hok.t6)
  have hfe := fun V (h : Below w.heap.size w V) => fits_X ab ast ae ak cb cs ce ck X hok p q hp hq s hso V (hX.below h (Nat.le_refl _))
  have hpo := fun V (h : Below w.heap.size w V) => planOf_any ap cp P V (hP.below h (Nat.le_refl _)) (by have := hok.nb3; have := ht.1; omega) (fun l hl x hx => by have := ht.2 l hl x hx; have := hok.t6; omega) s hs
  rw [← hs]
  rw [hpl] at hip
  generalize fitA X.vz s = fa at *
  clear hX hP hp hq hv hok ht hso hs hpl
  have c0 := x0.cell 0 rfl; have c1 := x0.cell 1 rfl; have c2 := x0.cell 2 rfl; have c3 := x0.cell 3 rfl; have c4 := x0.cell 4 rfl
  go_enter Try.func19, Try.ntmps19
  go_wp2_with fail
  clear hW c0 c1 c2 c3 c4
  go_cut [6, 7] (fun s6 s7 wx => ∃ g : Nat, s6 = .pointer (some ⟨g, 0, none⟩) ∧ s7 = .int .i64 0 ∧ w.heap.size < g ∧ Bx wx g #[.slice ab X.bs.length cb, .slice ast X.st.length cs, .slice ae X.er.length ce, .slice ak X.ks.length ck, .int .i64 X.ch, .int .u8 (p.a : Int), .int .u8 (p.b : Int), .int .u8 (p.c : Int), .int .u8 (q.a : Int), .int .u8 (q.b : Int), .int .u8 (q.c : Int)] 72 ∧ Bx wx w.heap.size #[.slice ab X.bs.length cb, .slice ast X.st.length cs, .slice ae X.er.length ce, .slice ak X.ks.length ck, .int .i64 X.ch] 26 ∧ Below w.heap.size w wx)
  case first =>
    have hbd := (Below.refl W.heap.size W).drew
    have S0 := x0.below hbd
    replace hbw := hbw.trans (hbd.mono hbw.size)
    clear hbd x0
    refine wp_region_head 10 (fun w' => Bx w' w.heap.size #[.slice ab X.bs.length cb, .slice ast X.st.length cs, .slice ae X.er.length ce, .slice ak X.ks.length ck, .int .i64 X.ch] 26) (by kernel_rfl) rfl ?_
    generalize W.drew = Y0 at *
    refine HeadAt.take (i := 0) (.agg #[.slice ab X.bs.length cb, .slice ast X.st.length cs, .slice ae X.er.length ce, .slice ak X.ks.length ck, .int .i64 X.ch]) rfl (by kernel_rfl) (.inl ⟨rfl, fun w' z => ?_⟩) S0 ?_
    · (have z0 := z.cell 0 rfl; have z1 := z.cell 1 rfl; have z2 := z.cell 2 rfl; have z3 := z.cell 3 rfl; have z4 := z.cell 4 rfl; simp [go_sem, z0, z1, z2, z3, z4])
    refine HeadAt.take (i := 1) (.agg #[.slice ab X.bs.length cb, .slice ast X.st.length cs, .slice ae X.er.length ce, .slice ak X.ks.length ck, .int .i64 X.ch]) rfl (by kernel_rfl) (.inl ⟨rfl, fun w' z => ?_⟩) S0 ?_
    · (have z0 := z.cell 0 rfl; have z1 := z.cell 1 rfl; have z2 := z.cell 2 rfl; have z3 := z.cell 3 rfl; have z4 := z.cell 4 rfl; simp [go_sem, z0, z1, z2, z3, z4])
    refine HeadAt.take (i := 2) (.slice ap P.length cp) rfl (by kernel_rfl) (.inl ⟨rfl, fun _ _ => by simp [go_sem]⟩) S0 ?_
    (try simp only [Act.put, List.getElem_toArray, List.getElem_cons_succ, List.getElem_cons_zero, List.setIfInBounds_toArray, List.set_cons_succ, List.set_cons_zero])
    refine HeadAt.two (i := 3) (j := 8) rfl rfl (by kernel_rfl) ?_ ?_
    · skip
      generalize hK : Upto _ _ = K0
      (try simp only [Act.put, List.getElem_toArray, List.getElem_cons_succ, List.getElem_cons_zero, List.setIfInBounds_toArray, List.set_cons_succ, List.set_cons_zero])
      go_wp2_with fail
      refine (hip _ (hgX _ hbw) (hgP _ hbw)).mono ?_
      rintro e V1 ⟨rfl, hb1⟩
      replace S0 := S0.below hb1
      skip
      replace hbw := hbw.trans (hb1.mono hbw.size)
      clear hb1
      go_wp2_with fail
      subst hK
      refine ⟨S0, ?_⟩
      (try simp only [Act.put, List.getElem_toArray, List.getElem_cons_succ, List.getElem_cons_zero, List.setIfInBounds_toArray, List.set_cons_succ, List.set_cons_zero])
      obtain ⟨Y0, rfl⟩ : ∃ Y : World, Y = V1 := ⟨_, rfl⟩
      refine HeadAt.two (i := 4) (j := 8) rfl rfl (by kernel_rfl) ?_ ?_
      · skip
        generalize hK : Upto _ _ = K0
        (try simp only [Act.put, List.getElem_toArray, List.getElem_cons_succ, List.getElem_cons_zero, List.setIfInBounds_toArray, List.set_cons_succ, List.set_cons_zero])
        go_wp2_with fail
        refine (hvo _ (hgX _ hbw)).mono ?_
        rintro e V1 ⟨rfl, hb1⟩
        replace S0 := S0.below hb1
        skip
        replace hbw := hbw.trans (hb1.mono hbw.size)
        clear hb1
        go_wp2_with fail
        subst hK
        refine ⟨S0, ?_⟩
        (try simp only [Act.put, List.getElem_toArray, List.getElem_cons_succ, List.getElem_cons_zero, List.setIfInBounds_toArray, List.set_cons_succ, List.set_cons_zero])
        obtain ⟨Y0, rfl⟩ : ∃ Y : World, Y = V1 := ⟨_, rfl⟩
        refine HeadAt.take (i := 5) (.tuple #[.agg #[.slice ab X.bs.length cb, .slice ast X.st.length cs, .slice ae X.er.length ce, .slice ak X.ks.length ck, .int .i64 X.ch, .int .u8 (p.a : Int), .int .u8 (p.b : Int), .int .u8 (p.c : Int), .int .u8 (q.a : Int), .int .u8 (q.b : Int), .int .u8 (q.c : Int)], .int .i64 0]) rfl (by kernel_rfl) (.inl ⟨rfl, fun _ _ => by simp [go_sem]⟩) S0 ?_
        (try simp only [Act.put, List.getElem_toArray, List.getElem_cons_succ, List.getElem_cons_zero, List.setIfInBounds_toArray, List.set_cons_succ, List.set_cons_zero])
        refine HeadAt.take (i := 6) (.agg #[.slice ab X.bs.length cb, .slice ast X.st.length cs, .slice ae X.er.length ce, .slice ak X.ks.length ck, .int .i64 X.ch, .int .u8 (p.a : Int), .int .u8 (p.b : Int), .int .u8 (p.c : Int), .int .u8 (q.a : Int), .int .u8 (q.b : Int), .int .u8 (q.c : Int)]) rfl (by kernel_rfl) (.inl ⟨rfl, fun _ _ => by simp [go_sem]⟩) S0 ?_
        (try simp only [Act.put, List.getElem_toArray, List.getElem_cons_succ, List.getElem_cons_zero, List.setIfInBounds_toArray, List.set_cons_succ, List.set_cons_zero])
        refine HeadAt.take (i := 7) (.int .i64 0) rfl (by kernel_rfl) (.inl ⟨rfl, fun _ _ => by simp [go_sem]⟩) S0 ?_
        (try simp only [Act.put, List.getElem_toArray, List.getElem_cons_succ, List.getElem_cons_zero, List.setIfInBounds_toArray, List.set_cons_succ, List.set_cons_zero])
        refine HeadAt.one (i := 8) rfl (by kernel_rfl) ?_
        generalize hK : Upto _ _ = K0
        (try simp only [Act.put, List.getElem_toArray, List.getElem_cons_succ, List.getElem_cons_zero, List.setIfInBounds_toArray, List.set_cons_succ, List.set_cons_zero])
        have hb1 := below_one (w := Y0) (.cells #[.slice none 0 0, .slice none 0 0, .slice none 0 0, .slice none 0 0, .int .i64 0, .int .u8 0, .int .u8 0, .int .u8 0, .int .u8 0, .int .u8 0, .int .u8 0] 72)
        have HX := hid (And.intro (S0.below hb1) (And.intro (hbw.trans (hb1.mono hbw.size)) (Bx.new Y0 #[.slice none 0 0, .slice none 0 0, .slice none 0 0, .slice none 0 0, .int .i64 0, .int .u8 0, .int .u8 0, .int .u8 0, .int .u8 0, .int .u8 0, .int .u8 0] 72)))
        clear hb1
        go_wp2_with fail
        subst hK
        obtain ⟨S1, hbw', xg⟩ := HX.out
        refine ⟨S1, ?_⟩
        (try simp only [Act.put, List.getElem_toArray, List.getElem_cons_succ, List.getElem_cons_zero, List.setIfInBounds_toArray, List.set_cons_succ, List.set_cons_zero])
        obtain ⟨g, hg⟩ : ∃ g, g = Y0.heap.size := ⟨_, rfl⟩
        have hgs : w.heap.size < g := by have := S0.lt; omega
        rw [← hg] at xg ⊢
        clear hg HX S0 hbw
        have S0 := S1
        have hbw := hbw'
        clear S1 hbw'
        generalize Y0.alloc _ = Y1 at *
        obtain ⟨Y0, rfl⟩ : ∃ Y : World, Y = Y1 := ⟨_, rfl⟩
        refine HeadAt.one (i := 9) rfl (by kernel_rfl) ?_
        generalize hK : Upto _ _ = K0
        (try simp only [Act.put, List.getElem_toArray, List.getElem_cons_succ, List.getElem_cons_zero, List.setIfInBounds_toArray, List.set_cons_succ, List.set_cons_zero])
        have d0 := xg.cell 0 rfl; have d1 := xg.cell 1 rfl; have d2 := xg.cell 2 rfl; have d3 := xg.cell 3 rfl; have d4 := xg.cell 4 rfl; have d5 := xg.cell 5 rfl; have d6 := xg.cell 6 rfl; have d7 := xg.cell 7 rfl; have d8 := xg.cell 8 rfl; have d9 := xg.cell 9 rfl; have d10 := xg.cell 10 rfl
        have f0 := xg.free 0; have f1 := xg.free 1; have f2 := xg.free 2; have f3 := xg.free 3; have f4 := xg.free 4; have f5 := xg.free 5; have f6 := xg.free 6; have f7 := xg.free 7; have f8 := xg.free 8; have f9 := xg.free 9; have f10 := xg.free 10
        have xg' := xg.set11 (.slice ab X.bs.length cb) (.slice ast X.st.length cs) (.slice ae X.er.length ce) (.slice ak X.ks.length ck) (.int .i64 X.ch) (.int .u8 (p.a : Int)) (.int .u8 (p.b : Int)) (.int .u8 (p.c : Int)) (.int .u8 (q.a : Int)) (.int .u8 (q.b : Int)) (.int .u8 (q.c : Int))
        have hb' := below_put11 hbw (b := g) (by omega) (.slice ab X.bs.length cb) (.slice ast X.st.length cs) (.slice ae X.er.length ce) (.slice ak X.ks.length ck) (.int .i64 X.ch) (.int .u8 (p.a : Int)) (.int .u8 (p.b : Int)) (.int .u8 (p.c : Int)) (.int .u8 (q.a : Int)) (.int .u8 (q.b : Int)) (.int .u8 (q.c : Int))
        have S1 := S0.other11 (b := g) (by omega) (.slice ab X.bs.length cb) (.slice ast X.st.length cs) (.slice ae X.er.length ce) (.slice ak X.ks.length ck) (.int .i64 X.ch) (.int .u8 (p.a : Int)) (.int .u8 (p.b : Int)) (.int .u8 (p.c : Int)) (.int .u8 (q.a : Int)) (.int .u8 (q.b : Int)) (.int .u8 (q.c : Int))
        have HY := hid (And.intro hgs (And.intro xg' (And.intro S1 hb')))
        clear xg' hb' S1
        go_wp2_with fail
        subst hK
        obtain ⟨_, xg', S1, hb'⟩ := HY.out
        refine ⟨S1, ?_⟩
        generalize World.setCell _ _ _ = YY at *
        refine HeadAt.done (by kernel_rfl) ?_
        (try simp only [Act.put, List.drop_succ_cons, List.drop_zero, List.getElem_toArray, List.getElem_cons_succ, List.getElem_cons_zero])
        go_wp2_with fail
        refine NoPanic.normal ?_
        go_wp2_with fail
        go_meet
        exact ⟨g, rfl, rfl, hgs, xg', S1, hb'⟩
      · skip
        generalize hK : Upto _ _ = K0
        (try simp only [Act.put, List.getElem_toArray, List.getElem_cons_succ, List.getElem_cons_zero, List.setIfInBounds_toArray, List.set_cons_succ, List.set_cons_zero])
        have hb1 := below_one (w := Y0) (.cells #[.slice none 0 0, .slice none 0 0, .slice none 0 0, .slice none 0 0, .int .i64 0, .int .u8 0, .int .u8 0, .int .u8 0, .int .u8 0, .int .u8 0, .int .u8 0] 72)
        have HX := hid (And.intro (S0.below hb1) (And.intro (hbw.trans (hb1.mono hbw.size)) (Bx.new Y0 #[.slice none 0 0, .slice none 0 0, .slice none 0 0, .slice none 0 0, .int .i64 0, .int .u8 0, .int .u8 0, .int .u8 0, .int .u8 0, .int .u8 0, .int .u8 0] 72)))
        clear hb1
        go_wp2_with fail
        subst hK
        obtain ⟨S1, hbw', xg⟩ := HX.out
        refine ⟨S1, ?_⟩
        (try simp only [Act.put, List.getElem_toArray, List.getElem_cons_succ, List.getElem_cons_zero, List.setIfInBounds_toArray, List.set_cons_succ, List.set_cons_zero])
        obtain ⟨g, hg⟩ : ∃ g, g = Y0.heap.size := ⟨_, rfl⟩
        have hgs : w.heap.size < g := by have := S0.lt; omega
        rw [← hg] at xg ⊢
        clear hg HX S0 hbw
        have S0 := S1
        have hbw := hbw'
        clear S1 hbw'
        generalize Y0.alloc _ = Y1 at *
        obtain ⟨Y0, rfl⟩ : ∃ Y : World, Y = Y1 := ⟨_, rfl⟩
        refine HeadAt.one (i := 4) rfl (by kernel_rfl) ?_
        generalize hK : Upto _ _ = K0
        (try simp only [Act.put, List.getElem_toArray, List.getElem_cons_succ, List.getElem_cons_zero, List.setIfInBounds_toArray, List.set_cons_succ, List.set_cons_zero])
        go_wp2_with fail
        refine (hvo _ (hgX _ hbw)).mono ?_
        rintro e V1 ⟨rfl, hb1⟩
        replace S0 := S0.below hb1
        replace xg := xg.below hb1
        replace hbw := hbw.trans (hb1.mono hbw.size)
        clear hb1
        go_wp2_with fail
        subst hK
        refine ⟨S0, ?_⟩
        (try simp only [Act.put, List.getElem_toArray, List.getElem_cons_succ, List.getElem_cons_zero, List.setIfInBounds_toArray, List.set_cons_succ, List.set_cons_zero])
        obtain ⟨Y0, rfl⟩ : ∃ Y : World, Y = V1 := ⟨_, rfl⟩
        refine HeadAt.take (i := 5) (.tuple #[.agg #[.slice ab X.bs.length cb, .slice ast X.st.length cs, .slice ae X.er.length ce, .slice ak X.ks.length ck, .int .i64 X.ch, .int .u8 (p.a : Int), .int .u8 (p.b : Int), .int .u8 (p.c : Int), .int .u8 (q.a : Int), .int .u8 (q.b : Int), .int .u8 (q.c : Int)], .int .i64 0]) rfl (by kernel_rfl) (.inl ⟨rfl, fun _ _ => by simp [go_sem]⟩) S0 ?_
        (try simp only [Act.put, List.getElem_toArray, List.getElem_cons_succ, List.getElem_cons_zero, List.setIfInBounds_toArray, List.set_cons_succ, List.set_cons_zero])
        refine HeadAt.take (i := 6) (.agg #[.slice ab X.bs.length cb, .slice ast X.st.length cs, .slice ae X.er.length ce, .slice ak X.ks.length ck, .int .i64 X.ch, .int .u8 (p.a : Int), .int .u8 (p.b : Int), .int .u8 (p.c : Int), .int .u8 (q.a : Int), .int .u8 (q.b : Int), .int .u8 (q.c : Int)]) rfl (by kernel_rfl) (.inl ⟨rfl, fun _ _ => by simp [go_sem]⟩) S0 ?_
        (try simp only [Act.put, List.getElem_toArray, List.getElem_cons_succ, List.getElem_cons_zero, List.setIfInBounds_toArray, List.set_cons_succ, List.set_cons_zero])
        refine HeadAt.take (i := 7) (.int .i64 0) rfl (by kernel_rfl) (.inl ⟨rfl, fun _ _ => by simp [go_sem]⟩) S0 ?_
        (try simp only [Act.put, List.getElem_toArray, List.getElem_cons_succ, List.getElem_cons_zero, List.setIfInBounds_toArray, List.set_cons_succ, List.set_cons_zero])
        refine HeadAt.one (i := 9) rfl (by kernel_rfl) ?_
        generalize hK : Upto _ _ = K0
        (try simp only [Act.put, List.getElem_toArray, List.getElem_cons_succ, List.getElem_cons_zero, List.setIfInBounds_toArray, List.set_cons_succ, List.set_cons_zero])
        have d0 := xg.cell 0 rfl; have d1 := xg.cell 1 rfl; have d2 := xg.cell 2 rfl; have d3 := xg.cell 3 rfl; have d4 := xg.cell 4 rfl; have d5 := xg.cell 5 rfl; have d6 := xg.cell 6 rfl; have d7 := xg.cell 7 rfl; have d8 := xg.cell 8 rfl; have d9 := xg.cell 9 rfl; have d10 := xg.cell 10 rfl
        have f0 := xg.free 0; have f1 := xg.free 1; have f2 := xg.free 2; have f3 := xg.free 3; have f4 := xg.free 4; have f5 := xg.free 5; have f6 := xg.free 6; have f7 := xg.free 7; have f8 := xg.free 8; have f9 := xg.free 9; have f10 := xg.free 10
        have xg' := xg.set11 (.slice ab X.bs.length cb) (.slice ast X.st.length cs) (.slice ae X.er.length ce) (.slice ak X.ks.length ck) (.int .i64 X.ch) (.int .u8 (p.a : Int)) (.int .u8 (p.b : Int)) (.int .u8 (p.c : Int)) (.int .u8 (q.a : Int)) (.int .u8 (q.b : Int)) (.int .u8 (q.c : Int))
        have hb' := below_put11 hbw (b := g) (by omega) (.slice ab X.bs.length cb) (.slice ast X.st.length cs) (.slice ae X.er.length ce) (.slice ak X.ks.length ck) (.int .i64 X.ch) (.int .u8 (p.a : Int)) (.int .u8 (p.b : Int)) (.int .u8 (p.c : Int)) (.int .u8 (q.a : Int)) (.int .u8 (q.b : Int)) (.int .u8 (q.c : Int))
        have S1 := S0.other11 (b := g) (by omega) (.slice ab X.bs.length cb) (.slice ast X.st.length cs) (.slice ae X.er.length ce) (.slice ak X.ks.length ck) (.int .i64 X.ch) (.int .u8 (p.a : Int)) (.int .u8 (p.b : Int)) (.int .u8 (p.c : Int)) (.int .u8 (q.a : Int)) (.int .u8 (q.b : Int)) (.int .u8 (q.c : Int))
        have HY := hid (And.intro hgs (And.intro xg' (And.intro S1 hb')))
        clear xg' hb' S1
        go_wp2_with fail
        subst hK
        obtain ⟨_, xg', S1, hb'⟩ := HY.out
        refine ⟨S1, ?_⟩
        generalize World.setCell _ _ _ = YY at *
        refine HeadAt.done (by kernel_rfl) ?_
        (try simp only [Act.put, List.drop_succ_cons, List.drop_zero, List.getElem_toArray, List.getElem_cons_succ, List.getElem_cons_zero])
        go_wp2_with fail
        refine NoPanic.normal ?_
        go_wp2_with fail
        go_meet
        exact ⟨g, rfl, rfl, hgs, xg', S1, hb'⟩
    · skip
      generalize hK : Upto _ _ = K0
      (try simp only [Act.put, List.getElem_toArray, List.getElem_cons_succ, List.getElem_cons_zero, List.setIfInBounds_toArray, List.set_cons_succ, List.set_cons_zero])
      have hb1 := below_one (w := Y0) (.cells #[.slice none 0 0, .slice none 0 0, .slice none 0 0, .slice none 0 0, .int .i64 0, .int .u8 0, .int .u8 0, .int .u8 0, .int .u8 0, .int .u8 0, .int .u8 0] 72)
      have HX := hid (And.intro (S0.below hb1) (And.intro (hbw.trans (hb1.mono hbw.size)) (Bx.new Y0 #[.slice none 0 0, .slice none 0 0, .slice none 0 0, .slice none 0 0, .int .i64 0, .int .u8 0, .int .u8 0, .int .u8 0, .int .u8 0, .int .u8 0, .int .u8 0] 72)))
      clear hb1
      go_wp2_with fail
      subst hK
      obtain ⟨S1, hbw', xg⟩ := HX.out
      refine ⟨S1, ?_⟩
      (try simp only [Act.put, List.getElem_toArray, List.getElem_cons_succ, List.getElem_cons_zero, List.setIfInBounds_toArray, List.set_cons_succ, List.set_cons_zero])
      obtain ⟨g, hg⟩ : ∃ g, g = Y0.heap.size := ⟨_, rfl⟩
      have hgs : w.heap.size < g := by have := S0.lt; omega
      rw [← hg] at xg ⊢
      clear hg HX S0 hbw
      have S0 := S1
      have hbw := hbw'
      clear S1 hbw'
      generalize Y0.alloc _ = Y1 at *
      obtain ⟨Y0, rfl⟩ : ∃ Y : World, Y = Y1 := ⟨_, rfl⟩
      refine HeadAt.one (i := 3) rfl (by kernel_rfl) ?_
      generalize hK : Upto _ _ = K0
      (try simp only [Act.put, List.getElem_toArray, List.getElem_cons_succ, List.getElem_cons_zero, List.setIfInBounds_toArray, List.set_cons_succ, List.set_cons_zero])
      go_wp2_with fail
      refine (hip _ (hgX _ hbw) (hgP _ hbw)).mono ?_
      rintro e V1 ⟨rfl, hb1⟩
      replace S0 := S0.below hb1
      replace xg := xg.below hb1
      replace hbw := hbw.trans (hb1.mono hbw.size)
      clear hb1
      go_wp2_with fail
      subst hK
      refine ⟨S0, ?_⟩
      (try simp only [Act.put, List.getElem_toArray, List.getElem_cons_succ, List.getElem_cons_zero, List.setIfInBounds_toArray, List.set_cons_succ, List.set_cons_zero])
      obtain ⟨Y0, rfl⟩ : ∃ Y : World, Y = V1 := ⟨_, rfl⟩
      refine HeadAt.one (i := 4) rfl (by kernel_rfl) ?_
      generalize hK : Upto _ _ = K0
      (try simp only [Act.put, List.getElem_toArray, List.getElem_cons_succ, List.getElem_cons_zero, List.setIfInBounds_toArray, List.set_cons_succ, List.set_cons_zero])
      go_wp2_with fail
      refine (hvo _ (hgX _ hbw)).mono ?_
      rintro e V1 ⟨rfl, hb1⟩
      replace S0 := S0.below hb1
      replace xg := xg.below hb1
      replace hbw := hbw.trans (hb1.mono hbw.size)
      clear hb1
      go_wp2_with fail
      subst hK
      refine ⟨S0, ?_⟩
      (try simp only [Act.put, List.getElem_toArray, List.getElem_cons_succ, List.getElem_cons_zero, List.setIfInBounds_toArray, List.set_cons_succ, List.set_cons_zero])
      obtain ⟨Y0, rfl⟩ : ∃ Y : World, Y = V1 := ⟨_, rfl⟩
      refine HeadAt.take (i := 5) (.tuple #[.agg #[.slice ab X.bs.length cb, .slice ast X.st.length cs, .slice ae X.er.length ce, .slice ak X.ks.length ck, .int .i64 X.ch, .int .u8 (p.a : Int), .int .u8 (p.b : Int), .int .u8 (p.c : Int), .int .u8 (q.a : Int), .int .u8 (q.b : Int), .int .u8 (q.c : Int)], .int .i64 0]) rfl (by kernel_rfl) (.inl ⟨rfl, fun _ _ => by simp [go_sem]⟩) S0 ?_
      (try simp only [Act.put, List.getElem_toArray, List.getElem_cons_succ, List.getElem_cons_zero, List.setIfInBounds_toArray, List.set_cons_succ, List.set_cons_zero])
      refine HeadAt.take (i := 6) (.agg #[.slice ab X.bs.length cb, .slice ast X.st.length cs, .slice ae X.er.length ce, .slice ak X.ks.length ck, .int .i64 X.ch, .int .u8 (p.a : Int), .int .u8 (p.b : Int), .int .u8 (p.c : Int), .int .u8 (q.a : Int), .int .u8 (q.b : Int), .int .u8 (q.c : Int)]) rfl (by kernel_rfl) (.inl ⟨rfl, fun _ _ => by simp [go_sem]⟩) S0 ?_
      (try simp only [Act.put, List.getElem_toArray, List.getElem_cons_succ, List.getElem_cons_zero, List.setIfInBounds_toArray, List.set_cons_succ, List.set_cons_zero])
      refine HeadAt.take (i := 7) (.int .i64 0) rfl (by kernel_rfl) (.inl ⟨rfl, fun _ _ => by simp [go_sem]⟩) S0 ?_
      (try simp only [Act.put, List.getElem_toArray, List.getElem_cons_succ, List.getElem_cons_zero, List.setIfInBounds_toArray, List.set_cons_succ, List.set_cons_zero])
      refine HeadAt.one (i := 9) rfl (by kernel_rfl) ?_
      generalize hK : Upto _ _ = K0
      (try simp only [Act.put, List.getElem_toArray, List.getElem_cons_succ, List.getElem_cons_zero, List.setIfInBounds_toArray, List.set_cons_succ, List.set_cons_zero])
      have d0 := xg.cell 0 rfl; have d1 := xg.cell 1 rfl; have d2 := xg.cell 2 rfl; have d3 := xg.cell 3 rfl; have d4 := xg.cell 4 rfl; have d5 := xg.cell 5 rfl; have d6 := xg.cell 6 rfl; have d7 := xg.cell 7 rfl; have d8 := xg.cell 8 rfl; have d9 := xg.cell 9 rfl; have d10 := xg.cell 10 rfl
      have f0 := xg.free 0; have f1 := xg.free 1; have f2 := xg.free 2; have f3 := xg.free 3; have f4 := xg.free 4; have f5 := xg.free 5; have f6 := xg.free 6; have f7 := xg.free 7; have f8 := xg.free 8; have f9 := xg.free 9; have f10 := xg.free 10
      have xg' := xg.set11 (.slice ab X.bs.length cb) (.slice ast X.st.length cs) (.slice ae X.er.length ce) (.slice ak X.ks.length ck) (.int .i64 X.ch) (.int .u8 (p.a : Int)) (.int .u8 (p.b : Int)) (.int .u8 (p.c : Int)) (.int .u8 (q.a : Int)) (.int .u8 (q.b : Int)) (.int .u8 (q.c : Int))
      have hb' := below_put11 hbw (b := g) (by omega) (.slice ab X.bs.length cb) (.slice ast X.st.length cs) (.slice ae X.er.length ce) (.slice ak X.ks.length ck) (.int .i64 X.ch) (.int .u8 (p.a : Int)) (.int .u8 (p.b : Int)) (.int .u8 (p.c : Int)) (.int .u8 (q.a : Int)) (.int .u8 (q.b : Int)) (.int .u8 (q.c : Int))
      have S1 := S0.other11 (b := g) (by omega) (.slice ab X.bs.length cb) (.slice ast X.st.length cs) (.slice ae X.er.length ce) (.slice ak X.ks.length ck) (.int .i64 X.ch) (.int .u8 (p.a : Int)) (.int .u8 (p.b : Int)) (.int .u8 (p.c : Int)) (.int .u8 (q.a : Int)) (.int .u8 (q.b : Int)) (.int .u8 (q.c : Int))
      have HY := hid (And.intro hgs (And.intro xg' (And.intro S1 hb')))
      clear xg' hb' S1
      go_wp2_with fail
      subst hK
      obtain ⟨_, xg', S1, hb'⟩ := HY.out
      refine ⟨S1, ?_⟩
      generalize World.setCell _ _ _ = YY at *
      refine HeadAt.done (by kernel_rfl) ?_
      (try simp only [Act.put, List.drop_succ_cons, List.drop_zero, List.getElem_toArray, List.getElem_cons_succ, List.getElem_cons_zero])
      go_wp2_with fail
      refine NoPanic.normal ?_
      go_wp2_with fail
      go_meet
      exact ⟨g, rfl, rfl, hgs, xg', S1, hb'⟩
  case rest =>
    clear hbw x0
    obtain ⟨g, rfl, rfl, hg, xg, x0, hb⟩ := hcut
    rename_i wc
    have d0 := xg.ext 0 rfl; have d1 := xg.ext 1 rfl; have d2 := xg.ext 2 rfl; have d3 := xg.ext 3 rfl; have d4 := xg.ext 4 rfl; have d5 := xg.ext 5 rfl; have d6 := xg.ext 6 rfl; have d7 := xg.ext 7 rfl; have d8 := xg.ext 8 rfl; have d9 := xg.ext 9 rfl; have d10 := xg.ext 10 rfl; 
    have hfe1 := fun (t : Ext wc) => hfe t.w (hb.trans (t.below.mono hb.size))
    have hpo1 := fun (t : Ext wc) => hpo t.w (hb.trans (t.below.mono hb.size))
    clear xg x0 hvo hgX hgP hip hfe hpo
    go_wp2_with fail
    refine wp_region_ext_lit (by kernel_rfl) (by kernel_rfl) ?_
    repeat (quiet_step (first | (go_at_call 56; exact quiet_ext (hpo1 _)) | (go_at_call 55; exact quiet_ext (hfe1 _))))
    refine wpQuiet_nil ?_
    intro _ hw'
    obtain ⟨t, rfl⟩ := hw'
    go_wp2
    go_ret2
    exact ⟨rfl, hb.trans (t.below.mono hb.size)⟩
end Go.Proofs.Ytipdohpbilabiaa
