import Derived.Test.YtipdohpbilabiaaV7
/-! Fewest. -/
namespace Go.Proofs.Ytipdohpbilabiaa
set_option linter.unusedSimpArgs false
set_option linter.unusedVariables false
open Go Go.RowKit

set_option maxRecDepth 100000 in
set_option maxHeartbeats 6000000 in
theorem Fewest_bad (ab ast ae ak : Option Addr) (cb cs ce ck : Nat) (X : Sw) (goal : Int) (w : World) (hX : Swp w ab ast ae ak X) (r : Int) (hr : r = if vB X then 1 else 70) (hb : vB X = true → inI 0 goal 99999 = false) : Calls Try.prog 38 #[.agg #[.slice ab X.bs.length cb, .slice ast X.st.length cs, .slice ae X.er.length ce, .slice ak X.ks.length ck, .int .i64 X.ch], .int .i64 goal] w fun e w' => e = .returned (.tuple #[.int .i64 0, .int .i64 r]) ∧ Below w.heap.size w w' := by
  obtain ⟨W, hW, hbw, _, x0⟩ := boxes1 w #[.slice ab X.bs.length cb, .slice ast X.st.length cs, .slice ae X.er.length ce, .slice ak X.ks.length ck, .int .i64 X.ch] 26
  have hgX := fun V (h : Below w.heap.size w V) => hX.below h (Nat.le_refl _)
  have hvo := fun V h => visitOf_bad ab ast ae ak cb cs ce ck X (inI 0 goal 99999) V h r hr hb
  have hrB : (r != 0) = true := by rw [hr]; split <;> rfl
  have hif := fun v => isFrom_any 0 goal 99999 v
  generalize inI 0 goal 99999 = bb at *
  clear hX hr hb
  have c0 := x0.cell 0 rfl; have c1 := x0.cell 1 rfl; have c2 := x0.cell 2 rfl; have c3 := x0.cell 3 rfl; have c4 := x0.cell 4 rfl
  go_enter Try.func38, Try.ntmps38
  go_wp2_with fail
  clear hW c0 c1 c2 c3 c4
  go_cut [6, 7] (fun s6 s7 wx => ∃ g : Nat, s6 = .pointer (some ⟨g, 0, none⟩) ∧ s7 = .int .i64 r ∧ w.heap.size < g ∧ Bx wx g #[.slice none 0 0, .slice none 0 0, .slice none 0 0, .slice none 0 0, .int .i64 0, .int .u8 0, .int .u8 0, .int .u8 0, .int .u8 0, .int .u8 0, .int .u8 0] 72 ∧ Bx wx w.heap.size #[.slice ab X.bs.length cb, .slice ast X.st.length cs, .slice ae X.er.length ce, .slice ak X.ks.length ck, .int .i64 X.ch] 26 ∧ Below w.heap.size w wx)
  case first =>
    have hbd := (Below.refl W.heap.size W).drew
    have S0 := x0.below hbd
    replace hbw := hbw.trans (hbd.mono hbw.size)
    clear hbd x0
    refine wp_region_head 9 (fun w' => Bx w' w.heap.size #[.slice ab X.bs.length cb, .slice ast X.st.length cs, .slice ae X.er.length ce, .slice ak X.ks.length ck, .int .i64 X.ch] 26) (by kernel_rfl) rfl ?_
    generalize W.drew = Y0 at *
    refine HeadAt.take (i := 0) (.agg #[.slice ab X.bs.length cb, .slice ast X.st.length cs, .slice ae X.er.length ce, .slice ak X.ks.length ck, .int .i64 X.ch]) rfl (by kernel_rfl) (.inl ⟨rfl, fun w' z => ?_⟩) S0 ?_
    · (have z0 := z.cell 0 rfl; have z1 := z.cell 1 rfl; have z2 := z.cell 2 rfl; have z3 := z.cell 3 rfl; have z4 := z.cell 4 rfl; simp [go_sem, z0, z1, z2, z3, z4])
    refine HeadAt.take (i := 1) (.int .i64 goal) rfl (by kernel_rfl) (.inl ⟨rfl, fun _ _ => by simp [go_sem]⟩) S0 ?_
    (try simp only [Act.put, List.getElem_toArray, List.getElem_cons_succ, List.getElem_cons_zero, List.setIfInBounds_toArray, List.set_cons_succ, List.set_cons_zero])
    refine HeadAt.two (i := 2) (j := 7) rfl rfl (by kernel_rfl) ?_ ?_
    · skip
      generalize hK : Upto _ _ = K0
      (try simp only [Act.put, List.getElem_toArray, List.getElem_cons_succ, List.getElem_cons_zero, List.setIfInBounds_toArray, List.set_cons_succ, List.set_cons_zero])
      go_wp2_with fail
      refine (hif _).mono ?_
      rintro e V1 ⟨rfl, rfl⟩
      go_wp2_with fail
      subst hK
      refine ⟨S0, ?_⟩
      (try simp only [Act.put, List.getElem_toArray, List.getElem_cons_succ, List.getElem_cons_zero, List.setIfInBounds_toArray, List.set_cons_succ, List.set_cons_zero])
      refine HeadAt.two (i := 3) (j := 7) rfl rfl (by kernel_rfl) ?_ ?_
      · skip
        generalize hK : Upto _ _ = K0
        (try simp only [Act.put, List.getElem_toArray, List.getElem_cons_succ, List.getElem_cons_zero, List.setIfInBounds_toArray, List.set_cons_succ, List.set_cons_zero])
        go_wp2_with fail
        refine (hvo _ (hgX _ hbw)).mono ?_
        rintro e V1 ⟨rfl, hb1⟩
        replace S0 := S0.below hb1
        skip
        replace hbw := hbw.trans (hb1.mono hbw.size)
        clear hb1
        go_wp2_with fail
        subst hK
        refine ⟨S0, ?_⟩
        (try simp only [Act.put, List.getElem_toArray, List.getElem_cons_succ, List.getElem_cons_zero, List.setIfInBounds_toArray, List.set_cons_succ, List.set_cons_zero])
        obtain ⟨Y0, rfl⟩ : ∃ Y : World, Y = V1 := ⟨_, rfl⟩
        refine HeadAt.take (i := 4) (.tuple #[.agg #[.slice none 0 0, .slice none 0 0, .slice none 0 0, .slice none 0 0, .int .i64 0, .int .u8 0, .int .u8 0, .int .u8 0, .int .u8 0, .int .u8 0, .int .u8 0], .int .i64 r]) rfl (by kernel_rfl) (.inl ⟨rfl, fun _ _ => by simp [go_sem]⟩) S0 ?_
        (try simp only [Act.put, List.getElem_toArray, List.getElem_cons_succ, List.getElem_cons_zero, List.setIfInBounds_toArray, List.set_cons_succ, List.set_cons_zero])
        refine HeadAt.take (i := 5) (.agg #[.slice none 0 0, .slice none 0 0, .slice none 0 0, .slice none 0 0, .int .i64 0, .int .u8 0, .int .u8 0, .int .u8 0, .int .u8 0, .int .u8 0, .int .u8 0]) rfl (by kernel_rfl) (.inl ⟨rfl, fun _ _ => by simp [go_sem]⟩) S0 ?_
        (try simp only [Act.put, List.getElem_toArray, List.getElem_cons_succ, List.getElem_cons_zero, List.setIfInBounds_toArray, List.set_cons_succ, List.set_cons_zero])
        refine HeadAt.take (i := 6) (.int .i64 r) rfl (by kernel_rfl) (.inl ⟨rfl, fun _ _ => by simp [go_sem]⟩) S0 ?_
        (try simp only [Act.put, List.getElem_toArray, List.getElem_cons_succ, List.getElem_cons_zero, List.setIfInBounds_toArray, List.set_cons_succ, List.set_cons_zero])
        refine HeadAt.one (i := 7) rfl (by kernel_rfl) ?_
        generalize hK : Upto _ _ = K0
        (try simp only [Act.put, List.getElem_toArray, List.getElem_cons_succ, List.getElem_cons_zero, List.setIfInBounds_toArray, List.set_cons_succ, List.set_cons_zero])
        have hb1 := below_one (w := Y0) (.cells #[.slice none 0 0, .slice none 0 0, .slice none 0 0, .slice none 0 0, .int .i64 0, .int .u8 0, .int .u8 0, .int .u8 0, .int .u8 0, .int .u8 0, .int .u8 0] 72)
        have HX := hid (And.intro (S0.below hb1) (And.intro (hbw.trans (hb1.mono hbw.size)) (Bx.new Y0 #[.slice none 0 0, .slice none 0 0, .slice none 0 0, .slice none 0 0, .int .i64 0, .int .u8 0, .int .u8 0, .int .u8 0, .int .u8 0, .int .u8 0, .int .u8 0] 72)))
        clear hb1
        go_wp2_with fail
        subst hK
        obtain ⟨S1, hbw', xg⟩ := HX.out
        refine ⟨S1, ?_⟩
        (try simp only [Act.put, List.getElem_toArray, List.getElem_cons_succ, List.getElem_cons_zero, List.setIfInBounds_toArray, List.set_cons_succ, List.set_cons_zero])
        obtain ⟨g, hg⟩ : ∃ g, g = Y0.heap.size := ⟨_, rfl⟩
        have hgs : w.heap.size < g := by have := S0.lt; omega
        rw [← hg] at xg ⊢
        clear hg HX S0 hbw
        have S0 := S1
        have hbw := hbw'
        clear S1 hbw'
        generalize Y0.alloc _ = Y1 at *
        obtain ⟨Y0, rfl⟩ : ∃ Y : World, Y = Y1 := ⟨_, rfl⟩
        refine HeadAt.one (i := 8) rfl (by kernel_rfl) ?_
        generalize hK : Upto _ _ = K0
        (try simp only [Act.put, List.getElem_toArray, List.getElem_cons_succ, List.getElem_cons_zero, List.setIfInBounds_toArray, List.set_cons_succ, List.set_cons_zero])
        have d0 := xg.cell 0 rfl; have d1 := xg.cell 1 rfl; have d2 := xg.cell 2 rfl; have d3 := xg.cell 3 rfl; have d4 := xg.cell 4 rfl; have d5 := xg.cell 5 rfl; have d6 := xg.cell 6 rfl; have d7 := xg.cell 7 rfl; have d8 := xg.cell 8 rfl; have d9 := xg.cell 9 rfl; have d10 := xg.cell 10 rfl
        have f0 := xg.free 0; have f1 := xg.free 1; have f2 := xg.free 2; have f3 := xg.free 3; have f4 := xg.free 4; have f5 := xg.free 5; have f6 := xg.free 6; have f7 := xg.free 7; have f8 := xg.free 8; have f9 := xg.free 9; have f10 := xg.free 10
        have xg' := xg.set11 (.slice none 0 0) (.slice none 0 0) (.slice none 0 0) (.slice none 0 0) (.int .i64 0) (.int .u8 0) (.int .u8 0) (.int .u8 0) (.int .u8 0) (.int .u8 0) (.int .u8 0)
        have hb' := below_put11 hbw (b := g) (by omega) (.slice none 0 0) (.slice none 0 0) (.slice none 0 0) (.slice none 0 0) (.int .i64 0) (.int .u8 0) (.int .u8 0) (.int .u8 0) (.int .u8 0) (.int .u8 0) (.int .u8 0)
        have S1 := S0.other11 (b := g) (by omega) (.slice none 0 0) (.slice none 0 0) (.slice none 0 0) (.slice none 0 0) (.int .i64 0) (.int .u8 0) (.int .u8 0) (.int .u8 0) (.int .u8 0) (.int .u8 0) (.int .u8 0)
        have HY := hid (And.intro hgs (And.intro xg' (And.intro S1 hb')))
        clear xg' hb' S1
        go_wp2_with fail
        subst hK
        obtain ⟨_, xg', S1, hb'⟩ := HY.out
        refine ⟨S1, ?_⟩
        generalize World.setCell _ _ _ = YY at *
        refine HeadAt.done (by kernel_rfl) ?_
        (try simp only [Act.put, List.drop_succ_cons, List.drop_zero, List.getElem_toArray, List.getElem_cons_succ, List.getElem_cons_zero])
        go_wp2_with fail
        refine NoPanic.normal ?_
        go_wp2_with fail
        go_meet
        exact ⟨g, rfl, rfl, hgs, xg', S1, hb'⟩
      · skip
        generalize hK : Upto _ _ = K0
        (try simp only [Act.put, List.getElem_toArray, List.getElem_cons_succ, List.getElem_cons_zero, List.setIfInBounds_toArray, List.set_cons_succ, List.set_cons_zero])
        have hb1 := below_one (w := Y0) (.cells #[.slice none 0 0, .slice none 0 0, .slice none 0 0, .slice none 0 0, .int .i64 0, .int .u8 0, .int .u8 0, .int .u8 0, .int .u8 0, .int .u8 0, .int .u8 0] 72)
        have HX := hid (And.intro (S0.below hb1) (And.intro (hbw.trans (hb1.mono hbw.size)) (Bx.new Y0 #[.slice none 0 0, .slice none 0 0, .slice none 0 0, .slice none 0 0, .int .i64 0, .int .u8 0, .int .u8 0, .int .u8 0, .int .u8 0, .int .u8 0, .int .u8 0] 72)))
        clear hb1
        go_wp2_with fail
        subst hK
        obtain ⟨S1, hbw', xg⟩ := HX.out
        refine ⟨S1, ?_⟩
        (try simp only [Act.put, List.getElem_toArray, List.getElem_cons_succ, List.getElem_cons_zero, List.setIfInBounds_toArray, List.set_cons_succ, List.set_cons_zero])
        obtain ⟨g, hg⟩ : ∃ g, g = Y0.heap.size := ⟨_, rfl⟩
        have hgs : w.heap.size < g := by have := S0.lt; omega
        rw [← hg] at xg ⊢
        clear hg HX S0 hbw
        have S0 := S1
        have hbw := hbw'
        clear S1 hbw'
        generalize Y0.alloc _ = Y1 at *
        obtain ⟨Y0, rfl⟩ : ∃ Y : World, Y = Y1 := ⟨_, rfl⟩
        refine HeadAt.one (i := 3) rfl (by kernel_rfl) ?_
        generalize hK : Upto _ _ = K0
        (try simp only [Act.put, List.getElem_toArray, List.getElem_cons_succ, List.getElem_cons_zero, List.setIfInBounds_toArray, List.set_cons_succ, List.set_cons_zero])
        go_wp2_with fail
        refine (hvo _ (hgX _ hbw)).mono ?_
        rintro e V1 ⟨rfl, hb1⟩
        replace S0 := S0.below hb1
        replace xg := xg.below hb1
        replace hbw := hbw.trans (hb1.mono hbw.size)
        clear hb1
        go_wp2_with fail
        subst hK
        refine ⟨S0, ?_⟩
        (try simp only [Act.put, List.getElem_toArray, List.getElem_cons_succ, List.getElem_cons_zero, List.setIfInBounds_toArray, List.set_cons_succ, List.set_cons_zero])
        obtain ⟨Y0, rfl⟩ : ∃ Y : World, Y = V1 := ⟨_, rfl⟩
        refine HeadAt.take (i := 4) (.tuple #[.agg #[.slice none 0 0, .slice none 0 0, .slice none 0 0, .slice none 0 0, .int .i64 0, .int .u8 0, .int .u8 0, .int .u8 0, .int .u8 0, .int .u8 0, .int .u8 0], .int .i64 r]) rfl (by kernel_rfl) (.inl ⟨rfl, fun _ _ => by simp [go_sem]⟩) S0 ?_
        (try simp only [Act.put, List.getElem_toArray, List.getElem_cons_succ, List.getElem_cons_zero, List.setIfInBounds_toArray, List.set_cons_succ, List.set_cons_zero])
        refine HeadAt.take (i := 5) (.agg #[.slice none 0 0, .slice none 0 0, .slice none 0 0, .slice none 0 0, .int .i64 0, .int .u8 0, .int .u8 0, .int .u8 0, .int .u8 0, .int .u8 0, .int .u8 0]) rfl (by kernel_rfl) (.inl ⟨rfl, fun _ _ => by simp [go_sem]⟩) S0 ?_
        (try simp only [Act.put, List.getElem_toArray, List.getElem_cons_succ, List.getElem_cons_zero, List.setIfInBounds_toArray, List.set_cons_succ, List.set_cons_zero])
        refine HeadAt.take (i := 6) (.int .i64 r) rfl (by kernel_rfl) (.inl ⟨rfl, fun _ _ => by simp [go_sem]⟩) S0 ?_
        (try simp only [Act.put, List.getElem_toArray, List.getElem_cons_succ, List.getElem_cons_zero, List.setIfInBounds_toArray, List.set_cons_succ, List.set_cons_zero])
        refine HeadAt.one (i := 8) rfl (by kernel_rfl) ?_
        generalize hK : Upto _ _ = K0
        (try simp only [Act.put, List.getElem_toArray, List.getElem_cons_succ, List.getElem_cons_zero, List.setIfInBounds_toArray, List.set_cons_succ, List.set_cons_zero])
        have d0 := xg.cell 0 rfl; have d1 := xg.cell 1 rfl; have d2 := xg.cell 2 rfl; have d3 := xg.cell 3 rfl; have d4 := xg.cell 4 rfl; have d5 := xg.cell 5 rfl; have d6 := xg.cell 6 rfl; have d7 := xg.cell 7 rfl; have d8 := xg.cell 8 rfl; have d9 := xg.cell 9 rfl; have d10 := xg.cell 10 rfl
        have f0 := xg.free 0; have f1 := xg.free 1; have f2 := xg.free 2; have f3 := xg.free 3; have f4 := xg.free 4; have f5 := xg.free 5; have f6 := xg.free 6; have f7 := xg.free 7; have f8 := xg.free 8; have f9 := xg.free 9; have f10 := xg.free 10
        have xg' := xg.set11 (.slice none 0 0) (.slice none 0 0) (.slice none 0 0) (.slice none 0 0) (.int .i64 0) (.int .u8 0) (.int .u8 0) (.int .u8 0) (.int .u8 0) (.int .u8 0) (.int .u8 0)
        have hb' := below_put11 hbw (b := g) (by omega) (.slice none 0 0) (.slice none 0 0) (.slice none 0 0) (.slice none 0 0) (.int .i64 0) (.int .u8 0) (.int .u8 0) (.int .u8 0) (.int .u8 0) (.int .u8 0) (.int .u8 0)
        have S1 := S0.other11 (b := g) (by omega) (.slice none 0 0) (.slice none 0 0) (.slice none 0 0) (.slice none 0 0) (.int .i64 0) (.int .u8 0) (.int .u8 0) (.int .u8 0) (.int .u8 0) (.int .u8 0) (.int .u8 0)
        have HY := hid (And.intro hgs (And.intro xg' (And.intro S1 hb')))
        clear xg' hb' S1
        go_wp2_with fail
        subst hK
        obtain ⟨_, xg', S1, hb'⟩ := HY.out
        refine ⟨S1, ?_⟩
        generalize World.setCell _ _ _ = YY at *
        refine HeadAt.done (by kernel_rfl) ?_
        (try simp only [Act.put, List.drop_succ_cons, List.drop_zero, List.getElem_toArray, List.getElem_cons_succ, List.getElem_cons_zero])
        go_wp2_with fail
        refine NoPanic.normal ?_
        go_wp2_with fail
        go_meet
        exact ⟨g, rfl, rfl, hgs, xg', S1, hb'⟩
    · skip
      generalize hK : Upto _ _ = K0
      (try simp only [Act.put, List.getElem_toArray, List.getElem_cons_succ, List.getElem_cons_zero, List.setIfInBounds_toArray, List.set_cons_succ, List.set_cons_zero])
      have hb1 := below_one (w := Y0) (.cells #[.slice none 0 0, .slice none 0 0, .slice none 0 0, .slice none 0 0, .int .i64 0, .int .u8 0, .int .u8 0, .int .u8 0, .int .u8 0, .int .u8 0, .int .u8 0] 72)
      have HX := hid (And.intro (S0.below hb1) (And.intro (hbw.trans (hb1.mono hbw.size)) (Bx.new Y0 #[.slice none 0 0, .slice none 0 0, .slice none 0 0, .slice none 0 0, .int .i64 0, .int .u8 0, .int .u8 0, .int .u8 0, .int .u8 0, .int .u8 0, .int .u8 0] 72)))
      clear hb1
      go_wp2_with fail
      subst hK
      obtain ⟨S1, hbw', xg⟩ := HX.out
      refine ⟨S1, ?_⟩
      (try simp only [Act.put, List.getElem_toArray, List.getElem_cons_succ, List.getElem_cons_zero, List.setIfInBounds_toArray, List.set_cons_succ, List.set_cons_zero])
      obtain ⟨g, hg⟩ : ∃ g, g = Y0.heap.size := ⟨_, rfl⟩
      have hgs : w.heap.size < g := by have := S0.lt; omega
      rw [← hg] at xg ⊢
      clear hg HX S0 hbw
      have S0 := S1
      have hbw := hbw'
      clear S1 hbw'
      generalize Y0.alloc _ = Y1 at *
      obtain ⟨Y0, rfl⟩ : ∃ Y : World, Y = Y1 := ⟨_, rfl⟩
      refine HeadAt.one (i := 2) rfl (by kernel_rfl) ?_
      generalize hK : Upto _ _ = K0
      (try simp only [Act.put, List.getElem_toArray, List.getElem_cons_succ, List.getElem_cons_zero, List.setIfInBounds_toArray, List.set_cons_succ, List.set_cons_zero])
      go_wp2_with fail
      refine (hif _).mono ?_
      rintro e V1 ⟨rfl, rfl⟩
      go_wp2_with fail
      subst hK
      refine ⟨S0, ?_⟩
      (try simp only [Act.put, List.getElem_toArray, List.getElem_cons_succ, List.getElem_cons_zero, List.setIfInBounds_toArray, List.set_cons_succ, List.set_cons_zero])
      refine HeadAt.one (i := 3) rfl (by kernel_rfl) ?_
      generalize hK : Upto _ _ = K0
      (try simp only [Act.put, List.getElem_toArray, List.getElem_cons_succ, List.getElem_cons_zero, List.setIfInBounds_toArray, List.set_cons_succ, List.set_cons_zero])
      go_wp2_with fail
      refine (hvo _ (hgX _ hbw)).mono ?_
      rintro e V1 ⟨rfl, hb1⟩
      replace S0 := S0.below hb1
      replace xg := xg.below hb1
      replace hbw := hbw.trans (hb1.mono hbw.size)
      clear hb1
      go_wp2_with fail
      subst hK
      refine ⟨S0, ?_⟩
      (try simp only [Act.put, List.getElem_toArray, List.getElem_cons_succ, List.getElem_cons_zero, List.setIfInBounds_toArray, List.set_cons_succ, List.set_cons_zero])
      obtain ⟨Y0, rfl⟩ : ∃ Y : World, Y = V1 := ⟨_, rfl⟩
      refine HeadAt.take (i := 4) (.tuple #[.agg #[.slice none 0 0, .slice none 0 0, .slice none 0 0, .slice none 0 0, .int .i64 0, .int .u8 0, .int .u8 0, .int .u8 0, .int .u8 0, .int .u8 0, .int .u8 0], .int .i64 r]) rfl (by kernel_rfl) (.inl ⟨rfl, fun _ _ => by simp [go_sem]⟩) S0 ?_
      (try simp only [Act.put, List.getElem_toArray, List.getElem_cons_succ, List.getElem_cons_zero, List.setIfInBounds_toArray, List.set_cons_succ, List.set_cons_zero])
      refine HeadAt.take (i := 5) (.agg #[.slice none 0 0, .slice none 0 0, .slice none 0 0, .slice none 0 0, .int .i64 0, .int .u8 0, .int .u8 0, .int .u8 0, .int .u8 0, .int .u8 0, .int .u8 0]) rfl (by kernel_rfl) (.inl ⟨rfl, fun _ _ => by simp [go_sem]⟩) S0 ?_
      (try simp only [Act.put, List.getElem_toArray, List.getElem_cons_succ, List.getElem_cons_zero, List.setIfInBounds_toArray, List.set_cons_succ, List.set_cons_zero])
      refine HeadAt.take (i := 6) (.int .i64 r) rfl (by kernel_rfl) (.inl ⟨rfl, fun _ _ => by simp [go_sem]⟩) S0 ?_
      (try simp only [Act.put, List.getElem_toArray, List.getElem_cons_succ, List.getElem_cons_zero, List.setIfInBounds_toArray, List.set_cons_succ, List.set_cons_zero])
      refine HeadAt.one (i := 8) rfl (by kernel_rfl) ?_
      generalize hK : Upto _ _ = K0
      (try simp only [Act.put, List.getElem_toArray, List.getElem_cons_succ, List.getElem_cons_zero, List.setIfInBounds_toArray, List.set_cons_succ, List.set_cons_zero])
      have d0 := xg.cell 0 rfl; have d1 := xg.cell 1 rfl; have d2 := xg.cell 2 rfl; have d3 := xg.cell 3 rfl; have d4 := xg.cell 4 rfl; have d5 := xg.cell 5 rfl; have d6 := xg.cell 6 rfl; have d7 := xg.cell 7 rfl; have d8 := xg.cell 8 rfl; have d9 := xg.cell 9 rfl; have d10 := xg.cell 10 rfl
      have f0 := xg.free 0; have f1 := xg.free 1; have f2 := xg.free 2; have f3 := xg.free 3; have f4 := xg.free 4; have f5 := xg.free 5; have f6 := xg.free 6; have f7 := xg.free 7; have f8 := xg.free 8; have f9 := xg.free 9; have f10 := xg.free 10
      have xg' := xg.set11 (.slice none 0 0) (.slice none 0 0) (.slice none 0 0) (.slice none 0 0) (.int .i64 0) (.int .u8 0) (.int .u8 0) (.int .u8 0) (.int .u8 0) (.int .u8 0) (.int .u8 0)
      have hb' := below_put11 hbw (b := g) (by omega) (.slice none 0 0) (.slice none 0 0) (.slice none 0 0) (.slice none 0 0) (.int .i64 0) (.int .u8 0) (.int .u8 0) (.int .u8 0) (.int .u8 0) (.int .u8 0) (.int .u8 0)
      have S1 := S0.other11 (b := g) (by omega) (.slice none 0 0) (.slice none 0 0) (.slice none 0 0) (.slice none 0 0) (.int .i64 0) (.int .u8 0) (.int .u8 0) (.int .u8 0) (.int .u8 0) (.int .u8 0) (.int .u8 0)
      have HY := hid (And.intro hgs (And.intro xg' (And.intro S1 hb')))
      clear xg' hb' S1
      go_wp2_with fail
      subst hK
      obtain ⟨_, xg', S1, hb'⟩ := HY.out
      refine ⟨S1, ?_⟩
      generalize World.setCell _ _ _ = YY at *
      refine HeadAt.done (by kernel_rfl) ?_
      (try simp only [Act.put, List.drop_succ_cons, List.drop_zero, List.getElem_toArray, List.getElem_cons_succ, List.getElem_cons_zero])
      go_wp2_with fail
      refine NoPanic.normal ?_
      go_wp2_with fail
      go_meet
      exact ⟨g, rfl, rfl, hgs, xg', S1, hb'⟩
  case rest =>
    clear hbw x0
    obtain ⟨g, rfl, rfl, hg, xg, x0, hb⟩ := hcut
    clear xg x0 hvo hgX hif
    go_wp2
    go_ret2
    exact ⟨rfl, hb⟩

set_option maxRecDepth 100000 in
set_option maxHeartbeats 6000000 in
theorem Fewest_ok (ab ast ae ak : Option Addr) (cb cs ce ck : Nat) (X : Sw) (goal : Int) (w : World) (hX : Swp w ab ast ae ak X) (hv : vB X = true) (hgo : inI 0 goal 99999 = true) (y : Int) (o : Bool) (hy : (y, o) = fewV X.vz goal) : Calls Try.prog 38 #[.agg #[.slice ab X.bs.length cb, .slice ast X.st.length cs, .slice ae X.er.length ce, .slice ak X.ks.length ck, .int .i64 X.ch], .int .i64 goal] w fun e w' => e = .returned (.tuple #[.int .i64 (if o then y else 0), .int .i64 (if o then 0 else 3)]) ∧ Below w.heap.size w w' := by
  obtain ⟨W, hW, hbw, _, x0⟩ := boxes1 w #[.slice ab X.bs.length cb, .slice ast X.st.length cs, .slice ae X.er.length ce, .slice ak X.ks.length ck, .int .i64 X.ch] 26
  have hgX := fun V (h : Below w.heap.size w V) => hX.below h (Nat.le_refl _)
  obtain ⟨p, hp⟩ : ∃ p, p = planM X.bs := ⟨_, rfl⟩
  obtain ⟨q, hq⟩ : ∃ q, q = stayF X.ks := ⟨_, rfl⟩
  have hvo := fun V h => visitOf_ok ab ast ae ak cb cs ce ck X V h hv p q hp hq
  have hfe := fun V (h : Below w.heap.size w V) => fewest_X ab ast ae ak cb cs ce ck X (vB_iff hv) p q hp hq goal V (hX.below h (Nat.le_refl _)) y o hy
  have hif := fun v => isFrom_any 0 goal 99999 v
  rw [hgo] at hif
  clear hX hp hq hv hgo hy
  have c0 := x0.cell 0 rfl; have c1 := x0.cell 1 rfl; have c2 := x0.cell 2 rfl; have c3 := x0.cell 3 rfl; have c4 := x0.cell 4 rfl
  go_enter Try.func38, Try.ntmps38
  go_wp2_with fail
  clear hW c0 c1 c2 c3 c4
  go_cut [6, 7] (fun s6 s7 wx => ∃ g : Nat, s6 = .pointer (some ⟨g, 0, none⟩) ∧ s7 = .int .i64 0 ∧ w.heap.size < g ∧ Bx wx g #[.slice ab X.bs.length cb, .slice ast X.st.length cs, .slice ae X.er.length ce, .slice ak X.ks.length ck, .int .i64 X.ch, .int .u8 (p.a : Int), .int .u8 (p.b : Int), .int .u8 (p.c : Int), .int .u8 (q.a : Int), .int .u8 (q.b : Int), .int .u8 (q.c : Int)] 72 ∧ Bx wx w.heap.size #[.slice ab X.bs.length cb, .slice ast X.st.length cs, .slice ae X.er.length ce, .slice ak X.ks.length ck, .int .i64 X.ch] 26 ∧ Below w.heap.size w wx)
  case first =>
    have hbd := (Below.refl W.heap.size W).drew
    have S0 := x0.below hbd
    replace hbw := hbw.trans (hbd.mono hbw.size)
    clear hbd x0
    refine wp_region_head 9 (fun w' => Bx w' w.heap.size #[.slice ab X.bs.length cb, .slice ast X.st.length cs, .slice ae X.er.length ce, .slice ak X.ks.length ck, .int .i64 X.ch] 26) (by kernel_rfl) rfl ?_
    generalize W.drew = Y0 at *
    refine HeadAt.take (i := 0) (.agg #[.slice ab X.bs.length cb, .slice ast X.st.length cs, .slice ae X.er.length ce, .slice ak X.ks.length ck, .int .i64 X.ch]) rfl (by kernel_rfl) (.inl ⟨rfl, fun w' z => ?_⟩) S0 ?_
    · (have z0 := z.cell 0 rfl; have z1 := z.cell 1 rfl; have z2 := z.cell 2 rfl; have z3 := z.cell 3 rfl; have z4 := z.cell 4 rfl; simp [go_sem, z0, z1, z2, z3, z4])
    refine HeadAt.take (i := 1) (.int .i64 goal) rfl (by kernel_rfl) (.inl ⟨rfl, fun _ _ => by simp [go_sem]⟩) S0 ?_
    (try simp only [Act.put, List.getElem_toArray, List.getElem_cons_succ, List.getElem_cons_zero, List.setIfInBounds_toArray, List.set_cons_succ, List.set_cons_zero])
    refine HeadAt.two (i := 2) (j := 7) rfl rfl (by kernel_rfl) ?_ ?_
    · skip
      generalize hK : Upto _ _ = K0
      (try simp only [Act.put, List.getElem_toArray, List.getElem_cons_succ, List.getElem_cons_zero, List.setIfInBounds_toArray, List.set_cons_succ, List.set_cons_zero])
      go_wp2_with fail
      refine (hif _).mono ?_
      rintro e V1 ⟨rfl, rfl⟩
      go_wp2_with fail
      subst hK
      refine ⟨S0, ?_⟩
      (try simp only [Act.put, List.getElem_toArray, List.getElem_cons_succ, List.getElem_cons_zero, List.setIfInBounds_toArray, List.set_cons_succ, List.set_cons_zero])
      refine HeadAt.two (i := 3) (j := 7) rfl rfl (by kernel_rfl) ?_ ?_
      · skip
        generalize hK : Upto _ _ = K0
        (try simp only [Act.put, List.getElem_toArray, List.getElem_cons_succ, List.getElem_cons_zero, List.setIfInBounds_toArray, List.set_cons_succ, List.set_cons_zero])
        go_wp2_with fail
        refine (hvo _ (hgX _ hbw)).mono ?_
        rintro e V1 ⟨rfl, hb1⟩
        replace S0 := S0.below hb1
        skip
        replace hbw := hbw.trans (hb1.mono hbw.size)
        clear hb1
        go_wp2_with fail
        subst hK
        refine ⟨S0, ?_⟩
        (try simp only [Act.put, List.getElem_toArray, List.getElem_cons_succ, List.getElem_cons_zero, List.setIfInBounds_toArray, List.set_cons_succ, List.set_cons_zero])
        obtain ⟨Y0, rfl⟩ : ∃ Y : World, Y = V1 := ⟨_, rfl⟩
        refine HeadAt.take (i := 4) (.tuple #[.agg #[.slice ab X.bs.length cb, .slice ast X.st.length cs, .slice ae X.er.length ce, .slice ak X.ks.length ck, .int .i64 X.ch, .int .u8 (p.a : Int), .int .u8 (p.b : Int), .int .u8 (p.c : Int), .int .u8 (q.a : Int), .int .u8 (q.b : Int), .int .u8 (q.c : Int)], .int .i64 0]) rfl (by kernel_rfl) (.inl ⟨rfl, fun _ _ => by simp [go_sem]⟩) S0 ?_
        (try simp only [Act.put, List.getElem_toArray, List.getElem_cons_succ, List.getElem_cons_zero, List.setIfInBounds_toArray, List.set_cons_succ, List.set_cons_zero])
        refine HeadAt.take (i := 5) (.agg #[.slice ab X.bs.length cb, .slice ast X.st.length cs, .slice ae X.er.length ce, .slice ak X.ks.length ck, .int .i64 X.ch, .int .u8 (p.a : Int), .int .u8 (p.b : Int), .int .u8 (p.c : Int), .int .u8 (q.a : Int), .int .u8 (q.b : Int), .int .u8 (q.c : Int)]) rfl (by kernel_rfl) (.inl ⟨rfl, fun _ _ => by simp [go_sem]⟩) S0 ?_
        (try simp only [Act.put, List.getElem_toArray, List.getElem_cons_succ, List.getElem_cons_zero, List.setIfInBounds_toArray, List.set_cons_succ, List.set_cons_zero])
        refine HeadAt.take (i := 6) (.int .i64 0) rfl (by kernel_rfl) (.inl ⟨rfl, fun _ _ => by simp [go_sem]⟩) S0 ?_
        (try simp only [Act.put, List.getElem_toArray, List.getElem_cons_succ, List.getElem_cons_zero, List.setIfInBounds_toArray, List.set_cons_succ, List.set_cons_zero])
        refine HeadAt.one (i := 7) rfl (by kernel_rfl) ?_
        generalize hK : Upto _ _ = K0
        (try simp only [Act.put, List.getElem_toArray, List.getElem_cons_succ, List.getElem_cons_zero, List.setIfInBounds_toArray, List.set_cons_succ, List.set_cons_zero])
        have hb1 := below_one (w := Y0) (.cells #[.slice none 0 0, .slice none 0 0, .slice none 0 0, .slice none 0 0, .int .i64 0, .int .u8 0, .int .u8 0, .int .u8 0, .int .u8 0, .int .u8 0, .int .u8 0] 72)
        have HX := hid (And.intro (S0.below hb1) (And.intro (hbw.trans (hb1.mono hbw.size)) (Bx.new Y0 #[.slice none 0 0, .slice none 0 0, .slice none 0 0, .slice none 0 0, .int .i64 0, .int .u8 0, .int .u8 0, .int .u8 0, .int .u8 0, .int .u8 0, .int .u8 0] 72)))
        clear hb1
        go_wp2_with fail
        subst hK
        obtain ⟨S1, hbw', xg⟩ := HX.out
        refine ⟨S1, ?_⟩
        (try simp only [Act.put, List.getElem_toArray, List.getElem_cons_succ, List.getElem_cons_zero, List.setIfInBounds_toArray, List.set_cons_succ, List.set_cons_zero])
        obtain ⟨g, hg⟩ : ∃ g, g = Y0.heap.size := ⟨_, rfl⟩
        have hgs : w.heap.size < g := by have := S0.lt; omega
        rw [← hg] at xg ⊢
        clear hg HX S0 hbw
        have S0 := S1
        have hbw := hbw'
        clear S1 hbw'
        generalize Y0.alloc _ = Y1 at *
        obtain ⟨Y0, rfl⟩ : ∃ Y : World, Y = Y1 := ⟨_, rfl⟩
        refine HeadAt.one (i := 8) rfl (by kernel_rfl) ?_
        generalize hK : Upto _ _ = K0
        (try simp only [Act.put, List.getElem_toArray, List.getElem_cons_succ, List.getElem_cons_zero, List.setIfInBounds_toArray, List.set_cons_succ, List.set_cons_zero])
        have d0 := xg.cell 0 rfl; have d1 := xg.cell 1 rfl; have d2 := xg.cell 2 rfl; have d3 := xg.cell 3 rfl; have d4 := xg.cell 4 rfl; have d5 := xg.cell 5 rfl; have d6 := xg.cell 6 rfl; have d7 := xg.cell 7 rfl; have d8 := xg.cell 8 rfl; have d9 := xg.cell 9 rfl; have d10 := xg.cell 10 rfl
        have f0 := xg.free 0; have f1 := xg.free 1; have f2 := xg.free 2; have f3 := xg.free 3; have f4 := xg.free 4; have f5 := xg.free 5; have f6 := xg.free 6; have f7 := xg.free 7; have f8 := xg.free 8; have f9 := xg.free 9; have f10 := xg.free 10
        have xg' := xg.set11 (.slice ab X.bs.length cb) (.slice ast X.st.length cs) (.slice ae X.er.length ce) (.slice ak X.ks.length ck) (.int .i64 X.ch) (.int .u8 (p.a : Int)) (.int .u8 (p.b : Int)) (.int .u8 (p.c : Int)) (.int .u8 (q.a : Int)) (.int .u8 (q.b : Int)) (.int .u8 (q.c : Int))
        have hb' := below_put11 hbw (b := g) (by omega) (.slice ab X.bs.length cb) (.slice ast X.st.length cs) (.slice ae X.er.length ce) (.slice ak X.ks.length ck) (.int .i64 X.ch) (.int .u8 (p.a : Int)) (.int .u8 (p.b : Int)) (.int .u8 (p.c : Int)) (.int .u8 (q.a : Int)) (.int .u8 (q.b : Int)) (.int .u8 (q.c : Int))
        have S1 := S0.other11 (b := g) (by omega) (.slice ab X.bs.length cb) (.slice ast X.st.length cs) (.slice ae X.er.length ce) (.slice ak X.ks.length ck) (.int .i64 X.ch) (.int .u8 (p.a : Int)) (.int .u8 (p.b : Int)) (.int .u8 (p.c : Int)) (.int .u8 (q.a : Int)) (.int .u8 (q.b : Int)) (.int .u8 (q.c : Int))
        have HY := hid (And.intro hgs (And.intro xg' (And.intro S1 hb')))
        clear xg' hb' S1
        go_wp2_with fail
        subst hK
        obtain ⟨_, xg', S1, hb'⟩ := HY.out
        refine ⟨S1, ?_⟩
        generalize World.setCell _ _ _ = YY at *
        refine HeadAt.done (by kernel_rfl) ?_
        (try simp only [Act.put, List.drop_succ_cons, List.drop_zero, List.getElem_toArray, List.getElem_cons_succ, List.getElem_cons_zero])
        go_wp2_with fail
        refine NoPanic.normal ?_
        go_wp2_with fail
        go_meet
        exact ⟨g, rfl, rfl, hgs, xg', S1, hb'⟩
      · skip
        generalize hK : Upto _ _ = K0
        (try simp only [Act.put, List.getElem_toArray, List.getElem_cons_succ, List.getElem_cons_zero, List.setIfInBounds_toArray, List.set_cons_succ, List.set_cons_zero])
        have hb1 := below_one (w := Y0) (.cells #[.slice none 0 0, .slice none 0 0, .slice none 0 0, .slice none 0 0, .int .i64 0, .int .u8 0, .int .u8 0, .int .u8 0, .int .u8 0, .int .u8 0, .int .u8 0] 72)
        have HX := hid (And.intro (S0.below hb1) (And.intro (hbw.trans (hb1.mono hbw.size)) (Bx.new Y0 #[.slice none 0 0, .slice none 0 0, .slice none 0 0, .slice none 0 0, .int .i64 0, .int .u8 0, .int .u8 0, .int .u8 0, .int .u8 0, .int .u8 0, .int .u8 0] 72)))
        clear hb1
        go_wp2_with fail
        subst hK
        obtain ⟨S1, hbw', xg⟩ := HX.out
        refine ⟨S1, ?_⟩
        (try simp only [Act.put, List.getElem_toArray, List.getElem_cons_succ, List.getElem_cons_zero, List.setIfInBounds_toArray, List.set_cons_succ, List.set_cons_zero])
        obtain ⟨g, hg⟩ : ∃ g, g = Y0.heap.size := ⟨_, rfl⟩
        have hgs : w.heap.size < g := by have := S0.lt; omega
        rw [← hg] at xg ⊢
        clear hg HX S0 hbw
        have S0 := S1
        have hbw := hbw'
        clear S1 hbw'
        generalize Y0.alloc _ = Y1 at *
        obtain ⟨Y0, rfl⟩ : ∃ Y : World, Y = Y1 := ⟨_, rfl⟩
        refine HeadAt.one (i := 3) rfl (by kernel_rfl) ?_
        generalize hK : Upto _ _ = K0
        (try simp only [Act.put, List.getElem_toArray, List.getElem_cons_succ, List.getElem_cons_zero, List.setIfInBounds_toArray, List.set_cons_succ, List.set_cons_zero])
        go_wp2_with fail
        refine (hvo _ (hgX _ hbw)).mono ?_
        rintro e V1 ⟨rfl, hb1⟩
        replace S0 := S0.below hb1
        replace xg := xg.below hb1
        replace hbw := hbw.trans (hb1.mono hbw.size)
        clear hb1
        go_wp2_with fail
        subst hK
        refine ⟨S0, ?_⟩
        (try simp only [Act.put, List.getElem_toArray, List.getElem_cons_succ, List.getElem_cons_zero, List.setIfInBounds_toArray, List.set_cons_succ, List.set_cons_zero])
        obtain ⟨Y0, rfl⟩ : ∃ Y : World, Y = V1 := ⟨_, rfl⟩
        refine HeadAt.take (i := 4) (.tuple #[.agg #[.slice ab X.bs.length cb, .slice ast X.st.length cs, .slice ae X.er.length ce, .slice ak X.ks.length ck, .int .i64 X.ch, .int .u8 (p.a : Int), .int .u8 (p.b : Int), .int .u8 (p.c : Int), .int .u8 (q.a : Int), .int .u8 (q.b : Int), .int .u8 (q.c : Int)], .int .i64 0]) rfl (by kernel_rfl) (.inl ⟨rfl, fun _ _ => by simp [go_sem]⟩) S0 ?_
        (try simp only [Act.put, List.getElem_toArray, List.getElem_cons_succ, List.getElem_cons_zero, List.setIfInBounds_toArray, List.set_cons_succ, List.set_cons_zero])
        refine HeadAt.take (i := 5) (.agg #[.slice ab X.bs.length cb, .slice ast X.st.length cs, .slice ae X.er.length ce, .slice ak X.ks.length ck, .int .i64 X.ch, .int .u8 (p.a : Int), .int .u8 (p.b : Int), .int .u8 (p.c : Int), .int .u8 (q.a : Int), .int .u8 (q.b : Int), .int .u8 (q.c : Int)]) rfl (by kernel_rfl) (.inl ⟨rfl, fun _ _ => by simp [go_sem]⟩) S0 ?_
        (try simp only [Act.put, List.getElem_toArray, List.getElem_cons_succ, List.getElem_cons_zero, List.setIfInBounds_toArray, List.set_cons_succ, List.set_cons_zero])
        refine HeadAt.take (i := 6) (.int .i64 0) rfl (by kernel_rfl) (.inl ⟨rfl, fun _ _ => by simp [go_sem]⟩) S0 ?_
        (try simp only [Act.put, List.getElem_toArray, List.getElem_cons_succ, List.getElem_cons_zero, List.setIfInBounds_toArray, List.set_cons_succ, List.set_cons_zero])
        refine HeadAt.one (i := 8) rfl (by kernel_rfl) ?_
        generalize hK : Upto _ _ = K0
        (try simp only [Act.put, List.getElem_toArray, List.getElem_cons_succ, List.getElem_cons_zero, List.setIfInBounds_toArray, List.set_cons_succ, List.set_cons_zero])
        have d0 := xg.cell 0 rfl; have d1 := xg.cell 1 rfl; have d2 := xg.cell 2 rfl; have d3 := xg.cell 3 rfl; have d4 := xg.cell 4 rfl; have d5 := xg.cell 5 rfl; have d6 := xg.cell 6 rfl; have d7 := xg.cell 7 rfl; have d8 := xg.cell 8 rfl; have d9 := xg.cell 9 rfl; have d10 := xg.cell 10 rfl
        have f0 := xg.free 0; have f1 := xg.free 1; have f2 := xg.free 2; have f3 := xg.free 3; have f4 := xg.free 4; have f5 := xg.free 5; have f6 := xg.free 6; have f7 := xg.free 7; have f8 := xg.free 8; have f9 := xg.free 9; have f10 := xg.free 10
        have xg' := xg.set11 (.slice ab X.bs.length cb) (.slice ast X.st.length cs) (.slice ae X.er.length ce) (.slice ak X.ks.length ck) (.int .i64 X.ch) (.int .u8 (p.a : Int)) (.int .u8 (p.b : Int)) (.int .u8 (p.c : Int)) (.int .u8 (q.a : Int)) (.int .u8 (q.b : Int)) (.int .u8 (q.c : Int))
        have hb' := below_put11 hbw (b := g) (by omega) (.slice ab X.bs.length cb) (.slice ast X.st.length cs) (.slice ae X.er.length ce) (.slice ak X.ks.length ck) (.int .i64 X.ch) (.int .u8 (p.a : Int)) (.int .u8 (p.b : Int)) (.int .u8 (p.c : Int)) (.int .u8 (q.a : Int)) (.int .u8 (q.b : Int)) (.int .u8 (q.c : Int))
        have S1 := S0.other11 (b := g) (by omega) (.slice ab X.bs.length cb) (.slice ast X.st.length cs) (.slice ae X.er.length ce) (.slice ak X.ks.length ck) (.int .i64 X.ch) (.int .u8 (p.a : Int)) (.int .u8 (p.b : Int)) (.int .u8 (p.c : Int)) (.int .u8 (q.a : Int)) (.int .u8 (q.b : Int)) (.int .u8 (q.c : Int))
        have HY := hid (And.intro hgs (And.intro xg' (And.intro S1 hb')))
        clear xg' hb' S1
        go_wp2_with fail
        subst hK
        obtain ⟨_, xg', S1, hb'⟩ := HY.out
        refine ⟨S1, ?_⟩
        generalize World.setCell _ _ _ = YY at *
        refine HeadAt.done (by kernel_rfl) ?_
        (try simp only [Act.put, List.drop_succ_cons, List.drop_zero, List.getElem_toArray, List.getElem_cons_succ, List.getElem_cons_zero])
        go_wp2_with fail
        refine NoPanic.normal ?_
        go_wp2_with fail
        go_meet
        exact ⟨g, rfl, rfl, hgs, xg', S1, hb'⟩
    · skip
      generalize hK : Upto _ _ = K0
      (try simp only [Act.put, List.getElem_toArray, List.getElem_cons_succ, List.getElem_cons_zero, List.setIfInBounds_toArray, List.set_cons_succ, List.set_cons_zero])
      have hb1 := below_one (w := Y0) (.cells #[.slice none 0 0, .slice none 0 0, .slice none 0 0, .slice none 0 0, .int .i64 0, .int .u8 0, .int .u8 0, .int .u8 0, .int .u8 0, .int .u8 0, .int .u8 0] 72)
      have HX := hid (And.intro (S0.below hb1) (And.intro (hbw.trans (hb1.mono hbw.size)) (Bx.new Y0 #[.slice none 0 0, .slice none 0 0, .slice none 0 0, .slice none 0 0, .int .i64 0, .int .u8 0, .int .u8 0, .int .u8 0, .int .u8 0, .int .u8 0, .int .u8 0] 72)))
      clear hb1
      go_wp2_with fail
      subst hK
      obtain ⟨S1, hbw', xg⟩ := HX.out
      refine ⟨S1, ?_⟩
      (try simp only [Act.put, List.getElem_toArray, List.getElem_cons_succ, List.getElem_cons_zero, List.setIfInBounds_toArray, List.set_cons_succ, List.set_cons_zero])
      obtain ⟨g, hg⟩ : ∃ g, g = Y0.heap.size := ⟨_, rfl⟩
      have hgs : w.heap.size < g := by have := S0.lt; omega
      rw [← hg] at xg ⊢
      clear hg HX S0 hbw
      have S0 := S1
      have hbw := hbw'
      clear S1 hbw'
      generalize Y0.alloc _ = Y1 at *
      obtain ⟨Y0, rfl⟩ : ∃ Y : World, Y = Y1 := ⟨_, rfl⟩
      refine HeadAt.one (i := 2) rfl (by kernel_rfl) ?_
      generalize hK : Upto _ _ = K0
      (try simp only [Act.put, List.getElem_toArray, List.getElem_cons_succ, List.getElem_cons_zero, List.setIfInBounds_toArray, List.set_cons_succ, List.set_cons_zero])
      go_wp2_with fail
      refine (hif _).mono ?_
      rintro e V1 ⟨rfl, rfl⟩
      go_wp2_with fail
      subst hK
      refine ⟨S0, ?_⟩
      (try simp only [Act.put, List.getElem_toArray, List.getElem_cons_succ, List.getElem_cons_zero, List.setIfInBounds_toArray, List.set_cons_succ, List.set_cons_zero])
      refine HeadAt.one (i := 3) rfl (by kernel_rfl) ?_
      generalize hK : Upto _ _ = K0
      (try simp only [Act.put, List.getElem_toArray, List.getElem_cons_succ, List.getElem_cons_zero, List.setIfInBounds_toArray, List.set_cons_succ, List.set_cons_zero])
      go_wp2_with fail
      refine (hvo _ (hgX _ hbw)).mono ?_
      rintro e V1 ⟨rfl, hb1⟩
      replace S0 := S0.below hb1
      replace xg := xg.below hb1
      replace hbw := hbw.trans (hb1.mono hbw.size)
      clear hb1
      go_wp2_with fail
      subst hK
      refine ⟨S0, ?_⟩
      (try simp only [Act.put, List.getElem_toArray, List.getElem_cons_succ, List.getElem_cons_zero, List.setIfInBounds_toArray, List.set_cons_succ, List.set_cons_zero])
      obtain ⟨Y0, rfl⟩ : ∃ Y : World, Y = V1 := ⟨_, rfl⟩
      refine HeadAt.take (i := 4) (.tuple #[.agg #[.slice ab X.bs.length cb, .slice ast X.st.length cs, .slice ae X.er.length ce, .slice ak X.ks.length ck, .int .i64 X.ch, .int .u8 (p.a : Int), .int .u8 (p.b : Int), .int .u8 (p.c : Int), .int .u8 (q.a : Int), .int .u8 (q.b : Int), .int .u8 (q.c : Int)], .int .i64 0]) rfl (by kernel_rfl) (.inl ⟨rfl, fun _ _ => by simp [go_sem]⟩) S0 ?_
      (try simp only [Act.put, List.getElem_toArray, List.getElem_cons_succ, List.getElem_cons_zero, List.setIfInBounds_toArray, List.set_cons_succ, List.set_cons_zero])
      refine HeadAt.take (i := 5) (.agg #[.slice ab X.bs.length cb, .slice ast X.st.length cs, .slice ae X.er.length ce, .slice ak X.ks.length ck, .int .i64 X.ch, .int .u8 (p.a : Int), .int .u8 (p.b : Int), .int .u8 (p.c : Int), .int .u8 (q.a : Int), .int .u8 (q.b : Int), .int .u8 (q.c : Int)]) rfl (by kernel_rfl) (.inl ⟨rfl, fun _ _ => by simp [go_sem]⟩) S0 ?_
      (try simp only [Act.put, List.getElem_toArray, List.getElem_cons_succ, List.getElem_cons_zero, List.setIfInBounds_toArray, List.set_cons_succ, List.set_cons_zero])
      refine HeadAt.take (i := 6) (.int .i64 0) rfl (by kernel_rfl) (.inl ⟨rfl, fun _ _ => by simp [go_sem]⟩) S0 ?_
      (try simp only [Act.put, List.getElem_toArray, List.getElem_cons_succ, List.getElem_cons_zero, List.setIfInBounds_toArray, List.set_cons_succ, List.set_cons_zero])
      refine HeadAt.one (i := 8) rfl (by kernel_rfl) ?_
      generalize hK : Upto _ _ = K0
      (try simp only [Act.put, List.getElem_toArray, List.getElem_cons_succ, List.getElem_cons_zero, List.setIfInBounds_toArray, List.set_cons_succ, List.set_cons_zero])
      have d0 := xg.cell 0 rfl; have d1 := xg.cell 1 rfl; have d2 := xg.cell 2 rfl; have d3 := xg.cell 3 rfl; have d4 := xg.cell 4 rfl; have d5 := xg.cell 5 rfl; have d6 := xg.cell 6 rfl; have d7 := xg.cell 7 rfl; have d8 := xg.cell 8 rfl; have d9 := xg.cell 9 rfl; have d10 := xg.cell 10 rfl
      have f0 := xg.free 0; have f1 := xg.free 1; have f2 := xg.free 2; have f3 := xg.free 3; have f4 := xg.free 4; have f5 := xg.free 5; have f6 := xg.free 6; have f7 := xg.free 7; have f8 := xg.free 8; have f9 := xg.free 9; have f10 := xg.free 10
      have xg' := xg.set11 (.slice ab X.bs.length cb) (.slice ast X.st.length cs) (.slice ae X.er.length ce) (.slice ak X.ks.length ck) (.int .i64 X.ch) (.int .u8 (p.a : Int)) (.int .u8 (p.b : Int)) (.int .u8 (p.c : Int)) (.int .u8 (q.a : Int)) (.int .u8 (q.b : Int)) (.int .u8 (q.c : Int))
      have hb' := below_put11 hbw (b := g) (by omega) (.slice ab X.bs.length cb) (.slice ast X.st.length cs) (.slice ae X.er.length ce) (.slice ak X.ks.length ck) (.int .i64 X.ch) (.int .u8 (p.a : Int)) (.int .u8 (p.b : Int)) (.int .u8 (p.c : Int)) (.int .u8 (q.a : Int)) (.int .u8 (q.b : Int)) (.int .u8 (q.c : Int))
      have S1 := S0.other11 (b := g) (by omega) (.slice ab X.bs.length cb) (.slice ast X.st.length cs) (.slice ae X.er.length ce) (.slice ak X.ks.length ck) (.int .i64 X.ch) (.int .u8 (p.a : Int)) (.int .u8 (p.b : Int)) (.int .u8 (p.c : Int)) (.int .u8 (q.a : Int)) (.int .u8 (q.b : Int)) (.int .u8 (q.c : Int))
      have HY := hid (And.intro hgs (And.intro xg' (And.intro S1 hb')))
      clear xg' hb' S1
      go_wp2_with fail
      subst hK
      obtain ⟨_, xg', S1, hb'⟩ := HY.out
      refine ⟨S1, ?_⟩
      generalize World.setCell _ _ _ = YY at *
      refine HeadAt.done (by kernel_rfl) ?_
      (try simp only [Act.put, List.drop_succ_cons, List.drop_zero, List.getElem_toArray, List.getElem_cons_succ, List.getElem_cons_zero])
      go_wp2_with fail
      refine NoPanic.normal ?_
      go_wp2_with fail
      go_meet
      exact ⟨g, rfl, rfl, hgs, xg', S1, hb'⟩
  case rest =>
    clear hbw x0
    obtain ⟨g, rfl, rfl, hg, xg, x0, hb⟩ := hcut
    have d0 := xg.cell 0 rfl; have d1 := xg.cell 1 rfl; have d2 := xg.cell 2 rfl; have d3 := xg.cell 3 rfl; have d4 := xg.cell 4 rfl; have d5 := xg.cell 5 rfl; have d6 := xg.cell 6 rfl; have d7 := xg.cell 7 rfl; have d8 := xg.cell 8 rfl; have d9 := xg.cell 9 rfl; have d10 := xg.cell 10 rfl
    go_wp2_with fail
    refine (hfe _ hb).mono ?_
    rintro e V1 ⟨rfl, hb1⟩
    replace hb := hb.trans (hb1.mono hb.size)
    clear xg x0 hvo hgX hif d0 d1 d2 d3 d4 d5 d6 d7 d8 d9 d10 hfe
    cases o
    · go_wp2
      go_ret2
      exact ⟨rfl, hb⟩
    · go_wp2
      go_ret2
      exact ⟨rfl, hb⟩
end Go.Proofs.Ytipdohpbilabiaa
