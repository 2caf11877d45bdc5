import Derived.Test.YtipdohpbilabiaaVC
/-! Copy. -/
namespace Go.Proofs.Ytipdohpbilabiaa
set_option linter.unusedSimpArgs false
set_option linter.unusedVariables false
open Go Go.RowKit

/-- With one more copy of a title. -/
def Vz.more (V : Vz) (i : Nat) : Vz := { V with st := V.st.set i (V.st.getD i 0 + 1) }
def copyV (V : Vz) (i : Nat) : Int := earn (V.more i) (bestP (V.more i)) - earn V (bestP V)
theorem vzC_ok {X : Sw} (hok : XOk X) {i : Nat} {x : Int} (hx : X.st[i]? = some x) : VOk (X.vz.more i) := by
  have h := vz_ok hok
  have hl : (X.vz.more i).st.length = X.vz.st.length := by simp [Vz.more]
  have hx9 := hok.st9 x (List.mem_of_getElem? hx)
  refine ⟨h.nb3, by rw [hl]; exact h.t6, fun y hy => ?_, by rw [hl]; exact h.er1, h.er2, h.er3, h.ch0, by rw [hl]; exact h.now, by rw [hl]; exact h.stay⟩
  rcases List.mem_or_eq_of_mem_set hy with hy | hy
  · exact h.st0 y hy
  · have e : X.vz.st.getD i 0 = x := by show X.st.getD i 0 = x; simp [List.getD, hx]
    rw [e] at hy
    omega
theorem bestC (ab ast ae ak : Option Addr) (cb cs ce ck : Nat) (X : Sw) (hok : XOk X) (p q : Pl) (hp : p = planM X.bs) (hq : q = stayF X.ks) (i : Nat) (x : Int) (hx : X.st[i]? = some x) (g1 c1 : Nat) (w : World) (hX : Swp w ab ast ae ak X) (hI : Ints w (some ⟨g1, 0, none⟩) (X.st.set i (x + 1))) : Calls Try.prog 60 #[.agg #[.slice ab X.bs.length cb, .slice (some ⟨g1, 0, none⟩) X.st.length c1, .slice ae X.er.length ce, .slice ak X.ks.length ck, .int .i64 X.ch, .int .u8 (p.a : Int), .int .u8 (p.b : Int), .int .u8 (p.c : Int), .int .u8 (q.a : Int), .int .u8 (q.b : Int), .int .u8 (q.c : Int)]] w fun e w' => e = .returned (.int .i64 (earn (X.vz.more i) (bestP (X.vz.more i)))) ∧ Below w.heap.size w w' := by
  subst hp hq
  have hst : (X.vz.more i).st = X.st.set i (x + 1) := by
    show X.st.set i (X.st.getD i 0 + 1) = _
    have e : X.st.getD i 0 = x := by simp [List.getD, hx]
    rw [e]
  have h := best_any ab (some ⟨g1, 0, none⟩) ae ak cb c1 ce X.ks.length ck (X.vz.more i) (vzC_ok hok hx) w ⟨by rw [hst]; exact hI, hX.2.2.1⟩
  rw [show (X.vz.more i).st.length = X.st.length by rw [hst]; simp] at h
  exact h

set_option maxRecDepth 100000 in
set_option maxHeartbeats 6000000 in
theorem Copy_bad (ab ast ae ak : Option Addr) (cb cs ce ck : Nat) (X : Sw) (t : Int) (w : World) (hX : Swp w ab ast ae ak X) (r : Int) (hr : r = if vB X then 1 else 70) (hb : vB X = true → inI 0 t (ntI X) = false) : Calls Try.prog 40 #[.agg #[.slice ab X.bs.length cb, .slice ast X.st.length cs, .slice ae X.er.length ce, .slice ak X.ks.length ck, .int .i64 X.ch], .int .i64 t] w fun e w' => e = .returned (.tuple #[.int .i64 0, .int .i64 r]) ∧ Below w.heap.size w w' := by
  obtain ⟨W, hW, hbw, _, x0⟩ := boxes1 w #[.slice ab X.bs.length cb, .slice ast X.st.length cs, .slice ae X.er.length ce, .slice ak X.ks.length ck, .int .i64 X.ch] 26
  have hgX := fun V (h : Below w.heap.size w V) => hX.below h (Nat.le_refl _)
  have hip := fun V => isTitle_any ab ast ae ak cb cs ce ck X t V (by have := hX.2.1.len; omega)
  have hvo := fun V h => visitOf_bad ab ast ae ak cb cs ce ck X (inI 0 t (ntI X)) V h r hr hb
  have hrB : (r != 0) = true := by rw [hr]; split <;> rfl
  generalize inI 0 t (ntI X) = bb at *
  clear hX hr hb
  have c0 := x0.cell 0 rfl; have c1 := x0.cell 1 rfl; have c2 := x0.cell 2 rfl; have c3 := x0.cell 3 rfl; have c4 := x0.cell 4 rfl
  go_enter Try.func40, Try.ntmps40
  go_wp2_with fail
  clear hW c0 c1 c2 c3 c4
  go_cut [6, 7] (fun s6 s7 wx => ∃ g : Nat, s6 = .pointer (some ⟨g, 0, none⟩) ∧ s7 = .int .i64 r ∧ w.heap.size < g ∧ Bx wx g #[.slice none 0 0, .slice none 0 0, .slice none 0 0, .slice none 0 0, .int .i64 0, .int .u8 0, .int .u8 0, .int .u8 0, .int .u8 0, .int .u8 0, .int .u8 0] 72 ∧ Bx wx w.heap.size #[.slice ab X.bs.length cb, .slice ast X.st.length cs, .slice ae X.er.length ce, .slice ak X.ks.length ck, .int .i64 X.ch] 26 ∧ Below w.heap.size w wx)
  case first =>
    have hbd := (Below.refl W.heap.size W).drew
    have S0 := x0.below hbd
    replace hbw := hbw.trans (hbd.mono hbw.size)
    clear hbd x0
    refine wp_region_head 10 (fun w' => Bx w' w.heap.size #[.slice ab X.bs.length cb, .slice ast X.st.length cs, .slice ae X.er.length ce, .slice ak X.ks.length ck, .int .i64 X.ch] 26) (by kernel_rfl) rfl ?_
    generalize W.drew = Y0 at *
    refine HeadAt.take (i := 0) (.agg #[.slice ab X.bs.length cb, .slice ast X.st.length cs, .slice ae X.er.length ce, .slice ak X.ks.length ck, .int .i64 X.ch]) rfl (by kernel_rfl) (.inl ⟨rfl, fun w' z => ?_⟩) S0 ?_
    · (have z0 := z.cell 0 rfl; have z1 := z.cell 1 rfl; have z2 := z.cell 2 rfl; have z3 := z.cell 3 rfl; have z4 := z.cell 4 rfl; simp [go_sem, z0, z1, z2, z3, z4])
    refine HeadAt.take (i := 1) (.agg #[.slice ab X.bs.length cb, .slice ast X.st.length cs, .slice ae X.er.length ce, .slice ak X.ks.length ck, .int .i64 X.ch]) rfl (by kernel_rfl) (.inl ⟨rfl, fun w' z => ?_⟩) S0 ?_
    · (have z0 := z.cell 0 rfl; have z1 := z.cell 1 rfl; have z2 := z.cell 2 rfl; have z3 := z.cell 3 rfl; have z4 := z.cell 4 rfl; simp [go_sem, z0, z1, z2, z3, z4])
    refine HeadAt.take (i := 2) (.int .i64 t) rfl (by kernel_rfl) (.inl ⟨rfl, fun _ _ => by simp [go_sem]⟩) S0 ?_
    (try simp only [Act.put, List.getElem_toArray, List.getElem_cons_succ, List.getElem_cons_zero, List.setIfInBounds_toArray, List.set_cons_succ, List.set_cons_zero])
    refine HeadAt.two (i := 3) (j := 8) rfl rfl (by kernel_rfl) ?_ ?_
    · skip
      generalize hK : Upto _ _ = K0
      (try simp only [Act.put, List.getElem_toArray, List.getElem_cons_succ, List.getElem_cons_zero, List.setIfInBounds_toArray, List.set_cons_succ, List.set_cons_zero])
      go_wp2_with fail
      refine (hip _).mono ?_
      rintro e V1 ⟨rfl, hb1⟩
      replace S0 := S0.below hb1
      skip
      replace hbw := hbw.trans (hb1.mono hbw.size)
      clear hb1
      go_wp2_with fail
      subst hK
      refine ⟨S0, ?_⟩
      (try simp only [Act.put, List.getElem_toArray, List.getElem_cons_succ, List.getElem_cons_zero, List.setIfInBounds_toArray, List.set_cons_succ, List.set_cons_zero])
      obtain ⟨Y0, rfl⟩ : ∃ Y : World, Y = V1 := ⟨_, rfl⟩
      refine HeadAt.two (i := 4) (j := 8) rfl rfl (by kernel_rfl) ?_ ?_
      · skip
        generalize hK : Upto _ _ = K0
        (try simp only [Act.put, List.getElem_toArray, List.getElem_cons_succ, List.getElem_cons_zero, List.setIfInBounds_toArray, List.set_cons_succ, List.set_cons_zero])
        go_wp2_with fail
        refine (hvo _ (hgX _ hbw)).mono ?_
        rintro e V1 ⟨rfl, hb1⟩
        replace S0 := S0.below hb1
        skip
        replace hbw := hbw.trans (hb1.mono hbw.size)
        clear hb1
        go_wp2_with fail
        subst hK
        refine ⟨S0, ?_⟩
        (try simp only [Act.put, List.getElem_toArray, List.getElem_cons_succ, List.getElem_cons_zero, List.setIfInBounds_toArray, List.set_cons_succ, List.set_cons_zero])
        obtain ⟨Y0, rfl⟩ : ∃ Y : World, Y = V1 := ⟨_, rfl⟩
        refine HeadAt.take (i := 5) (.tuple #[.agg #[.slice none 0 0, .slice none 0 0, .slice none 0 0, .slice none 0 0, .int .i64 0, .int .u8 0, .int .u8 0, .int .u8 0, .int .u8 0, .int .u8 0, .int .u8 0], .int .i64 r]) rfl (by kernel_rfl) (.inl ⟨rfl, fun _ _ => by simp [go_sem]⟩) S0 ?_
        (try simp only [Act.put, List.getElem_toArray, List.getElem_cons_succ, List.getElem_cons_zero, List.setIfInBounds_toArray, List.set_cons_succ, List.set_cons_zero])
        refine HeadAt.take (i := 6) (.agg #[.slice none 0 0, .slice none 0 0, .slice none 0 0, .slice none 0 0, .int .i64 0, .int .u8 0, .int .u8 0, .int .u8 0, .int .u8 0, .int .u8 0, .int .u8 0]) rfl (by kernel_rfl) (.inl ⟨rfl, fun _ _ => by simp [go_sem]⟩) S0 ?_
        (try simp only [Act.put, List.getElem_toArray, List.getElem_cons_succ, List.getElem_cons_zero, List.setIfInBounds_toArray, List.set_cons_succ, List.set_cons_zero])
        refine HeadAt.take (i := 7) (.int .i64 r) rfl (by kernel_rfl) (.inl ⟨rfl, fun _ _ => by simp [go_sem]⟩) S0 ?_
        (try simp only [Act.put, List.getElem_toArray, List.getElem_cons_succ, List.getElem_cons_zero, List.setIfInBounds_toArray, List.set_cons_succ, List.set_cons_zero])
        refine HeadAt.one (i := 8) rfl (by kernel_rfl) ?_
        generalize hK : Upto _ _ = K0
        (try simp only [Act.put, List.getElem_toArray, List.getElem_cons_succ, List.getElem_cons_zero, List.setIfInBounds_toArray, List.set_cons_succ, List.set_cons_zero])
        have hb1 := below_one (w := Y0) (.cells #[.slice none 0 0, .slice none 0 0, .slice none 0 0, .slice none 0 0, .int .i64 0, .int .u8 0, .int .u8 0, .int .u8 0, .int .u8 0, .int .u8 0, .int .u8 0] 72)
        have HX := hid (And.intro (S0.below hb1) (And.intro (hbw.trans (hb1.mono hbw.size)) (Bx.new Y0 #[.slice none 0 0, .slice none 0 0, .slice none 0 0, .slice none 0 0, .int .i64 0, .int .u8 0, .int .u8 0, .int .u8 0, .int .u8 0, .int .u8 0, .int .u8 0] 72)))
        clear hb1
        go_wp2_with fail
        subst hK
        obtain ⟨S1, hbw', xg⟩ := HX.out
        refine ⟨S1, ?_⟩
        (try simp only [Act.put, List.getElem_toArray, List.getElem_cons_succ, List.getElem_cons_zero, List.setIfInBounds_toArray, List.set_cons_succ, List.set_cons_zero])
        obtain ⟨g, hg⟩ : ∃ g, g = Y0.heap.size := ⟨_, rfl⟩
        have hgs : w.heap.size < g := by have := S0.lt; omega
        rw [← hg] at xg ⊢
        clear hg HX S0 hbw
        have S0 := S1
        have hbw := hbw'
        clear S1 hbw'
        generalize Y0.alloc _ = Y1 at *
        obtain ⟨Y0, rfl⟩ : ∃ Y : World, Y = Y1 := ⟨_, rfl⟩
        refine HeadAt.one (i := 9) rfl (by kernel_rfl) ?_
        generalize hK : Upto _ _ = K0
        (try simp only [Act.put, List.getElem_toArray, List.getElem_cons_succ, List.getElem_cons_zero, List.setIfInBounds_toArray, List.set_cons_succ, List.set_cons_zero])
        have d0 := xg.cell 0 rfl; have d1 := xg.cell 1 rfl; have d2 := xg.cell 2 rfl; have d3 := xg.cell 3 rfl; have d4 := xg.cell 4 rfl; have d5 := xg.cell 5 rfl; have d6 := xg.cell 6 rfl; have d7 := xg.cell 7 rfl; have d8 := xg.cell 8 rfl; have d9 := xg.cell 9 rfl; have d10 := xg.cell 10 rfl
        have f0 := xg.free 0; have f1 := xg.free 1; have f2 := xg.free 2; have f3 := xg.free 3; have f4 := xg.free 4; have f5 := xg.free 5; have f6 := xg.free 6; have f7 := xg.free 7; have f8 := xg.free 8; have f9 := xg.free 9; have f10 := xg.free 10
        have xg' := xg.set11 (.slice none 0 0) (.slice none 0 0) (.slice none 0 0) (.slice none 0 0) (.int .i64 0) (.int .u8 0) (.int .u8 0) (.int .u8 0) (.int .u8 0) (.int .u8 0) (.int .u8 0)
        have hb' := below_put11 hbw (b := g) (by omega) (.slice none 0 0) (.slice none 0 0) (.slice none 0 0) (.slice none 0 0) (.int .i64 0) (.int .u8 0) (.int .u8 0) (.int .u8 0) (.int .u8 0) (.int .u8 0) (.int .u8 0)
        have S1 := S0.other11 (b := g) (by omega) (.slice none 0 0) (.slice none 0 0) (.slice none 0 0) (.slice none 0 0) (.int .i64 0) (.int .u8 0) (.int .u8 0) (.int .u8 0) (.int .u8 0) (.int .u8 0) (.int .u8 0)
        have HY := hid (And.intro hgs (And.intro xg' (And.intro S1 hb')))
        clear xg' hb' S1
        go_wp2_with fail
        subst hK
        obtain ⟨_, xg', S1, hb'⟩ := HY.out
        refine ⟨S1, ?_⟩
        generalize World.setCell _ _ _ = YY at *
        refine HeadAt.done (by kernel_rfl) ?_
        (try simp only [Act.put, List.drop_succ_cons, List.drop_zero, List.getElem_toArray, List.getElem_cons_succ, List.getElem_cons_zero])
        go_wp2_with fail
        refine NoPanic.normal ?_
        go_wp2_with fail
        go_meet
        exact ⟨g, rfl, rfl, hgs, xg', S1, hb'⟩
      · skip
        generalize hK : Upto _ _ = K0
        (try simp only [Act.put, List.getElem_toArray, List.getElem_cons_succ, List.getElem_cons_zero, List.setIfInBounds_toArray, List.set_cons_succ, List.set_cons_zero])
        have hb1 := below_one (w := Y0) (.cells #[.slice none 0 0, .slice none 0 0, .slice none 0 0, .slice none 0 0, .int .i64 0, .int .u8 0, .int .u8 0, .int .u8 0, .int .u8 0, .int .u8 0, .int .u8 0] 72)
        have HX := hid (And.intro (S0.below hb1) (And.intro (hbw.trans (hb1.mono hbw.size)) (Bx.new Y0 #[.slice none 0 0, .slice none 0 0, .slice none 0 0, .slice none 0 0, .int .i64 0, .int .u8 0, .int .u8 0, .int .u8 0, .int .u8 0, .int .u8 0, .int .u8 0] 72)))
        clear hb1
        go_wp2_with fail
        subst hK
        obtain ⟨S1, hbw', xg⟩ := HX.out
        refine ⟨S1, ?_⟩
        (try simp only [Act.put, List.getElem_toArray, List.getElem_cons_succ, List.getElem_cons_zero, List.setIfInBounds_toArray, List.set_cons_succ, List.set_cons_zero])
        obtain ⟨g, hg⟩ : ∃ g, g = Y0.heap.size := ⟨_, rfl⟩
        have hgs : w.heap.size < g := by have := S0.lt; omega
        rw [← hg] at xg ⊢
        clear hg HX S0 hbw
        have S0 := S1
        have hbw := hbw'
        clear S1 hbw'
        generalize Y0.alloc _ = Y1 at *
        obtain ⟨Y0, rfl⟩ : ∃ Y : World, Y = Y1 := ⟨_, rfl⟩
        refine HeadAt.one (i := 4) rfl (by kernel_rfl) ?_
        generalize hK : Upto _ _ = K0
        (try simp only [Act.put, List.getElem_toArray, List.getElem_cons_succ, List.getElem_cons_zero, List.setIfInBounds_toArray, List.set_cons_succ, List.set_cons_zero])
        go_wp2_with fail
        refine (hvo _ (hgX _ hbw)).mono ?_
        rintro e V1 ⟨rfl, hb1⟩
        replace S0 := S0.below hb1
        replace xg := xg.below hb1
        replace hbw := hbw.trans (hb1.mono hbw.size)
        clear hb1
        go_wp2_with fail
        subst hK
        refine ⟨S0, ?_⟩
        (try simp only [Act.put, List.getElem_toArray, List.getElem_cons_succ, List.getElem_cons_zero, List.setIfInBounds_toArray, List.set_cons_succ, List.set_cons_zero])
        obtain ⟨Y0, rfl⟩ : ∃ Y : World, Y = V1 := ⟨_, rfl⟩
        refine HeadAt.take (i := 5) (.tuple #[.agg #[.slice none 0 0, .slice none 0 0, .slice none 0 0, .slice none 0 0, .int .i64 0, .int .u8 0, .int .u8 0, .int .u8 0, .int .u8 0, .int .u8 0, .int .u8 0], .int .i64 r]) rfl (by kernel_rfl) (.inl ⟨rfl, fun _ _ => by simp [go_sem]⟩) S0 ?_
        (try simp only [Act.put, List.getElem_toArray, List.getElem_cons_succ, List.getElem_cons_zero, List.setIfInBounds_toArray, List.set_cons_succ, List.set_cons_zero])
        refine HeadAt.take (i := 6) (.agg #[.slice none 0 0, .slice none 0 0, .slice none 0 0, .slice none 0 0, .int .i64 0, .int .u8 0, .int .u8 0, .int .u8 0, .int .u8 0, .int .u8 0, .int .u8 0]) rfl (by kernel_rfl) (.inl ⟨rfl, fun _ _ => by simp [go_sem]⟩) S0 ?_
        (try simp only [Act.put, List.getElem_toArray, List.getElem_cons_succ, List.getElem_cons_zero, List.setIfInBounds_toArray, List.set_cons_succ, List.set_cons_zero])
        refine HeadAt.take (i := 7) (.int .i64 r) rfl (by kernel_rfl) (.inl ⟨rfl, fun _ _ => by simp [go_sem]⟩) S0 ?_
        (try simp only [Act.put, List.getElem_toArray, List.getElem_cons_succ, List.getElem_cons_zero, List.setIfInBounds_toArray, List.set_cons_succ, List.set_cons_zero])
        refine HeadAt.one (i := 9) rfl (by kernel_rfl) ?_
        generalize hK : Upto _ _ = K0
        (try simp only [Act.put, List.getElem_toArray, List.getElem_cons_succ, List.getElem_cons_zero, List.setIfInBounds_toArray, List.set_cons_succ, List.set_cons_zero])
        have d0 := xg.cell 0 rfl; have d1 := xg.cell 1 rfl; have d2 := xg.cell 2 rfl; have d3 := xg.cell 3 rfl; have d4 := xg.cell 4 rfl; have d5 := xg.cell 5 rfl; have d6 := xg.cell 6 rfl; have d7 := xg.cell 7 rfl; have d8 := xg.cell 8 rfl; have d9 := xg.cell 9 rfl; have d10 := xg.cell 10 rfl
        have f0 := xg.free 0; have f1 := xg.free 1; have f2 := xg.free 2; have f3 := xg.free 3; have f4 := xg.free 4; have f5 := xg.free 5; have f6 := xg.free 6; have f7 := xg.free 7; have f8 := xg.free 8; have f9 := xg.free 9; have f10 := xg.free 10
        have xg' := xg.set11 (.slice none 0 0) (.slice none 0 0) (.slice none 0 0) (.slice none 0 0) (.int .i64 0) (.int .u8 0) (.int .u8 0) (.int .u8 0) (.int .u8 0) (.int .u8 0) (.int .u8 0)
        have hb' := below_put11 hbw (b := g) (by omega) (.slice none 0 0) (.slice none 0 0) (.slice none 0 0) (.slice none 0 0) (.int .i64 0) (.int .u8 0) (.int .u8 0) (.int .u8 0) (.int .u8 0) (.int .u8 0) (.int .u8 0)
        have S1 := S0.other11 (b := g) (by omega) (.slice none 0 0) (.slice none 0 0) (.slice none 0 0) (.slice none 0 0) (.int .i64 0) (.int .u8 0) (.int .u8 0) (.int .u8 0) (.int .u8 0) (.int .u8 0) (.int .u8 0)
        have HY := hid (And.intro hgs (And.intro xg' (And.intro S1 hb')))
        clear xg' hb' S1
        go_wp2_with fail
        subst hK
        obtain ⟨_, xg', S1, hb'⟩ := HY.out
        refine ⟨S1, ?_⟩
        generalize World.setCell _ _ _ = YY at *
        refine HeadAt.done (by kernel_rfl) ?_
        (try simp only [Act.put, List.drop_succ_cons, List.drop_zero, List.getElem_toArray, List.getElem_cons_succ, List.getElem_cons_zero])
        go_wp2_with fail
        refine NoPanic.normal ?_
        go_wp2_with fail
        go_meet
        exact ⟨g, rfl, rfl, hgs, xg', S1, hb'⟩
    · skip
      generalize hK : Upto _ _ = K0
      (try simp only [Act.put, List.getElem_toArray, List.getElem_cons_succ, List.getElem_cons_zero, List.setIfInBounds_toArray, List.set_cons_succ, List.set_cons_zero])
      have hb1 := below_one (w := Y0) (.cells #[.slice none 0 0, .slice none 0 0, .slice none 0 0, .slice none 0 0, .int .i64 0, .int .u8 0, .int .u8 0, .int .u8 0, .int .u8 0, .int .u8 0, .int .u8 0] 72)
      have HX := hid (And.intro (S0.below hb1) (And.intro (hbw.trans (hb1.mono hbw.size)) (Bx.new Y0 #[.slice none 0 0, .slice none 0 0, .slice none 0 0, .slice none 0 0, .int .i64 0, .int .u8 0, .int .u8 0, .int .u8 0, .int .u8 0, .int .u8 0, .int .u8 0] 72)))
      clear hb1
      go_wp2_with fail
      subst hK
      obtain ⟨S1, hbw', xg⟩ := HX.out
      refine ⟨S1, ?_⟩
      (try simp only [Act.put, List.getElem_toArray, List.getElem_cons_succ, List.getElem_cons_zero, List.setIfInBounds_toArray, List.set_cons_succ, List.set_cons_zero])
      obtain ⟨g, hg⟩ : ∃ g, g = Y0.heap.size := ⟨_, rfl⟩
      have hgs : w.heap.size < g := by have := S0.lt; omega
      rw [← hg] at xg ⊢
      clear hg HX S0 hbw
      have S0 := S1
      have hbw := hbw'
      clear S1 hbw'
      generalize Y0.alloc _ = Y1 at *
      obtain ⟨Y0, rfl⟩ : ∃ Y : World, Y = Y1 := ⟨_, rfl⟩
      refine HeadAt.one (i := 3) rfl (by kernel_rfl) ?_
      generalize hK : Upto _ _ = K0
      (try simp only [Act.put, List.getElem_toArray, List.getElem_cons_succ, List.getElem_cons_zero, List.setIfInBounds_toArray, List.set_cons_succ, List.set_cons_zero])
      go_wp2_with fail
      refine (hip _).mono ?_
      rintro e V1 ⟨rfl, hb1⟩
      replace S0 := S0.below hb1
      replace xg := xg.below hb1
      replace hbw := hbw.trans (hb1.mono hbw.size)
      clear hb1
      go_wp2_with fail
      subst hK
      refine ⟨S0, ?_⟩
      (try simp only [Act.put, List.getElem_toArray, List.getElem_cons_succ, List.getElem_cons_zero, List.setIfInBounds_toArray, List.set_cons_succ, List.set_cons_zero])
      obtain ⟨Y0, rfl⟩ : ∃ Y : World, Y = V1 := ⟨_, rfl⟩
      refine HeadAt.one (i := 4) rfl (by kernel_rfl) ?_
      generalize hK : Upto _ _ = K0
      (try simp only [Act.put, List.getElem_toArray, List.getElem_cons_succ, List.getElem_cons_zero, List.setIfInBounds_toArray, List.set_cons_succ, List.set_cons_zero])
      go_wp2_with fail
      refine (hvo _ (hgX _ hbw)).mono ?_
      rintro e V1 ⟨rfl, hb1⟩
      replace S0 := S0.below hb1
      replace xg := xg.below hb1
      replace hbw := hbw.trans (hb1.mono hbw.size)
      clear hb1
      go_wp2_with fail
      subst hK
      refine ⟨S0, ?_⟩
      (try simp only [Act.put, List.getElem_toArray, List.getElem_cons_succ, List.getElem_cons_zero, List.setIfInBounds_toArray, List.set_cons_succ, List.set_cons_zero])
      obtain ⟨Y0, rfl⟩ : ∃ Y : World, Y = V1 := ⟨_, rfl⟩
      refine HeadAt.take (i := 5) (.tuple #[.agg #[.slice none 0 0, .slice none 0 0, .slice none 0 0, .slice none 0 0, .int .i64 0, .int .u8 0, .int .u8 0, .int .u8 0, .int .u8 0, .int .u8 0, .int .u8 0], .int .i64 r]) rfl (by kernel_rfl) (.inl ⟨rfl, fun _ _ => by simp [go_sem]⟩) S0 ?_
      (try simp only [Act.put, List.getElem_toArray, List.getElem_cons_succ, List.getElem_cons_zero, List.setIfInBounds_toArray, List.set_cons_succ, List.set_cons_zero])
      refine HeadAt.take (i := 6) (.agg #[.slice none 0 0, .slice none 0 0, .slice none 0 0, .slice none 0 0, .int .i64 0, .int .u8 0, .int .u8 0, .int .u8 0, .int .u8 0, .int .u8 0, .int .u8 0]) rfl (by kernel_rfl) (.inl ⟨rfl, fun _ _ => by simp [go_sem]⟩) S0 ?_
      (try simp only [Act.put, List.getElem_toArray, List.getElem_cons_succ, List.getElem_cons_zero, List.setIfInBounds_toArray, List.set_cons_succ, List.set_cons_zero])
      refine HeadAt.take (i := 7) (.int .i64 r) rfl (by kernel_rfl) (.inl ⟨rfl, fun _ _ => by simp [go_sem]⟩) S0 ?_
      (try simp only [Act.put, List.getElem_toArray, List.getElem_cons_succ, List.getElem_cons_zero, List.setIfInBounds_toArray, List.set_cons_succ, List.set_cons_zero])
      refine HeadAt.one (i := 9) rfl (by kernel_rfl) ?_
      generalize hK : Upto _ _ = K0
      (try simp only [Act.put, List.getElem_toArray, List.getElem_cons_succ, List.getElem_cons_zero, List.setIfInBounds_toArray, List.set_cons_succ, List.set_cons_zero])
      have d0 := xg.cell 0 rfl; have d1 := xg.cell 1 rfl; have d2 := xg.cell 2 rfl; have d3 := xg.cell 3 rfl; have d4 := xg.cell 4 rfl; have d5 := xg.cell 5 rfl; have d6 := xg.cell 6 rfl; have d7 := xg.cell 7 rfl; have d8 := xg.cell 8 rfl; have d9 := xg.cell 9 rfl; have d10 := xg.cell 10 rfl
      have f0 := xg.free 0; have f1 := xg.free 1; have f2 := xg.free 2; have f3 := xg.free 3; have f4 := xg.free 4; have f5 := xg.free 5; have f6 := xg.free 6; have f7 := xg.free 7; have f8 := xg.free 8; have f9 := xg.free 9; have f10 := xg.free 10
      have xg' := xg.set11 (.slice none 0 0) (.slice none 0 0) (.slice none 0 0) (.slice none 0 0) (.int .i64 0) (.int .u8 0) (.int .u8 0) (.int .u8 0) (.int .u8 0) (.int .u8 0) (.int .u8 0)
      have hb' := below_put11 hbw (b := g) (by omega) (.slice none 0 0) (.slice none 0 0) (.slice none 0 0) (.slice none 0 0) (.int .i64 0) (.int .u8 0) (.int .u8 0) (.int .u8 0) (.int .u8 0) (.int .u8 0) (.int .u8 0)
      have S1 := S0.other11 (b := g) (by omega) (.slice none 0 0) (.slice none 0 0) (.slice none 0 0) (.slice none 0 0) (.int .i64 0) (.int .u8 0) (.int .u8 0) (.int .u8 0) (.int .u8 0) (.int .u8 0) (.int .u8 0)
      have HY := hid (And.intro hgs (And.intro xg' (And.intro S1 hb')))
      clear xg' hb' S1
      go_wp2_with fail
      subst hK
      obtain ⟨_, xg', S1, hb'⟩ := HY.out
      refine ⟨S1, ?_⟩
      generalize World.setCell _ _ _ = YY at *
      refine HeadAt.done (by kernel_rfl) ?_
      (try simp only [Act.put, List.drop_succ_cons, List.drop_zero, List.getElem_toArray, List.getElem_cons_succ, List.getElem_cons_zero])
      go_wp2_with fail
      refine NoPanic.normal ?_
      go_wp2_with fail
      go_meet
      exact ⟨g, rfl, rfl, hgs, xg', S1, hb'⟩
  case rest =>
    clear hbw x0
    obtain ⟨g, rfl, rfl, hg, xg, x0, hb⟩ := hcut
    clear xg x0 hvo hgX hip
    go_wp2
    go_ret2
    exact ⟨rfl, hb⟩

set_option maxRecDepth 100000 in
set_option maxHeartbeats 6000000 in
theorem Copy_ok (ab ast ae ak : Option Addr) (cb cs ce ck : Nat) (X : Sw) (t : Int) (w : World) (hX : Swp w ab ast ae ak X) (hv : vB X = true) (ht : inI 0 t (ntI X) = true) : Calls Try.prog 40 #[.agg #[.slice ab X.bs.length cb, .slice ast X.st.length cs, .slice ae X.er.length ce, .slice ak X.ks.length ck, .int .i64 X.ch], .int .i64 t] w fun e w' => e = .returned (.tuple #[.int .i64 (copyV X.vz t.toNat), .int .i64 0]) ∧ Below w.heap.size w w' := by
  obtain ⟨W, hW, hbw, _, x0⟩ := boxes1 w #[.slice ab X.bs.length cb, .slice ast X.st.length cs, .slice ae X.er.length ce, .slice ak X.ks.length ck, .int .i64 X.ch] 26
  have hgX := fun V (h : Below w.heap.size w V) => hX.below h (Nat.le_refl _)
  have hip := fun V => isTitle_any ab ast ae ak cb cs ce ck X t V (by have := hX.2.1.len; omega)
  obtain ⟨p, hp⟩ : ∃ p, p = planM X.bs := ⟨_, rfl⟩
  obtain ⟨q, hq⟩ : ∃ q, q = stayF X.ks := ⟨_, rfl⟩
  have hok := vB_iff hv
  have hvo := fun V h => visitOf_ok ab ast ae ak cb cs ce ck X V h hv p q hp hq
  rw [ht] at hip
  obtain ⟨i, hi, hti⟩ : ∃ i : Nat, i < X.st.length ∧ t = (i : Int) := ⟨t.toNat, by have := inI_iff.1 ht; unfold ntI at this; omega, by have := inI_iff.1 ht; omega⟩
  subst hti
  rw [show ((i : Int).toNat) = i from rfl]
  obtain ⟨x, hx⟩ : ∃ x, X.st[i]? = some x := ⟨_, List.getElem?_eq_getElem hi⟩
  have hwc := fun V (h : Below w.heap.size w V) => withCopy_any ab ast ae ak cb cs ce ck X p q i x hx hok.st9 hok.t6 V (hX.2.1.below h (Nat.le_refl _))
  have hbe := fun V (h : Below w.heap.size w V) => best_X ab ast ae ak cb cs ce ck X hok p q hp hq V (hX.below h (Nat.le_refl _))
  have hbc := fun g1 c1 V (h : Below w.heap.size w V) => bestC ab ast ae ak cb cs ce ck X hok p q hp hq i x hx g1 c1 V (hX.below h (Nat.le_refl _))
  have he1 := earn_le (vz_ok hok) (bestP X.vz)
  have he2 := earn_le (vzC_ok hok hx) (bestP (X.vz.more i))
  unfold copyV
  generalize earn X.vz (bestP X.vz) = b0 at *
  generalize earn (X.vz.more i) (bestP (X.vz.more i)) = b1 at *
  have hwr : IntKind.i64.wrap (b1 - b0) = b1 - b0 := IntWalk.i64_in _ (by omega)
  have HB := hid (And.intro hwr (And.intro hwc (And.intro hbe hbc)))
  clear hX hp hq hv hok ht hi hx hwr hwc hbe hbc he1 he2
  have c0 := x0.cell 0 rfl; have c1 := x0.cell 1 rfl; have c2 := x0.cell 2 rfl; have c3 := x0.cell 3 rfl; have c4 := x0.cell 4 rfl
  go_enter Try.func40, Try.ntmps40
  go_wp2_with fail
  clear hW c0 c1 c2 c3 c4
  go_cut [6, 7] (fun s6 s7 wx => ∃ g : Nat, s6 = .pointer (some ⟨g, 0, none⟩) ∧ s7 = .int .i64 0 ∧ w.heap.size < g ∧ Bx wx g #[.slice ab X.bs.length cb, .slice ast X.st.length cs, .slice ae X.er.length ce, .slice ak X.ks.length ck, .int .i64 X.ch, .int .u8 (p.a : Int), .int .u8 (p.b : Int), .int .u8 (p.c : Int), .int .u8 (q.a : Int), .int .u8 (q.b : Int), .int .u8 (q.c : Int)] 72 ∧ Bx wx w.heap.size #[.slice ab X.bs.length cb, .slice ast X.st.length cs, .slice ae X.er.length ce, .slice ak X.ks.length ck, .int .i64 X.ch] 26 ∧ Below w.heap.size w wx)
  case first =>
    have hbd := (Below.refl W.heap.size W).drew
    have S0 := x0.below hbd
    replace hbw := hbw.trans (hbd.mono hbw.size)
    clear hbd x0
    refine wp_region_head 10 (fun w' => Bx w' w.heap.size #[.slice ab X.bs.length cb, .slice ast X.st.length cs, .slice ae X.er.length ce, .slice ak X.ks.length ck, .int .i64 X.ch] 26) (by kernel_rfl) rfl ?_
    generalize W.drew = Y0 at *
    refine HeadAt.take (i := 0) (.agg #[.slice ab X.bs.length cb, .slice ast X.st.length cs, .slice ae X.er.length ce, .slice ak X.ks.length ck, .int .i64 X.ch]) rfl (by kernel_rfl) (.inl ⟨rfl, fun w' z => ?_⟩) S0 ?_
    · (have z0 := z.cell 0 rfl; have z1 := z.cell 1 rfl; have z2 := z.cell 2 rfl; have z3 := z.cell 3 rfl; have z4 := z.cell 4 rfl; simp [go_sem, z0, z1, z2, z3, z4])
    refine HeadAt.take (i := 1) (.agg #[.slice ab X.bs.length cb, .slice ast X.st.length cs, .slice ae X.er.length ce, .slice ak X.ks.length ck, .int .i64 X.ch]) rfl (by kernel_rfl) (.inl ⟨rfl, fun w' z => ?_⟩) S0 ?_
    · (have z0 := z.cell 0 rfl; have z1 := z.cell 1 rfl; have z2 := z.cell 2 rfl; have z3 := z.cell 3 rfl; have z4 := z.cell 4 rfl; simp [go_sem, z0, z1, z2, z3, z4])
    refine HeadAt.take (i := 2) (.int .i64 (i : Int)) rfl (by kernel_rfl) (.inl ⟨rfl, fun _ _ => by simp [go_sem]⟩) S0 ?_
    (try simp only [Act.put, List.getElem_toArray, List.getElem_cons_succ, List.getElem_cons_zero, List.setIfInBounds_toArray, List.set_cons_succ, List.set_cons_zero])
    refine HeadAt.two (i := 3) (j := 8) rfl rfl (by kernel_rfl) ?_ ?_
    · skip
      generalize hK : Upto _ _ = K0
      (try simp only [Act.put, List.getElem_toArray, List.getElem_cons_succ, List.getElem_cons_zero, List.setIfInBounds_toArray, List.set_cons_succ, List.set_cons_zero])
      go_wp2_with fail
      refine (hip _).mono ?_
      rintro e V1 ⟨rfl, hb1⟩
      replace S0 := S0.below hb1
      skip
      replace hbw := hbw.trans (hb1.mono hbw.size)
      clear hb1
      go_wp2_with fail
      subst hK
      refine ⟨S0, ?_⟩
      (try simp only [Act.put, List.getElem_toArray, List.getElem_cons_succ, List.getElem_cons_zero, List.setIfInBounds_toArray, List.set_cons_succ, List.set_cons_zero])
      obtain ⟨Y0, rfl⟩ : ∃ Y : World, Y = V1 := ⟨_, rfl⟩
      refine HeadAt.two (i := 4) (j := 8) rfl rfl (by kernel_rfl) ?_ ?_
      · skip
        generalize hK : Upto _ _ = K0
        (try simp only [Act.put, List.getElem_toArray, List.getElem_cons_succ, List.getElem_cons_zero, List.setIfInBounds_toArray, List.set_cons_succ, List.set_cons_zero])
        go_wp2_with fail
        refine (hvo _ (hgX _ hbw)).mono ?_
        rintro e V1 ⟨rfl, hb1⟩
        replace S0 := S0.below hb1
        skip
        replace hbw := hbw.trans (hb1.mono hbw.size)
        clear hb1
        go_wp2_with fail
        subst hK
        refine ⟨S0, ?_⟩
        (try simp only [Act.put, List.getElem_toArray, List.getElem_cons_succ, List.getElem_cons_zero, List.setIfInBounds_toArray, List.set_cons_succ, List.set_cons_zero])
        obtain ⟨Y0, rfl⟩ : ∃ Y : World, Y = V1 := ⟨_, rfl⟩
        refine HeadAt.take (i := 5) (.tuple #[.agg #[.slice ab X.bs.length cb, .slice ast X.st.length cs, .slice ae X.er.length ce, .slice ak X.ks.length ck, .int .i64 X.ch, .int .u8 (p.a : Int), .int .u8 (p.b : Int), .int .u8 (p.c : Int), .int .u8 (q.a : Int), .int .u8 (q.b : Int), .int .u8 (q.c : Int)], .int .i64 0]) rfl (by kernel_rfl) (.inl ⟨rfl, fun _ _ => by simp [go_sem]⟩) S0 ?_
        (try simp only [Act.put, List.getElem_toArray, List.getElem_cons_succ, List.getElem_cons_zero, List.setIfInBounds_toArray, List.set_cons_succ, List.set_cons_zero])
        refine HeadAt.take (i := 6) (.agg #[.slice ab X.bs.length cb, .slice ast X.st.length cs, .slice ae X.er.length ce, .slice ak X.ks.length ck, .int .i64 X.ch, .int .u8 (p.a : Int), .int .u8 (p.b : Int), .int .u8 (p.c : Int), .int .u8 (q.a : Int), .int .u8 (q.b : Int), .int .u8 (q.c : Int)]) rfl (by kernel_rfl) (.inl ⟨rfl, fun _ _ => by simp [go_sem]⟩) S0 ?_
        (try simp only [Act.put, List.getElem_toArray, List.getElem_cons_succ, List.getElem_cons_zero, List.setIfInBounds_toArray, List.set_cons_succ, List.set_cons_zero])
        refine HeadAt.take (i := 7) (.int .i64 0) rfl (by kernel_rfl) (.inl ⟨rfl, fun _ _ => by simp [go_sem]⟩) S0 ?_
        (try simp only [Act.put, List.getElem_toArray, List.getElem_cons_succ, List.getElem_cons_zero, List.setIfInBounds_toArray, List.set_cons_succ, List.set_cons_zero])
        refine HeadAt.one (i := 8) rfl (by kernel_rfl) ?_
        generalize hK : Upto _ _ = K0
        (try simp only [Act.put, List.getElem_toArray, List.getElem_cons_succ, List.getElem_cons_zero, List.setIfInBounds_toArray, List.set_cons_succ, List.set_cons_zero])
        have hb1 := below_one (w := Y0) (.cells #[.slice none 0 0, .slice none 0 0, .slice none 0 0, .slice none 0 0, .int .i64 0, .int .u8 0, .int .u8 0, .int .u8 0, .int .u8 0, .int .u8 0, .int .u8 0] 72)
        have HX := hid (And.intro (S0.below hb1) (And.intro (hbw.trans (hb1.mono hbw.size)) (Bx.new Y0 #[.slice none 0 0, .slice none 0 0, .slice none 0 0, .slice none 0 0, .int .i64 0, .int .u8 0, .int .u8 0, .int .u8 0, .int .u8 0, .int .u8 0, .int .u8 0] 72)))
        clear hb1
        go_wp2_with fail
        subst hK
        obtain ⟨S1, hbw', xg⟩ := HX.out
        refine ⟨S1, ?_⟩
        (try simp only [Act.put, List.getElem_toArray, List.getElem_cons_succ, List.getElem_cons_zero, List.setIfInBounds_toArray, List.set_cons_succ, List.set_cons_zero])
        obtain ⟨g, hg⟩ : ∃ g, g = Y0.heap.size := ⟨_, rfl⟩
        have hgs : w.heap.size < g := by have := S0.lt; omega
        rw [← hg] at xg ⊢
        clear hg HX S0 hbw
        have S0 := S1
        have hbw := hbw'
        clear S1 hbw'
        generalize Y0.alloc _ = Y1 at *
        obtain ⟨Y0, rfl⟩ : ∃ Y : World, Y = Y1 := ⟨_, rfl⟩
        refine HeadAt.one (i := 9) rfl (by kernel_rfl) ?_
        generalize hK : Upto _ _ = K0
        (try simp only [Act.put, List.getElem_toArray, List.getElem_cons_succ, List.getElem_cons_zero, List.setIfInBounds_toArray, List.set_cons_succ, List.set_cons_zero])
        have d0 := xg.cell 0 rfl; have d1 := xg.cell 1 rfl; have d2 := xg.cell 2 rfl; have d3 := xg.cell 3 rfl; have d4 := xg.cell 4 rfl; have d5 := xg.cell 5 rfl; have d6 := xg.cell 6 rfl; have d7 := xg.cell 7 rfl; have d8 := xg.cell 8 rfl; have d9 := xg.cell 9 rfl; have d10 := xg.cell 10 rfl
        have f0 := xg.free 0; have f1 := xg.free 1; have f2 := xg.free 2; have f3 := xg.free 3; have f4 := xg.free 4; have f5 := xg.free 5; have f6 := xg.free 6; have f7 := xg.free 7; have f8 := xg.free 8; have f9 := xg.free 9; have f10 := xg.free 10
        have xg' := xg.set11 (.slice ab X.bs.length cb) (.slice ast X.st.length cs) (.slice ae X.er.length ce) (.slice ak X.ks.length ck) (.int .i64 X.ch) (.int .u8 (p.a : Int)) (.int .u8 (p.b : Int)) (.int .u8 (p.c : Int)) (.int .u8 (q.a : Int)) (.int .u8 (q.b : Int)) (.int .u8 (q.c : Int))
        have hb' := below_put11 hbw (b := g) (by omega) (.slice ab X.bs.length cb) (.slice ast X.st.length cs) (.slice ae X.er.length ce) (.slice ak X.ks.length ck) (.int .i64 X.ch) (.int .u8 (p.a : Int)) (.int .u8 (p.b : Int)) (.int .u8 (p.c : Int)) (.int .u8 (q.a : Int)) (.int .u8 (q.b : Int)) (.int .u8 (q.c : Int))
        have S1 := S0.other11 (b := g) (by omega) (.slice ab X.bs.length cb) (.slice ast X.st.length cs) (.slice ae X.er.length ce) (.slice ak X.ks.length ck) (.int .i64 X.ch) (.int .u8 (p.a : Int)) (.int .u8 (p.b : Int)) (.int .u8 (p.c : Int)) (.int .u8 (q.a : Int)) (.int .u8 (q.b : Int)) (.int .u8 (q.c : Int))
        have HY := hid (And.intro hgs (And.intro xg' (And.intro S1 hb')))
        clear xg' hb' S1
        go_wp2_with fail
        subst hK
        obtain ⟨_, xg', S1, hb'⟩ := HY.out
        refine ⟨S1, ?_⟩
        generalize World.setCell _ _ _ = YY at *
        refine HeadAt.done (by kernel_rfl) ?_
        (try simp only [Act.put, List.drop_succ_cons, List.drop_zero, List.getElem_toArray, List.getElem_cons_succ, List.getElem_cons_zero])
        go_wp2_with fail
        refine NoPanic.normal ?_
        go_wp2_with fail
        go_meet
        exact ⟨g, rfl, rfl, hgs, xg', S1, hb'⟩
      · skip
        generalize hK : Upto _ _ = K0
        (try simp only [Act.put, List.getElem_toArray, List.getElem_cons_succ, List.getElem_cons_zero, List.setIfInBounds_toArray, List.set_cons_succ, List.set_cons_zero])
        have hb1 := below_one (w := Y0) (.cells #[.slice none 0 0, .slice none 0 0, .slice none 0 0, .slice none 0 0, .int .i64 0, .int .u8 0, .int .u8 0, .int .u8 0, .int .u8 0, .int .u8 0, .int .u8 0] 72)
        have HX := hid (And.intro (S0.below hb1) (And.intro (hbw.trans (hb1.mono hbw.size)) (Bx.new Y0 #[.slice none 0 0, .slice none 0 0, .slice none 0 0, .slice none 0 0, .int .i64 0, .int .u8 0, .int .u8 0, .int .u8 0, .int .u8 0, .int .u8 0, .int .u8 0] 72)))
        clear hb1
        go_wp2_with fail
        subst hK
        obtain ⟨S1, hbw', xg⟩ := HX.out
        refine ⟨S1, ?_⟩
        (try simp only [Act.put, List.getElem_toArray, List.getElem_cons_succ, List.getElem_cons_zero, List.setIfInBounds_toArray, List.set_cons_succ, List.set_cons_zero])
        obtain ⟨g, hg⟩ : ∃ g, g = Y0.heap.size := ⟨_, rfl⟩
        have hgs : w.heap.size < g := by have := S0.lt; omega
        rw [← hg] at xg ⊢
        clear hg HX S0 hbw
        have S0 := S1
        have hbw := hbw'
        clear S1 hbw'
        generalize Y0.alloc _ = Y1 at *
        obtain ⟨Y0, rfl⟩ : ∃ Y : World, Y = Y1 := ⟨_, rfl⟩
        refine HeadAt.one (i := 4) rfl (by kernel_rfl) ?_
        generalize hK : Upto _ _ = K0
        (try simp only [Act.put, List.getElem_toArray, List.getElem_cons_succ, List.getElem_cons_zero, List.setIfInBounds_toArray, List.set_cons_succ, List.set_cons_zero])
        go_wp2_with fail
        refine (hvo _ (hgX _ hbw)).mono ?_
        rintro e V1 ⟨rfl, hb1⟩
        replace S0 := S0.below hb1
        replace xg := xg.below hb1
        replace hbw := hbw.trans (hb1.mono hbw.size)
        clear hb1
        go_wp2_with fail
        subst hK
        refine ⟨S0, ?_⟩
        (try simp only [Act.put, List.getElem_toArray, List.getElem_cons_succ, List.getElem_cons_zero, List.setIfInBounds_toArray, List.set_cons_succ, List.set_cons_zero])
        obtain ⟨Y0, rfl⟩ : ∃ Y : World, Y = V1 := ⟨_, rfl⟩
        refine HeadAt.take (i := 5) (.tuple #[.agg #[.slice ab X.bs.length cb, .slice ast X.st.length cs, .slice ae X.er.length ce, .slice ak X.ks.length ck, .int .i64 X.ch, .int .u8 (p.a : Int), .int .u8 (p.b : Int), .int .u8 (p.c : Int), .int .u8 (q.a : Int), .int .u8 (q.b : Int), .int .u8 (q.c : Int)], .int .i64 0]) rfl (by kernel_rfl) (.inl ⟨rfl, fun _ _ => by simp [go_sem]⟩) S0 ?_
        (try simp only [Act.put, List.getElem_toArray, List.getElem_cons_succ, List.getElem_cons_zero, List.setIfInBounds_toArray, List.set_cons_succ, List.set_cons_zero])
        refine HeadAt.take (i := 6) (.agg #[.slice ab X.bs.length cb, .slice ast X.st.length cs, .slice ae X.er.length ce, .slice ak X.ks.length ck, .int .i64 X.ch, .int .u8 (p.a : Int), .int .u8 (p.b : Int), .int .u8 (p.c : Int), .int .u8 (q.a : Int), .int .u8 (q.b : Int), .int .u8 (q.c : Int)]) rfl (by kernel_rfl) (.inl ⟨rfl, fun _ _ => by simp [go_sem]⟩) S0 ?_
        (try simp only [Act.put, List.getElem_toArray, List.getElem_cons_succ, List.getElem_cons_zero, List.setIfInBounds_toArray, List.set_cons_succ, List.set_cons_zero])
        refine HeadAt.take (i := 7) (.int .i64 0) rfl (by kernel_rfl) (.inl ⟨rfl, fun _ _ => by simp [go_sem]⟩) S0 ?_
        (try simp only [Act.put, List.getElem_toArray, List.getElem_cons_succ, List.getElem_cons_zero, List.setIfInBounds_toArray, List.set_cons_succ, List.set_cons_zero])
        refine HeadAt.one (i := 9) rfl (by kernel_rfl) ?_
        generalize hK : Upto _ _ = K0
        (try simp only [Act.put, List.getElem_toArray, List.getElem_cons_succ, List.getElem_cons_zero, List.setIfInBounds_toArray, List.set_cons_succ, List.set_cons_zero])
        have d0 := xg.cell 0 rfl; have d1 := xg.cell 1 rfl; have d2 := xg.cell 2 rfl; have d3 := xg.cell 3 rfl; have d4 := xg.cell 4 rfl; have d5 := xg.cell 5 rfl; have d6 := xg.cell 6 rfl; have d7 := xg.cell 7 rfl; have d8 := xg.cell 8 rfl; have d9 := xg.cell 9 rfl; have d10 := xg.cell 10 rfl
        have f0 := xg.free 0; have f1 := xg.free 1; have f2 := xg.free 2; have f3 := xg.free 3; have f4 := xg.free 4; have f5 := xg.free 5; have f6 := xg.free 6; have f7 := xg.free 7; have f8 := xg.free 8; have f9 := xg.free 9; have f10 := xg.free 10
        have xg' := xg.set11 (.slice ab X.bs.length cb) (.slice ast X.st.length cs) (.slice ae X.er.length ce) (.slice ak X.ks.length ck) (.int .i64 X.ch) (.int .u8 (p.a : Int)) (.int .u8 (p.b : Int)) (.int .u8 (p.c : Int)) (.int .u8 (q.a : Int)) (.int .u8 (q.b : Int)) (.int .u8 (q.c : Int))
        have hb' := below_put11 hbw (b := g) (by omega) (.slice ab X.bs.length cb) (.slice ast X.st.length cs) (.slice ae X.er.length ce) (.slice ak X.ks.length ck) (.int .i64 X.ch) (.int .u8 (p.a : Int)) (.int .u8 (p.b : Int)) (.int .u8 (p.c : Int)) (.int .u8 (q.a : Int)) (.int .u8 (q.b : Int)) (.int .u8 (q.c : Int))
        have S1 := S0.other11 (b := g) (by omega) (.slice ab X.bs.length cb) (.slice ast X.st.length cs) (.slice ae X.er.length ce) (.slice ak X.ks.length ck) (.int .i64 X.ch) (.int .u8 (p.a : Int)) (.int .u8 (p.b : Int)) (.int .u8 (p.c : Int)) (.int .u8 (q.a : Int)) (.int .u8 (q.b : Int)) (.int .u8 (q.c : Int))
        have HY := hid (And.intro hgs (And.intro xg' (And.intro S1 hb')))
        clear xg' hb' S1
        go_wp2_with fail
        subst hK
        obtain ⟨_, xg', S1, hb'⟩ := HY.out
        refine ⟨S1, ?_⟩
        generalize World.setCell _ _ _ = YY at *
        refine HeadAt.done (by kernel_rfl) ?_
        (try simp only [Act.put, List.drop_succ_cons, List.drop_zero, List.getElem_toArray, List.getElem_cons_succ, List.getElem_cons_zero])
        go_wp2_with fail
        refine NoPanic.normal ?_
        go_wp2_with fail
        go_meet
        exact ⟨g, rfl, rfl, hgs, xg', S1, hb'⟩
    · skip
      generalize hK : Upto _ _ = K0
      (try simp only [Act.put, List.getElem_toArray, List.getElem_cons_succ, List.getElem_cons_zero, List.setIfInBounds_toArray, List.set_cons_succ, List.set_cons_zero])
      have hb1 := below_one (w := Y0) (.cells #[.slice none 0 0, .slice none 0 0, .slice none 0 0, .slice none 0 0, .int .i64 0, .int .u8 0, .int .u8 0, .int .u8 0, .int .u8 0, .int .u8 0, .int .u8 0] 72)
      have HX := hid (And.intro (S0.below hb1) (And.intro (hbw.trans (hb1.mono hbw.size)) (Bx.new Y0 #[.slice none 0 0, .slice none 0 0, .slice none 0 0, .slice none 0 0, .int .i64 0, .int .u8 0, .int .u8 0, .int .u8 0, .int .u8 0, .int .u8 0, .int .u8 0] 72)))
      clear hb1
      go_wp2_with fail
      subst hK
      obtain ⟨S1, hbw', xg⟩ := HX.out
      refine ⟨S1, ?_⟩
      (try simp only [Act.put, List.getElem_toArray, List.getElem_cons_succ, List.getElem_cons_zero, List.setIfInBounds_toArray, List.set_cons_succ, List.set_cons_zero])
      obtain ⟨g, hg⟩ : ∃ g, g = Y0.heap.size := ⟨_, rfl⟩
      have hgs : w.heap.size < g := by have := S0.lt; omega
      rw [← hg] at xg ⊢
      clear hg HX S0 hbw
      have S0 := S1
      have hbw := hbw'
      clear S1 hbw'
      generalize Y0.alloc _ = Y1 at *
      obtain ⟨Y0, rfl⟩ : ∃ Y : World, Y = Y1 := ⟨_, rfl⟩
      refine HeadAt.one (i := 3) rfl (by kernel_rfl) ?_
      generalize hK : Upto _ _ = K0
      (try simp only [Act.put, List.getElem_toArray, List.getElem_cons_succ, List.getElem_cons_zero, List.setIfInBounds_toArray, List.set_cons_succ, List.set_cons_zero])
      go_wp2_with fail
      refine (hip _).mono ?_
      rintro e V1 ⟨rfl, hb1⟩
      replace S0 := S0.below hb1
      replace xg := xg.below hb1
      replace hbw := hbw.trans (hb1.mono hbw.size)
      clear hb1
      go_wp2_with fail
      subst hK
      refine ⟨S0, ?_⟩
      (try simp only [Act.put, List.getElem_toArray, List.getElem_cons_succ, List.getElem_cons_zero, List.setIfInBounds_toArray, List.set_cons_succ, List.set_cons_zero])
      obtain ⟨Y0, rfl⟩ : ∃ Y : World, Y = V1 := ⟨_, rfl⟩
      refine HeadAt.one (i := 4) rfl (by kernel_rfl) ?_
      generalize hK : Upto _ _ = K0
      (try simp only [Act.put, List.getElem_toArray, List.getElem_cons_succ, List.getElem_cons_zero, List.setIfInBounds_toArray, List.set_cons_succ, List.set_cons_zero])
      go_wp2_with fail
      refine (hvo _ (hgX _ hbw)).mono ?_
      rintro e V1 ⟨rfl, hb1⟩
      replace S0 := S0.below hb1
      replace xg := xg.below hb1
      replace hbw := hbw.trans (hb1.mono hbw.size)
      clear hb1
      go_wp2_with fail
      subst hK
      refine ⟨S0, ?_⟩
      (try simp only [Act.put, List.getElem_toArray, List.getElem_cons_succ, List.getElem_cons_zero, List.setIfInBounds_toArray, List.set_cons_succ, List.set_cons_zero])
      obtain ⟨Y0, rfl⟩ : ∃ Y : World, Y = V1 := ⟨_, rfl⟩
      refine HeadAt.take (i := 5) (.tuple #[.agg #[.slice ab X.bs.length cb, .slice ast X.st.length cs, .slice ae X.er.length ce, .slice ak X.ks.length ck, .int .i64 X.ch, .int .u8 (p.a : Int), .int .u8 (p.b : Int), .int .u8 (p.c : Int), .int .u8 (q.a : Int), .int .u8 (q.b : Int), .int .u8 (q.c : Int)], .int .i64 0]) rfl (by kernel_rfl) (.inl ⟨rfl, fun _ _ => by simp [go_sem]⟩) S0 ?_
      (try simp only [Act.put, List.getElem_toArray, List.getElem_cons_succ, List.getElem_cons_zero, List.setIfInBounds_toArray, List.set_cons_succ, List.set_cons_zero])
      refine HeadAt.take (i := 6) (.agg #[.slice ab X.bs.length cb, .slice ast X.st.length cs, .slice ae X.er.length ce, .slice ak X.ks.length ck, .int .i64 X.ch, .int .u8 (p.a : Int), .int .u8 (p.b : Int), .int .u8 (p.c : Int), .int .u8 (q.a : Int), .int .u8 (q.b : Int), .int .u8 (q.c : Int)]) rfl (by kernel_rfl) (.inl ⟨rfl, fun _ _ => by simp [go_sem]⟩) S0 ?_
      (try simp only [Act.put, List.getElem_toArray, List.getElem_cons_succ, List.getElem_cons_zero, List.setIfInBounds_toArray, List.set_cons_succ, List.set_cons_zero])
      refine HeadAt.take (i := 7) (.int .i64 0) rfl (by kernel_rfl) (.inl ⟨rfl, fun _ _ => by simp [go_sem]⟩) S0 ?_
      (try simp only [Act.put, List.getElem_toArray, List.getElem_cons_succ, List.getElem_cons_zero, List.setIfInBounds_toArray, List.set_cons_succ, List.set_cons_zero])
      refine HeadAt.one (i := 9) rfl (by kernel_rfl) ?_
      generalize hK : Upto _ _ = K0
      (try simp only [Act.put, List.getElem_toArray, List.getElem_cons_succ, List.getElem_cons_zero, List.setIfInBounds_toArray, List.set_cons_succ, List.set_cons_zero])
      have d0 := xg.cell 0 rfl; have d1 := xg.cell 1 rfl; have d2 := xg.cell 2 rfl; have d3 := xg.cell 3 rfl; have d4 := xg.cell 4 rfl; have d5 := xg.cell 5 rfl; have d6 := xg.cell 6 rfl; have d7 := xg.cell 7 rfl; have d8 := xg.cell 8 rfl; have d9 := xg.cell 9 rfl; have d10 := xg.cell 10 rfl
      have f0 := xg.free 0; have f1 := xg.free 1; have f2 := xg.free 2; have f3 := xg.free 3; have f4 := xg.free 4; have f5 := xg.free 5; have f6 := xg.free 6; have f7 := xg.free 7; have f8 := xg.free 8; have f9 := xg.free 9; have f10 := xg.free 10
      have xg' := xg.set11 (.slice ab X.bs.length cb) (.slice ast X.st.length cs) (.slice ae X.er.length ce) (.slice ak X.ks.length ck) (.int .i64 X.ch) (.int .u8 (p.a : Int)) (.int .u8 (p.b : Int)) (.int .u8 (p.c : Int)) (.int .u8 (q.a : Int)) (.int .u8 (q.b : Int)) (.int .u8 (q.c : Int))
      have hb' := below_put11 hbw (b := g) (by omega) (.slice ab X.bs.length cb) (.slice ast X.st.length cs) (.slice ae X.er.length ce) (.slice ak X.ks.length ck) (.int .i64 X.ch) (.int .u8 (p.a : Int)) (.int .u8 (p.b : Int)) (.int .u8 (p.c : Int)) (.int .u8 (q.a : Int)) (.int .u8 (q.b : Int)) (.int .u8 (q.c : Int))
      have S1 := S0.other11 (b := g) (by omega) (.slice ab X.bs.length cb) (.slice ast X.st.length cs) (.slice ae X.er.length ce) (.slice ak X.ks.length ck) (.int .i64 X.ch) (.int .u8 (p.a : Int)) (.int .u8 (p.b : Int)) (.int .u8 (p.c : Int)) (.int .u8 (q.a : Int)) (.int .u8 (q.b : Int)) (.int .u8 (q.c : Int))
      have HY := hid (And.intro hgs (And.intro xg' (And.intro S1 hb')))
      clear xg' hb' S1
      go_wp2_with fail
      subst hK
      obtain ⟨_, xg', S1, hb'⟩ := HY.out
      refine ⟨S1, ?_⟩
      generalize World.setCell _ _ _ = YY at *
      refine HeadAt.done (by kernel_rfl) ?_
      (try simp only [Act.put, List.drop_succ_cons, List.drop_zero, List.getElem_toArray, List.getElem_cons_succ, List.getElem_cons_zero])
      go_wp2_with fail
      refine NoPanic.normal ?_
      go_wp2_with fail
      go_meet
      exact ⟨g, rfl, rfl, hgs, xg', S1, hb'⟩
  case rest =>
    clear hbw x0
    obtain ⟨g, rfl, rfl, hg, xg, x0, hb⟩ := hcut
    rename_i wc
    clear x0 hvo hgX hip
    go_upto_region 4 with fail
    obtain ⟨hwr, hwc, hbe, hbc⟩ := HB.out
    clear HB
    have hbd := (Below.refl wc.heap.size wc).drew
    have S0 := xg.below hbd
    replace hb := hb.trans (hbd.mono hb.size)
    clear hbd xg
    refine wp_region_head 7 (fun w' => Bx w' g #[.slice ab X.bs.length cb, .slice ast X.st.length cs, .slice ae X.er.length ce, .slice ak X.ks.length ck, .int .i64 X.ch, .int .u8 (p.a : Int), .int .u8 (p.b : Int), .int .u8 (p.c : Int), .int .u8 (q.a : Int), .int .u8 (q.b : Int), .int .u8 (q.c : Int)] 72) (by kernel_rfl) rfl ?_
    generalize wc.drew = Y0 at *
    refine HeadAt.take (i := 0) (.agg #[.slice ab X.bs.length cb, .slice ast X.st.length cs, .slice ae X.er.length ce, .slice ak X.ks.length ck, .int .i64 X.ch, .int .u8 (p.a : Int), .int .u8 (p.b : Int), .int .u8 (p.c : Int), .int .u8 (q.a : Int), .int .u8 (q.b : Int), .int .u8 (q.c : Int)]) rfl (by kernel_rfl) (.inl ⟨rfl, fun w' z => ?_⟩) S0 ?_
    · (have z0 := z.cell 0 rfl; have z1 := z.cell 1 rfl; have z2 := z.cell 2 rfl; have z3 := z.cell 3 rfl; have z4 := z.cell 4 rfl; have z5 := z.cell 5 rfl; have z6 := z.cell 6 rfl; have z7 := z.cell 7 rfl; have z8 := z.cell 8 rfl; have z9 := z.cell 9 rfl; have z10 := z.cell 10 rfl; simp [go_sem, z0, z1, z2, z3, z4, z5, z6, z7, z8, z9, z10])
    refine HeadAt.take (i := 1) (.int .i64 (i : Int)) rfl (by kernel_rfl) (.inl ⟨rfl, fun _ _ => by simp [go_sem]⟩) S0 ?_
    refine HeadAt.take (i := 4) (.agg #[.slice ab X.bs.length cb, .slice ast X.st.length cs, .slice ae X.er.length ce, .slice ak X.ks.length ck, .int .i64 X.ch, .int .u8 (p.a : Int), .int .u8 (p.b : Int), .int .u8 (p.c : Int), .int .u8 (q.a : Int), .int .u8 (q.b : Int), .int .u8 (q.c : Int)]) rfl (by kernel_rfl) (.inl ⟨rfl, fun w' z => ?_⟩) S0 ?_
    · (have z0 := z.cell 0 rfl; have z1 := z.cell 1 rfl; have z2 := z.cell 2 rfl; have z3 := z.cell 3 rfl; have z4 := z.cell 4 rfl; have z5 := z.cell 5 rfl; have z6 := z.cell 6 rfl; have z7 := z.cell 7 rfl; have z8 := z.cell 8 rfl; have z9 := z.cell 9 rfl; have z10 := z.cell 10 rfl; simp [go_sem, z0, z1, z2, z3, z4, z5, z6, z7, z8, z9, z10])
    (try simp only [Act.put, List.getElem_toArray, List.getElem_cons_succ, List.getElem_cons_zero, List.setIfInBounds_toArray, List.set_cons_succ, List.set_cons_zero])
    refine HeadAt.one (i := 2) rfl (by kernel_rfl) ?_
    generalize hK : Upto _ _ = K0
    (try simp only [Act.put, List.getElem_toArray, List.getElem_cons_succ, List.getElem_cons_zero, List.setIfInBounds_toArray, List.set_cons_succ, List.set_cons_zero])
    go_wp2_with fail
    refine (hwc _ hb).mono ?_
    rintro e V1 ⟨g1, c1, rfl, hI, hb1⟩
    replace S0 := S0.below hb1
    replace hb := hb.trans (hb1.mono hb.size)
    clear hb1 hwc
    go_wp2_with fail
    subst hK
    refine ⟨S0, ?_⟩
    (try simp only [Act.put, List.getElem_toArray, List.getElem_cons_succ, List.getElem_cons_zero, List.setIfInBounds_toArray, List.set_cons_succ, List.set_cons_zero])
    refine HeadAt.one (i := 3) rfl (by kernel_rfl) ?_
    generalize hK : Upto _ _ = K0
    (try simp only [Act.put, List.getElem_toArray, List.getElem_cons_succ, List.getElem_cons_zero, List.setIfInBounds_toArray, List.set_cons_succ, List.set_cons_zero])
    go_wp2_with fail
    refine (hbc g1 c1 _ hb hI).mono ?_
    rintro e V2 ⟨rfl, hb1⟩
    replace S0 := S0.below hb1
    replace hb := hb.trans (hb1.mono hb.size)
    clear hb1 hbc hI
    go_wp2_with fail
    subst hK
    refine ⟨S0, ?_⟩
    (try simp only [Act.put, List.getElem_toArray, List.getElem_cons_succ, List.getElem_cons_zero, List.setIfInBounds_toArray, List.set_cons_succ, List.set_cons_zero])
    refine HeadAt.one (i := 5) rfl (by kernel_rfl) ?_
    generalize hK : Upto _ _ = K0
    (try simp only [Act.put, List.getElem_toArray, List.getElem_cons_succ, List.getElem_cons_zero, List.setIfInBounds_toArray, List.set_cons_succ, List.set_cons_zero])
    go_wp2_with fail
    refine (hbe _ hb).mono ?_
    rintro e V3 ⟨rfl, hb1⟩
    replace S0 := S0.below hb1
    replace hb := hb.trans (hb1.mono hb.size)
    clear hb1 hbe
    go_wp2_with fail
    subst hK
    refine ⟨S0, ?_⟩
    (try simp only [Act.put, List.getElem_toArray, List.getElem_cons_succ, List.getElem_cons_zero, List.setIfInBounds_toArray, List.set_cons_succ, List.set_cons_zero])
    refine HeadAt.take (i := 6) (.int .i64 (b1 - b0)) rfl (by kernel_rfl) (.inl ⟨rfl, fun _ _ => by simp [go_sem, hwr]⟩) S0 ?_
    refine HeadAt.done (by kernel_rfl) ?_
    (try simp only [Act.put, List.drop_succ_cons, List.drop_zero, List.getElem_toArray, List.getElem_cons_succ, List.getElem_cons_zero])
    clear S0
    go_wp2_with fail
    refine NoPanic.normal ?_
    go_wp2
    go_ret2
    exact ⟨rfl, hb⟩
end Go.Proofs.Ytipdohpbilabiaa
