import Derived.Test.YtmkmnedojgigoaaA9
import Derived.Test.YtmkmnedojgigoaaB2
namespace Go.Proofs.Ytmkmnedojgigoaa
open Go.RowKit


set_option maxRecDepth 100000 in
set_option maxHeartbeats 1000000 in
theorem next_0 (R : Nat) (an ac ap : Option Addr) (cn cc cp : Nat) (N C P : List Int) (F : Value) (mb : Nat) (b0 b1 b2 b3 p c : Nat) (w : World) (hk : Wk w R an ac ap N C P) (hp : p < R) (hc : c ≤ 12) (h0 : b0 ≤ 12) (h1 : b1 ≤ 12) (h2 : b2 ≤ 12) (h3 : b3 ≤ 12) (hb : 0 < b0) (hlt : 0 < C.length) :
    Calls Try.prog 104 #[.agg #[.int .i64 (R : Int), .slice an N.length cn, .slice ac C.length cc, .slice ap P.length cp, F, .map (some mb)], .agg #[.int .i64 b0, .int .i64 b1, .int .i64 b2, .int .i64 b3, .int .i64 p, .int .i64 c], .int .i64 0] w fun e w' =>
      e = .returned (.tuple #[.agg #[.int .i64 (b0 - 1 : Nat), .int .i64 (b1 : Nat), .int .i64 (b2 : Nat), .int .i64 (b3 : Nat), .int .i64 ((p + cw C 0) % R : Nat), .int .i64 (min (c + gv R N p (cw C 0)) (b0 - 1 + (b1) + (b2) + (b3)) : Nat)], .int .i64 (gv R N p (cw C 0))]) ∧ Below w.heap.size w w' := by
  have r2 := hk.v.r2
  obtain ⟨_, q1, q2⟩ := hk.v.coin hlt
  have hg := gv_le hk.v p (cw C 0)
  obtain ⟨W, hW, hbw, hs, x0, x1, x2⟩ := boxes3 w #[.int .i64 (R : Int), .slice an N.length cn, .slice ac C.length cc, .slice ap P.length cp, F, .map (some mb)] 90 #[.int .i64 b0, .int .i64 b1, .int .i64 b2, .int .i64 b3, .int .i64 p, .int .i64 c] 121 #[.int .i64 0, .int .i64 0, .int .i64 0, .int .i64 0, .int .i64 0, .int .i64 0] 121
  have Hs := hid hs; clear hs
  replace hk := hk.below hbw (Nat.le_refl _)
  have c0 := x0.cell 0 rfl; have c1 := x0.cell 1 rfl; have c2 := x0.cell 2 rfl; have c3 := x0.cell 3 rfl; have c4 := x0.cell 4 rfl; have c5 := x0.cell 5 rfl; have d0 := x1.cell 0 rfl; have d1 := x1.cell 1 rfl; have d2 := x1.cell 2 rfl; have d3 := x1.cell 3 rfl; have d4 := x1.cell 4 rfl; have d5 := x1.cell 5 rfl
  go_enter Try.func104, Try.ntmps104
  go_wp2_with fail
  refine (do_kind _ _ _ _ _ _ _ _ _ _ p c 0 _ hk hp (by omega) hlt).mono ?_
  rintro e W1 ⟨rfl, hb1⟩
  clear hW c0 c1 c2 c3 c4 c5
  (try clear d0 d1 d2 d3 d4 d5); replace x1 := x1.below hb1; have d0 := x1.cell 0 rfl; have d1 := x1.cell 1 rfl; have d2 := x1.cell 2 rfl; have d3 := x1.cell 3 rfl; have d4 := x1.cell 4 rfl; have d5 := x1.cell 5 rfl; (try clear g0 g1 g2 g3 g4 g5); replace x2 := x2.below hb1; have g0 := x2.cell 0 rfl; have g1 := x2.cell 1 rfl; have g2 := x2.cell 2 rfl; have g3 := x2.cell 3 rfl; have g4 := x2.cell 4 rfl; have g5 := x2.cell 5 rfl; (try clear f0 f1 f2 f3 f4 f5); have f0 := x2.free 0; have f1 := x2.free 1; have f2 := x2.free 2; have f3 := x2.free 3; have f4 := x2.free 4; have f5 := x2.free 5; replace hbw := hbw.trans (hb1.mono hbw.size); clear hb1
  have l1 := x1.lt
  have l2 := x2.lt
  go_wp2_with fail
  generalize hX : World.alloc _ _ = W2
  have y2 : Bx W2 (w.heap.size + 1 + 1) #[.int .i64 (b0 - 1), .int .i64 (b1), .int .i64 (b2), .int .i64 (b3), .int .i64 (((p : Int) + (cw C 0 : Int)) % (R : Int)), .int .i64 ((c : Int) + (gv R N p (cw C 0) : Int))] 121 := by
    rw [← hX]
    exact (Bx.put6_0 (Bx.set6 x2 _ _ _ _ _ _) _).alloc _
  have z2 : Bx W2 W1.heap.size #[.int .i64 (((p : Int) + (cw C 0 : Int)) % (R : Int)), .int .i64 ((c : Int) + (gv R N p (cw C 0) : Int))] 26 := by
    rw [← hX]
    exact Bx.new' (by simp) _ _
  have hb2 : Below w.heap.size w W2 := by
    rw [← hX]
    (repeat (first | with_reducible assumption | with_reducible refine Below.alloc ?_ (by simp; try omega) _ | with_reducible refine Below.setCell ?_ (by simp; try omega) _ | with_reducible refine below_drewN ?_ _ | with_reducible exact Below.refl _ _))
  clear hX x0 x1 x2 g0 g1 g2 g3 g4 g5 f0 f1 f2 f3 f4 f5 d0 d1 d2 d3 d4 d5 hk hbw l1 l2 Hs
  generalize W1.heap.size = h at *
  have d0 := y2.ext 0 rfl; have d1 := y2.ext 1 rfl; have d2 := y2.ext 2 rfl; have d3 := y2.ext 3 rfl; have d4 := y2.ext 4 rfl; have d5 := y2.ext 5 rfl; have e0 := z2.ext 0 rfl; have e1 := z2.ext 1 rfl
  obtain ⟨m, hm⟩ : ∃ m, m = (b0 - 1) + (b1) + (b2) + (b3) := ⟨_, rfl⟩
  have hcnt : ∀ w', Calls Try.prog 113 #[.agg #[.int .i64 (b0 - 1), .int .i64 (b1), .int .i64 (b2), .int .i64 (b3)]] w' fun e w'' => e = .returned (.int .i64 (m : Nat)) ∧ Below w'.heap.size w' w'' := fun w' => by
    rw [hm]
    have := count_any (b0 - 1) (b1) (b2) (b3) w' (by omega) (by omega) (by omega) (by omega)
    rwa [show ((b0 - 1 : Nat) : Int) = (b0 : Int) - 1 by omega] at this
  have Hc := hid hcnt; have Hm := hid hm; clear hcnt hm
  rcases Nat.lt_or_ge m (c + gv R N p (cw C 0)) with hmin | hmin
  rotate_left
  · have hI : (c : Int) + (gv R N p (cw C 0) : Int) ≤ (m : Int) := by omega
    refine wp_region_ext_tail 8 (by kernel_rfl) (by kernel_rfl) ?_
    simp only [List.take_succ_cons, List.take_zero, List.drop_succ_cons, List.drop_zero]
    repeat (quiet_step (first | (go_at_call 113; exact quiet_ext (Hc.out _))))
    refine wpQuiet_nil ?_
    intro _ hw'
    obtain ⟨t, rfl⟩ := hw'
    have y3 := y2.below t.below
    replace hb2 := hb2.trans (t.below.mono hb2.size)
    clear d0 d1 d2 d3 d4 d5 e0 e1 y2 z2 Hc
    generalize t.w = W3 at *
    have d0 := y3.cell 0 rfl; have d1 := y3.cell 1 rfl; have d2 := y3.cell 2 rfl; have d3 := y3.cell 3 rfl; have d4 := y3.cell 4 rfl; have d5 := y3.cell 5 rfl; have f0 := y3.free 0; have f1 := y3.free 1; have f2 := y3.free 2; have f3 := y3.free 3; have f4 := y3.free 4; have f5 := y3.free 5
    go_wp2
    refine bodyPost_ret (v := .tuple #[.agg #[.int .i64 (b0 - 1 : Nat), .int .i64 (b1 : Nat), .int .i64 (b2 : Nat), .int .i64 (b3 : Nat), .int .i64 ((p + cw C 0) % R : Nat), .int .i64 (min (c + gv R N p (cw C 0)) (b0 - 1 + (b1) + (b2) + (b3)) : Nat)], .int .i64 (gv R N p (cw C 0))]) ?_ rfl ⟨by simp, ?_⟩
    · have y4 := Bx.set6 (Bx.put6_5 y3 (.int .i64 ((c : Int) + (gv R N p (cw C 0) : Int)))) (.int .i64 (b0 - 1)) (.int .i64 (b1)) (.int .i64 (b2)) (.int .i64 (b3)) (.int .i64 (((p : Int) + (cw C 0 : Int)) % (R : Int))) (.int .i64 ((c : Int) + (gv R N p (cw C 0) : Int)))
      clear d0 d1 d2 d3 d4 d5 f0 f1 f2 f3 f4 f5
      have d0 := y4.cell 0 rfl; have d1 := y4.cell 1 rfl; have d2 := y4.cell 2 rfl; have d3 := y4.cell 3 rfl; have d4 := y4.cell 4 rfl; have d5 := y4.cell 5 rfl
      have hv1 : (min (c + gv R N p (cw C 0)) (b0 - 1 + (b1) + (b2) + (b3)) : Nat) = c + gv R N p (cw C 0) := by rw [← Hm.out]; omega
      have hv2 : ((b0 - 1 : Nat) : Int) = (b0 : Int) - 1 := by omega
      rw [hv1]
      simp [results, Try.results104, go_sem, d0, d1, d2, d3, d4, d5, hv2]
      try omega
    · (repeat (first | with_reducible assumption | with_reducible refine Below.alloc ?_ (by simp; try omega) _ | with_reducible refine Below.setCell ?_ (by simp; try omega) _ | with_reducible refine below_drewN ?_ _ | with_reducible exact Below.refl _ _))
  · have hI : (m : Int) < (c : Int) + (gv R N p (cw C 0) : Int) := by omega
    refine wp_region_ext_tail 8 (by kernel_rfl) (by kernel_rfl) ?_
    simp only [List.take_succ_cons, List.take_zero, List.drop_succ_cons, List.drop_zero]
    repeat (quiet_step (first | (go_at_call 113; exact quiet_ext (Hc.out _))))
    refine wpQuiet_nil ?_
    intro _ hw'
    obtain ⟨t, rfl⟩ := hw'
    have y3 := y2.below t.below
    replace hb2 := hb2.trans (t.below.mono hb2.size)
    clear d0 d1 d2 d3 d4 d5 e0 e1 y2 z2 Hc
    generalize t.w = W3 at *
    have d0 := y3.cell 0 rfl; have d1 := y3.cell 1 rfl; have d2 := y3.cell 2 rfl; have d3 := y3.cell 3 rfl; have d4 := y3.cell 4 rfl; have d5 := y3.cell 5 rfl; have f0 := y3.free 0; have f1 := y3.free 1; have f2 := y3.free 2; have f3 := y3.free 3; have f4 := y3.free 4; have f5 := y3.free 5
    go_wp2
    refine bodyPost_ret (v := .tuple #[.agg #[.int .i64 (b0 - 1 : Nat), .int .i64 (b1 : Nat), .int .i64 (b2 : Nat), .int .i64 (b3 : Nat), .int .i64 ((p + cw C 0) % R : Nat), .int .i64 (min (c + gv R N p (cw C 0)) (b0 - 1 + (b1) + (b2) + (b3)) : Nat)], .int .i64 (gv R N p (cw C 0))]) ?_ rfl ⟨by simp, ?_⟩
    · have y4 := Bx.set6 (Bx.put6_5 y3 (.int .i64 ((m : Int)))) (.int .i64 (b0 - 1)) (.int .i64 (b1)) (.int .i64 (b2)) (.int .i64 (b3)) (.int .i64 (((p : Int) + (cw C 0 : Int)) % (R : Int))) (.int .i64 ((m : Int)))
      clear d0 d1 d2 d3 d4 d5 f0 f1 f2 f3 f4 f5
      have d0 := y4.cell 0 rfl; have d1 := y4.cell 1 rfl; have d2 := y4.cell 2 rfl; have d3 := y4.cell 3 rfl; have d4 := y4.cell 4 rfl; have d5 := y4.cell 5 rfl
      have hv1 : (min (c + gv R N p (cw C 0)) (b0 - 1 + (b1) + (b2) + (b3)) : Nat) = m := by rw [← Hm.out]; omega
      have hv2 : ((b0 - 1 : Nat) : Int) = (b0 : Int) - 1 := by omega
      rw [hv1]
      simp [results, Try.results104, go_sem, d0, d1, d2, d3, d4, d5, hv2]
      try omega
    · (repeat (first | with_reducible assumption | with_reducible refine Below.alloc ?_ (by simp; try omega) _ | with_reducible refine Below.setCell ?_ (by simp; try omega) _ | with_reducible refine below_drewN ?_ _ | with_reducible exact Below.refl _ _))

set_option maxRecDepth 100000 in
set_option maxHeartbeats 1000000 in
theorem next_1 (R : Nat) (an ac ap : Option Addr) (cn cc cp : Nat) (N C P : List Int) (F : Value) (mb : Nat) (b0 b1 b2 b3 p c : Nat) (w : World) (hk : Wk w R an ac ap N C P) (hp : p < R) (hc : c ≤ 12) (h0 : b0 ≤ 12) (h1 : b1 ≤ 12) (h2 : b2 ≤ 12) (h3 : b3 ≤ 12) (hb : 0 < b1) (hlt : 1 < C.length) :
    Calls Try.prog 104 #[.agg #[.int .i64 (R : Int), .slice an N.length cn, .slice ac C.length cc, .slice ap P.length cp, F, .map (some mb)], .agg #[.int .i64 b0, .int .i64 b1, .int .i64 b2, .int .i64 b3, .int .i64 p, .int .i64 c], .int .i64 1] w fun e w' =>
      e = .returned (.tuple #[.agg #[.int .i64 (b0 : Nat), .int .i64 (b1 - 1 : Nat), .int .i64 (b2 : Nat), .int .i64 (b3 : Nat), .int .i64 ((p + cw C 1) % R : Nat), .int .i64 (min (c + gv R N p (cw C 1)) (b0 + (b1 - 1) + (b2) + (b3)) : Nat)], .int .i64 (gv R N p (cw C 1))]) ∧ Below w.heap.size w w' := by
  have r2 := hk.v.r2
  obtain ⟨_, q1, q2⟩ := hk.v.coin hlt
  have hg := gv_le hk.v p (cw C 1)
  obtain ⟨W, hW, hbw, hs, x0, x1, x2⟩ := boxes3 w #[.int .i64 (R : Int), .slice an N.length cn, .slice ac C.length cc, .slice ap P.length cp, F, .map (some mb)] 90 #[.int .i64 b0, .int .i64 b1, .int .i64 b2, .int .i64 b3, .int .i64 p, .int .i64 c] 121 #[.int .i64 0, .int .i64 0, .int .i64 0, .int .i64 0, .int .i64 0, .int .i64 0] 121
  have Hs := hid hs; clear hs
  replace hk := hk.below hbw (Nat.le_refl _)
  have c0 := x0.cell 0 rfl; have c1 := x0.cell 1 rfl; have c2 := x0.cell 2 rfl; have c3 := x0.cell 3 rfl; have c4 := x0.cell 4 rfl; have c5 := x0.cell 5 rfl; have d0 := x1.cell 0 rfl; have d1 := x1.cell 1 rfl; have d2 := x1.cell 2 rfl; have d3 := x1.cell 3 rfl; have d4 := x1.cell 4 rfl; have d5 := x1.cell 5 rfl
  go_enter Try.func104, Try.ntmps104
  go_wp2_with fail
  refine (do_kind _ _ _ _ _ _ _ _ _ _ p c 1 _ hk hp (by omega) hlt).mono ?_
  rintro e W1 ⟨rfl, hb1⟩
  clear hW c0 c1 c2 c3 c4 c5
  (try clear d0 d1 d2 d3 d4 d5); replace x1 := x1.below hb1; have d0 := x1.cell 0 rfl; have d1 := x1.cell 1 rfl; have d2 := x1.cell 2 rfl; have d3 := x1.cell 3 rfl; have d4 := x1.cell 4 rfl; have d5 := x1.cell 5 rfl; (try clear g0 g1 g2 g3 g4 g5); replace x2 := x2.below hb1; have g0 := x2.cell 0 rfl; have g1 := x2.cell 1 rfl; have g2 := x2.cell 2 rfl; have g3 := x2.cell 3 rfl; have g4 := x2.cell 4 rfl; have g5 := x2.cell 5 rfl; (try clear f0 f1 f2 f3 f4 f5); have f0 := x2.free 0; have f1 := x2.free 1; have f2 := x2.free 2; have f3 := x2.free 3; have f4 := x2.free 4; have f5 := x2.free 5; replace hbw := hbw.trans (hb1.mono hbw.size); clear hb1
  have l1 := x1.lt
  have l2 := x2.lt
  go_wp2_with fail
  generalize hX : World.alloc _ _ = W2
  have y2 : Bx W2 (w.heap.size + 1 + 1) #[.int .i64 (b0), .int .i64 (b1 - 1), .int .i64 (b2), .int .i64 (b3), .int .i64 (((p : Int) + (cw C 1 : Int)) % (R : Int)), .int .i64 ((c : Int) + (gv R N p (cw C 1) : Int))] 121 := by
    rw [← hX]
    exact (Bx.put6_1 (Bx.set6 x2 _ _ _ _ _ _) _).alloc _
  have z2 : Bx W2 W1.heap.size #[.int .i64 (((p : Int) + (cw C 1 : Int)) % (R : Int)), .int .i64 ((c : Int) + (gv R N p (cw C 1) : Int))] 26 := by
    rw [← hX]
    exact Bx.new' (by simp) _ _
  have hb2 : Below w.heap.size w W2 := by
    rw [← hX]
    (repeat (first | with_reducible assumption | with_reducible refine Below.alloc ?_ (by simp; try omega) _ | with_reducible refine Below.setCell ?_ (by simp; try omega) _ | with_reducible refine below_drewN ?_ _ | with_reducible exact Below.refl _ _))
  clear hX x0 x1 x2 g0 g1 g2 g3 g4 g5 f0 f1 f2 f3 f4 f5 d0 d1 d2 d3 d4 d5 hk hbw l1 l2 Hs
  generalize W1.heap.size = h at *
  have d0 := y2.ext 0 rfl; have d1 := y2.ext 1 rfl; have d2 := y2.ext 2 rfl; have d3 := y2.ext 3 rfl; have d4 := y2.ext 4 rfl; have d5 := y2.ext 5 rfl; have e0 := z2.ext 0 rfl; have e1 := z2.ext 1 rfl
  obtain ⟨m, hm⟩ : ∃ m, m = (b0) + (b1 - 1) + (b2) + (b3) := ⟨_, rfl⟩
  have hcnt : ∀ w', Calls Try.prog 113 #[.agg #[.int .i64 (b0), .int .i64 (b1 - 1), .int .i64 (b2), .int .i64 (b3)]] w' fun e w'' => e = .returned (.int .i64 (m : Nat)) ∧ Below w'.heap.size w' w'' := fun w' => by
    rw [hm]
    have := count_any (b0) (b1 - 1) (b2) (b3) w' (by omega) (by omega) (by omega) (by omega)
    rwa [show ((b1 - 1 : Nat) : Int) = (b1 : Int) - 1 by omega] at this
  have Hc := hid hcnt; have Hm := hid hm; clear hcnt hm
  rcases Nat.lt_or_ge m (c + gv R N p (cw C 1)) with hmin | hmin
  rotate_left
  · have hI : (c : Int) + (gv R N p (cw C 1) : Int) ≤ (m : Int) := by omega
    refine wp_region_ext_tail 8 (by kernel_rfl) (by kernel_rfl) ?_
    simp only [List.take_succ_cons, List.take_zero, List.drop_succ_cons, List.drop_zero]
    repeat (quiet_step (first | (go_at_call 113; exact quiet_ext (Hc.out _))))
    refine wpQuiet_nil ?_
    intro _ hw'
    obtain ⟨t, rfl⟩ := hw'
    have y3 := y2.below t.below
    replace hb2 := hb2.trans (t.below.mono hb2.size)
    clear d0 d1 d2 d3 d4 d5 e0 e1 y2 z2 Hc
    generalize t.w = W3 at *
    have d0 := y3.cell 0 rfl; have d1 := y3.cell 1 rfl; have d2 := y3.cell 2 rfl; have d3 := y3.cell 3 rfl; have d4 := y3.cell 4 rfl; have d5 := y3.cell 5 rfl; have f0 := y3.free 0; have f1 := y3.free 1; have f2 := y3.free 2; have f3 := y3.free 3; have f4 := y3.free 4; have f5 := y3.free 5
    go_wp2
    refine bodyPost_ret (v := .tuple #[.agg #[.int .i64 (b0 : Nat), .int .i64 (b1 - 1 : Nat), .int .i64 (b2 : Nat), .int .i64 (b3 : Nat), .int .i64 ((p + cw C 1) % R : Nat), .int .i64 (min (c + gv R N p (cw C 1)) (b0 + (b1 - 1) + (b2) + (b3)) : Nat)], .int .i64 (gv R N p (cw C 1))]) ?_ rfl ⟨by simp, ?_⟩
    · have y4 := Bx.set6 (Bx.put6_5 y3 (.int .i64 ((c : Int) + (gv R N p (cw C 1) : Int)))) (.int .i64 (b0)) (.int .i64 (b1 - 1)) (.int .i64 (b2)) (.int .i64 (b3)) (.int .i64 (((p : Int) + (cw C 1 : Int)) % (R : Int))) (.int .i64 ((c : Int) + (gv R N p (cw C 1) : Int)))
      clear d0 d1 d2 d3 d4 d5 f0 f1 f2 f3 f4 f5
      have d0 := y4.cell 0 rfl; have d1 := y4.cell 1 rfl; have d2 := y4.cell 2 rfl; have d3 := y4.cell 3 rfl; have d4 := y4.cell 4 rfl; have d5 := y4.cell 5 rfl
      have hv1 : (min (c + gv R N p (cw C 1)) (b0 + (b1 - 1) + (b2) + (b3)) : Nat) = c + gv R N p (cw C 1) := by rw [← Hm.out]; omega
      have hv2 : ((b1 - 1 : Nat) : Int) = (b1 : Int) - 1 := by omega
      rw [hv1]
      simp [results, Try.results104, go_sem, d0, d1, d2, d3, d4, d5, hv2]
      try omega
    · (repeat (first | with_reducible assumption | with_reducible refine Below.alloc ?_ (by simp; try omega) _ | with_reducible refine Below.setCell ?_ (by simp; try omega) _ | with_reducible refine below_drewN ?_ _ | with_reducible exact Below.refl _ _))
  · have hI : (m : Int) < (c : Int) + (gv R N p (cw C 1) : Int) := by omega
    refine wp_region_ext_tail 8 (by kernel_rfl) (by kernel_rfl) ?_
    simp only [List.take_succ_cons, List.take_zero, List.drop_succ_cons, List.drop_zero]
    repeat (quiet_step (first | (go_at_call 113; exact quiet_ext (Hc.out _))))
    refine wpQuiet_nil ?_
    intro _ hw'
    obtain ⟨t, rfl⟩ := hw'
    have y3 := y2.below t.below
    replace hb2 := hb2.trans (t.below.mono hb2.size)
    clear d0 d1 d2 d3 d4 d5 e0 e1 y2 z2 Hc
    generalize t.w = W3 at *
    have d0 := y3.cell 0 rfl; have d1 := y3.cell 1 rfl; have d2 := y3.cell 2 rfl; have d3 := y3.cell 3 rfl; have d4 := y3.cell 4 rfl; have d5 := y3.cell 5 rfl; have f0 := y3.free 0; have f1 := y3.free 1; have f2 := y3.free 2; have f3 := y3.free 3; have f4 := y3.free 4; have f5 := y3.free 5
    go_wp2
    refine bodyPost_ret (v := .tuple #[.agg #[.int .i64 (b0 : Nat), .int .i64 (b1 - 1 : Nat), .int .i64 (b2 : Nat), .int .i64 (b3 : Nat), .int .i64 ((p + cw C 1) % R : Nat), .int .i64 (min (c + gv R N p (cw C 1)) (b0 + (b1 - 1) + (b2) + (b3)) : Nat)], .int .i64 (gv R N p (cw C 1))]) ?_ rfl ⟨by simp, ?_⟩
    · have y4 := Bx.set6 (Bx.put6_5 y3 (.int .i64 ((m : Int)))) (.int .i64 (b0)) (.int .i64 (b1 - 1)) (.int .i64 (b2)) (.int .i64 (b3)) (.int .i64 (((p : Int) + (cw C 1 : Int)) % (R : Int))) (.int .i64 ((m : Int)))
      clear d0 d1 d2 d3 d4 d5 f0 f1 f2 f3 f4 f5
      have d0 := y4.cell 0 rfl; have d1 := y4.cell 1 rfl; have d2 := y4.cell 2 rfl; have d3 := y4.cell 3 rfl; have d4 := y4.cell 4 rfl; have d5 := y4.cell 5 rfl
      have hv1 : (min (c + gv R N p (cw C 1)) (b0 + (b1 - 1) + (b2) + (b3)) : Nat) = m := by rw [← Hm.out]; omega
      have hv2 : ((b1 - 1 : Nat) : Int) = (b1 : Int) - 1 := by omega
      rw [hv1]
      simp [results, Try.results104, go_sem, d0, d1, d2, d3, d4, d5, hv2]
      try omega
    · (repeat (first | with_reducible assumption | with_reducible refine Below.alloc ?_ (by simp; try omega) _ | with_reducible refine Below.setCell ?_ (by simp; try omega) _ | with_reducible refine below_drewN ?_ _ | with_reducible exact Below.refl _ _))

set_option maxRecDepth 100000 in
set_option maxHeartbeats 1000000 in
theorem next_2 (R : Nat) (an ac ap : Option Addr) (cn cc cp : Nat) (N C P : List Int) (F : Value) (mb : Nat) (b0 b1 b2 b3 p c : Nat) (w : World) (hk : Wk w R an ac ap N C P) (hp : p < R) (hc : c ≤ 12) (h0 : b0 ≤ 12) (h1 : b1 ≤ 12) (h2 : b2 ≤ 12) (h3 : b3 ≤ 12) (hb : 0 < b2) (hlt : 2 < C.length) :
    Calls Try.prog 104 #[.agg #[.int .i64 (R : Int), .slice an N.length cn, .slice ac C.length cc, .slice ap P.length cp, F, .map (some mb)], .agg #[.int .i64 b0, .int .i64 b1, .int .i64 b2, .int .i64 b3, .int .i64 p, .int .i64 c], .int .i64 2] w fun e w' =>
      e = .returned (.tuple #[.agg #[.int .i64 (b0 : Nat), .int .i64 (b1 : Nat), .int .i64 (b2 - 1 : Nat), .int .i64 (b3 : Nat), .int .i64 ((p + cw C 2) % R : Nat), .int .i64 (min (c + gv R N p (cw C 2)) (b0 + (b1) + (b2 - 1) + (b3)) : Nat)], .int .i64 (gv R N p (cw C 2))]) ∧ Below w.heap.size w w' := by
  have r2 := hk.v.r2
  obtain ⟨_, q1, q2⟩ := hk.v.coin hlt
  have hg := gv_le hk.v p (cw C 2)
  obtain ⟨W, hW, hbw, hs, x0, x1, x2⟩ := boxes3 w #[.int .i64 (R : Int), .slice an N.length cn, .slice ac C.length cc, .slice ap P.length cp, F, .map (some mb)] 90 #[.int .i64 b0, .int .i64 b1, .int .i64 b2, .int .i64 b3, .int .i64 p, .int .i64 c] 121 #[.int .i64 0, .int .i64 0, .int .i64 0, .int .i64 0, .int .i64 0, .int .i64 0] 121
  have Hs := hid hs; clear hs
  replace hk := hk.below hbw (Nat.le_refl _)
  have c0 := x0.cell 0 rfl; have c1 := x0.cell 1 rfl; have c2 := x0.cell 2 rfl; have c3 := x0.cell 3 rfl; have c4 := x0.cell 4 rfl; have c5 := x0.cell 5 rfl; have d0 := x1.cell 0 rfl; have d1 := x1.cell 1 rfl; have d2 := x1.cell 2 rfl; have d3 := x1.cell 3 rfl; have d4 := x1.cell 4 rfl; have d5 := x1.cell 5 rfl
  go_enter Try.func104, Try.ntmps104
  go_wp2_with fail
  refine (do_kind _ _ _ _ _ _ _ _ _ _ p c 2 _ hk hp (by omega) hlt).mono ?_
  rintro e W1 ⟨rfl, hb1⟩
  clear hW c0 c1 c2 c3 c4 c5
  (try clear d0 d1 d2 d3 d4 d5); replace x1 := x1.below hb1; have d0 := x1.cell 0 rfl; have d1 := x1.cell 1 rfl; have d2 := x1.cell 2 rfl; have d3 := x1.cell 3 rfl; have d4 := x1.cell 4 rfl; have d5 := x1.cell 5 rfl; (try clear g0 g1 g2 g3 g4 g5); replace x2 := x2.below hb1; have g0 := x2.cell 0 rfl; have g1 := x2.cell 1 rfl; have g2 := x2.cell 2 rfl; have g3 := x2.cell 3 rfl; have g4 := x2.cell 4 rfl; have g5 := x2.cell 5 rfl; (try clear f0 f1 f2 f3 f4 f5); have f0 := x2.free 0; have f1 := x2.free 1; have f2 := x2.free 2; have f3 := x2.free 3; have f4 := x2.free 4; have f5 := x2.free 5; replace hbw := hbw.trans (hb1.mono hbw.size); clear hb1
  have l1 := x1.lt
  have l2 := x2.lt
  go_wp2_with fail
  generalize hX : World.alloc _ _ = W2
  have y2 : Bx W2 (w.heap.size + 1 + 1) #[.int .i64 (b0), .int .i64 (b1), .int .i64 (b2 - 1), .int .i64 (b3), .int .i64 (((p : Int) + (cw C 2 : Int)) % (R : Int)), .int .i64 ((c : Int) + (gv R N p (cw C 2) : Int))] 121 := by
    rw [← hX]
    exact (Bx.put6_2 (Bx.set6 x2 _ _ _ _ _ _) _).alloc _
  have z2 : Bx W2 W1.heap.size #[.int .i64 (((p : Int) + (cw C 2 : Int)) % (R : Int)), .int .i64 ((c : Int) + (gv R N p (cw C 2) : Int))] 26 := by
    rw [← hX]
    exact Bx.new' (by simp) _ _
  have hb2 : Below w.heap.size w W2 := by
    rw [← hX]
    (repeat (first | with_reducible assumption | with_reducible refine Below.alloc ?_ (by simp; try omega) _ | with_reducible refine Below.setCell ?_ (by simp; try omega) _ | with_reducible refine below_drewN ?_ _ | with_reducible exact Below.refl _ _))
  clear hX x0 x1 x2 g0 g1 g2 g3 g4 g5 f0 f1 f2 f3 f4 f5 d0 d1 d2 d3 d4 d5 hk hbw l1 l2 Hs
  generalize W1.heap.size = h at *
  have d0 := y2.ext 0 rfl; have d1 := y2.ext 1 rfl; have d2 := y2.ext 2 rfl; have d3 := y2.ext 3 rfl; have d4 := y2.ext 4 rfl; have d5 := y2.ext 5 rfl; have e0 := z2.ext 0 rfl; have e1 := z2.ext 1 rfl
  obtain ⟨m, hm⟩ : ∃ m, m = (b0) + (b1) + (b2 - 1) + (b3) := ⟨_, rfl⟩
  have hcnt : ∀ w', Calls Try.prog 113 #[.agg #[.int .i64 (b0), .int .i64 (b1), .int .i64 (b2 - 1), .int .i64 (b3)]] w' fun e w'' => e = .returned (.int .i64 (m : Nat)) ∧ Below w'.heap.size w' w'' := fun w' => by
    rw [hm]
    have := count_any (b0) (b1) (b2 - 1) (b3) w' (by omega) (by omega) (by omega) (by omega)
    rwa [show ((b2 - 1 : Nat) : Int) = (b2 : Int) - 1 by omega] at this
  have Hc := hid hcnt; have Hm := hid hm; clear hcnt hm
  rcases Nat.lt_or_ge m (c + gv R N p (cw C 2)) with hmin | hmin
  rotate_left
  · have hI : (c : Int) + (gv R N p (cw C 2) : Int) ≤ (m : Int) := by omega
    refine wp_region_ext_tail 8 (by kernel_rfl) (by kernel_rfl) ?_
    simp only [List.take_succ_cons, List.take_zero, List.drop_succ_cons, List.drop_zero]
    repeat (quiet_step (first | (go_at_call 113; exact quiet_ext (Hc.out _))))
    refine wpQuiet_nil ?_
    intro _ hw'
    obtain ⟨t, rfl⟩ := hw'
    have y3 := y2.below t.below
    replace hb2 := hb2.trans (t.below.mono hb2.size)
    clear d0 d1 d2 d3 d4 d5 e0 e1 y2 z2 Hc
    generalize t.w = W3 at *
    have d0 := y3.cell 0 rfl; have d1 := y3.cell 1 rfl; have d2 := y3.cell 2 rfl; have d3 := y3.cell 3 rfl; have d4 := y3.cell 4 rfl; have d5 := y3.cell 5 rfl; have f0 := y3.free 0; have f1 := y3.free 1; have f2 := y3.free 2; have f3 := y3.free 3; have f4 := y3.free 4; have f5 := y3.free 5
    go_wp2
    refine bodyPost_ret (v := .tuple #[.agg #[.int .i64 (b0 : Nat), .int .i64 (b1 : Nat), .int .i64 (b2 - 1 : Nat), .int .i64 (b3 : Nat), .int .i64 ((p + cw C 2) % R : Nat), .int .i64 (min (c + gv R N p (cw C 2)) (b0 + (b1) + (b2 - 1) + (b3)) : Nat)], .int .i64 (gv R N p (cw C 2))]) ?_ rfl ⟨by simp, ?_⟩
    · have y4 := Bx.set6 (Bx.put6_5 y3 (.int .i64 ((c : Int) + (gv R N p (cw C 2) : Int)))) (.int .i64 (b0)) (.int .i64 (b1)) (.int .i64 (b2 - 1)) (.int .i64 (b3)) (.int .i64 (((p : Int) + (cw C 2 : Int)) % (R : Int))) (.int .i64 ((c : Int) + (gv R N p (cw C 2) : Int)))
      clear d0 d1 d2 d3 d4 d5 f0 f1 f2 f3 f4 f5
      have d0 := y4.cell 0 rfl; have d1 := y4.cell 1 rfl; have d2 := y4.cell 2 rfl; have d3 := y4.cell 3 rfl; have d4 := y4.cell 4 rfl; have d5 := y4.cell 5 rfl
      have hv1 : (min (c + gv R N p (cw C 2)) (b0 + (b1) + (b2 - 1) + (b3)) : Nat) = c + gv R N p (cw C 2) := by rw [← Hm.out]; omega
      have hv2 : ((b2 - 1 : Nat) : Int) = (b2 : Int) - 1 := by omega
      rw [hv1]
      simp [results, Try.results104, go_sem, d0, d1, d2, d3, d4, d5, hv2]
      try omega
    · (repeat (first | with_reducible assumption | with_reducible refine Below.alloc ?_ (by simp; try omega) _ | with_reducible refine Below.setCell ?_ (by simp; try omega) _ | with_reducible refine below_drewN ?_ _ | with_reducible exact Below.refl _ _))
  · have hI : (m : Int) < (c : Int) + (gv R N p (cw C 2) : Int) := by omega
    refine wp_region_ext_tail 8 (by kernel_rfl) (by kernel_rfl) ?_
    simp only [List.take_succ_cons, List.take_zero, List.drop_succ_cons, List.drop_zero]
    repeat (quiet_step (first | (go_at_call 113; exact quiet_ext (Hc.out _))))
    refine wpQuiet_nil ?_
    intro _ hw'
    obtain ⟨t, rfl⟩ := hw'
    have y3 := y2.below t.below
    replace hb2 := hb2.trans (t.below.mono hb2.size)
    clear d0 d1 d2 d3 d4 d5 e0 e1 y2 z2 Hc
    generalize t.w = W3 at *
    have d0 := y3.cell 0 rfl; have d1 := y3.cell 1 rfl; have d2 := y3.cell 2 rfl; have d3 := y3.cell 3 rfl; have d4 := y3.cell 4 rfl; have d5 := y3.cell 5 rfl; have f0 := y3.free 0; have f1 := y3.free 1; have f2 := y3.free 2; have f3 := y3.free 3; have f4 := y3.free 4; have f5 := y3.free 5
    go_wp2
    refine bodyPost_ret (v := .tuple #[.agg #[.int .i64 (b0 : Nat), .int .i64 (b1 : Nat), .int .i64 (b2 - 1 : Nat), .int .i64 (b3 : Nat), .int .i64 ((p + cw C 2) % R : Nat), .int .i64 (min (c + gv R N p (cw C 2)) (b0 + (b1) + (b2 - 1) + (b3)) : Nat)], .int .i64 (gv R N p (cw C 2))]) ?_ rfl ⟨by simp, ?_⟩
    · have y4 := Bx.set6 (Bx.put6_5 y3 (.int .i64 ((m : Int)))) (.int .i64 (b0)) (.int .i64 (b1)) (.int .i64 (b2 - 1)) (.int .i64 (b3)) (.int .i64 (((p : Int) + (cw C 2 : Int)) % (R : Int))) (.int .i64 ((m : Int)))
      clear d0 d1 d2 d3 d4 d5 f0 f1 f2 f3 f4 f5
      have d0 := y4.cell 0 rfl; have d1 := y4.cell 1 rfl; have d2 := y4.cell 2 rfl; have d3 := y4.cell 3 rfl; have d4 := y4.cell 4 rfl; have d5 := y4.cell 5 rfl
      have hv1 : (min (c + gv R N p (cw C 2)) (b0 + (b1) + (b2 - 1) + (b3)) : Nat) = m := by rw [← Hm.out]; omega
      have hv2 : ((b2 - 1 : Nat) : Int) = (b2 : Int) - 1 := by omega
      rw [hv1]
      simp [results, Try.results104, go_sem, d0, d1, d2, d3, d4, d5, hv2]
      try omega
    · (repeat (first | with_reducible assumption | with_reducible refine Below.alloc ?_ (by simp; try omega) _ | with_reducible refine Below.setCell ?_ (by simp; try omega) _ | with_reducible refine below_drewN ?_ _ | with_reducible exact Below.refl _ _))

set_option maxRecDepth 100000 in
set_option maxHeartbeats 1000000 in
theorem next_3 (R : Nat) (an ac ap : Option Addr) (cn cc cp : Nat) (N C P : List Int) (F : Value) (mb : Nat) (b0 b1 b2 b3 p c : Nat) (w : World) (hk : Wk w R an ac ap N C P) (hp : p < R) (hc : c ≤ 12) (h0 : b0 ≤ 12) (h1 : b1 ≤ 12) (h2 : b2 ≤ 12) (h3 : b3 ≤ 12) (hb : 0 < b3) (hlt : 3 < C.length) :
    Calls Try.prog 104 #[.agg #[.int .i64 (R : Int), .slice an N.length cn, .slice ac C.length cc, .slice ap P.length cp, F, .map (some mb)], .agg #[.int .i64 b0, .int .i64 b1, .int .i64 b2, .int .i64 b3, .int .i64 p, .int .i64 c], .int .i64 3] w fun e w' =>
      e = .returned (.tuple #[.agg #[.int .i64 (b0 : Nat), .int .i64 (b1 : Nat), .int .i64 (b2 : Nat), .int .i64 (b3 - 1 : Nat), .int .i64 ((p + cw C 3) % R : Nat), .int .i64 (min (c + gv R N p (cw C 3)) (b0 + (b1) + (b2) + (b3 - 1)) : Nat)], .int .i64 (gv R N p (cw C 3))]) ∧ Below w.heap.size w w' := by
  have r2 := hk.v.r2
  obtain ⟨_, q1, q2⟩ := hk.v.coin hlt
  have hg := gv_le hk.v p (cw C 3)
  obtain ⟨W, hW, hbw, hs, x0, x1, x2⟩ := boxes3 w #[.int .i64 (R : Int), .slice an N.length cn, .slice ac C.length cc, .slice ap P.length cp, F, .map (some mb)] 90 #[.int .i64 b0, .int .i64 b1, .int .i64 b2, .int .i64 b3, .int .i64 p, .int .i64 c] 121 #[.int .i64 0, .int .i64 0, .int .i64 0, .int .i64 0, .int .i64 0, .int .i64 0] 121
  have Hs := hid hs; clear hs
  replace hk := hk.below hbw (Nat.le_refl _)
  have c0 := x0.cell 0 rfl; have c1 := x0.cell 1 rfl; have c2 := x0.cell 2 rfl; have c3 := x0.cell 3 rfl; have c4 := x0.cell 4 rfl; have c5 := x0.cell 5 rfl; have d0 := x1.cell 0 rfl; have d1 := x1.cell 1 rfl; have d2 := x1.cell 2 rfl; have d3 := x1.cell 3 rfl; have d4 := x1.cell 4 rfl; have d5 := x1.cell 5 rfl
  go_enter Try.func104, Try.ntmps104
  go_wp2_with fail
  refine (do_kind _ _ _ _ _ _ _ _ _ _ p c 3 _ hk hp (by omega) hlt).mono ?_
  rintro e W1 ⟨rfl, hb1⟩
  clear hW c0 c1 c2 c3 c4 c5
  (try clear d0 d1 d2 d3 d4 d5); replace x1 := x1.below hb1; have d0 := x1.cell 0 rfl; have d1 := x1.cell 1 rfl; have d2 := x1.cell 2 rfl; have d3 := x1.cell 3 rfl; have d4 := x1.cell 4 rfl; have d5 := x1.cell 5 rfl; (try clear g0 g1 g2 g3 g4 g5); replace x2 := x2.below hb1; have g0 := x2.cell 0 rfl; have g1 := x2.cell 1 rfl; have g2 := x2.cell 2 rfl; have g3 := x2.cell 3 rfl; have g4 := x2.cell 4 rfl; have g5 := x2.cell 5 rfl; (try clear f0 f1 f2 f3 f4 f5); have f0 := x2.free 0; have f1 := x2.free 1; have f2 := x2.free 2; have f3 := x2.free 3; have f4 := x2.free 4; have f5 := x2.free 5; replace hbw := hbw.trans (hb1.mono hbw.size); clear hb1
  have l1 := x1.lt
  have l2 := x2.lt
  go_wp2_with fail
  generalize hX : World.alloc _ _ = W2
  have y2 : Bx W2 (w.heap.size + 1 + 1) #[.int .i64 (b0), .int .i64 (b1), .int .i64 (b2), .int .i64 (b3 - 1), .int .i64 (((p : Int) + (cw C 3 : Int)) % (R : Int)), .int .i64 ((c : Int) + (gv R N p (cw C 3) : Int))] 121 := by
    rw [← hX]
    exact (Bx.put6_3 (Bx.set6 x2 _ _ _ _ _ _) _).alloc _
  have z2 : Bx W2 W1.heap.size #[.int .i64 (((p : Int) + (cw C 3 : Int)) % (R : Int)), .int .i64 ((c : Int) + (gv R N p (cw C 3) : Int))] 26 := by
    rw [← hX]
    exact Bx.new' (by simp) _ _
  have hb2 : Below w.heap.size w W2 := by
    rw [← hX]
    (repeat (first | with_reducible assumption | with_reducible refine Below.alloc ?_ (by simp; try omega) _ | with_reducible refine Below.setCell ?_ (by simp; try omega) _ | with_reducible refine below_drewN ?_ _ | with_reducible exact Below.refl _ _))
  clear hX x0 x1 x2 g0 g1 g2 g3 g4 g5 f0 f1 f2 f3 f4 f5 d0 d1 d2 d3 d4 d5 hk hbw l1 l2 Hs
  generalize W1.heap.size = h at *
  have d0 := y2.ext 0 rfl; have d1 := y2.ext 1 rfl; have d2 := y2.ext 2 rfl; have d3 := y2.ext 3 rfl; have d4 := y2.ext 4 rfl; have d5 := y2.ext 5 rfl; have e0 := z2.ext 0 rfl; have e1 := z2.ext 1 rfl
  obtain ⟨m, hm⟩ : ∃ m, m = (b0) + (b1) + (b2) + (b3 - 1) := ⟨_, rfl⟩
  have hcnt : ∀ w', Calls Try.prog 113 #[.agg #[.int .i64 (b0), .int .i64 (b1), .int .i64 (b2), .int .i64 (b3 - 1)]] w' fun e w'' => e = .returned (.int .i64 (m : Nat)) ∧ Below w'.heap.size w' w'' := fun w' => by
    rw [hm]
    have := count_any (b0) (b1) (b2) (b3 - 1) w' (by omega) (by omega) (by omega) (by omega)
    rwa [show ((b3 - 1 : Nat) : Int) = (b3 : Int) - 1 by omega] at this
  have Hc := hid hcnt; have Hm := hid hm; clear hcnt hm
  rcases Nat.lt_or_ge m (c + gv R N p (cw C 3)) with hmin | hmin
  rotate_left
  · have hI : (c : Int) + (gv R N p (cw C 3) : Int) ≤ (m : Int) := by omega
    refine wp_region_ext_tail 8 (by kernel_rfl) (by kernel_rfl) ?_
    simp only [List.take_succ_cons, List.take_zero, List.drop_succ_cons, List.drop_zero]
    repeat (quiet_step (first | (go_at_call 113; exact quiet_ext (Hc.out _))))
    refine wpQuiet_nil ?_
    intro _ hw'
    obtain ⟨t, rfl⟩ := hw'
    have y3 := y2.below t.below
    replace hb2 := hb2.trans (t.below.mono hb2.size)
    clear d0 d1 d2 d3 d4 d5 e0 e1 y2 z2 Hc
    generalize t.w = W3 at *
    have d0 := y3.cell 0 rfl; have d1 := y3.cell 1 rfl; have d2 := y3.cell 2 rfl; have d3 := y3.cell 3 rfl; have d4 := y3.cell 4 rfl; have d5 := y3.cell 5 rfl; have f0 := y3.free 0; have f1 := y3.free 1; have f2 := y3.free 2; have f3 := y3.free 3; have f4 := y3.free 4; have f5 := y3.free 5
    go_wp2
    refine bodyPost_ret (v := .tuple #[.agg #[.int .i64 (b0 : Nat), .int .i64 (b1 : Nat), .int .i64 (b2 : Nat), .int .i64 (b3 - 1 : Nat), .int .i64 ((p + cw C 3) % R : Nat), .int .i64 (min (c + gv R N p (cw C 3)) (b0 + (b1) + (b2) + (b3 - 1)) : Nat)], .int .i64 (gv R N p (cw C 3))]) ?_ rfl ⟨by simp, ?_⟩
    · have y4 := Bx.set6 (Bx.put6_5 y3 (.int .i64 ((c : Int) + (gv R N p (cw C 3) : Int)))) (.int .i64 (b0)) (.int .i64 (b1)) (.int .i64 (b2)) (.int .i64 (b3 - 1)) (.int .i64 (((p : Int) + (cw C 3 : Int)) % (R : Int))) (.int .i64 ((c : Int) + (gv R N p (cw C 3) : Int)))
      clear d0 d1 d2 d3 d4 d5 f0 f1 f2 f3 f4 f5
      have d0 := y4.cell 0 rfl; have d1 := y4.cell 1 rfl; have d2 := y4.cell 2 rfl; have d3 := y4.cell 3 rfl; have d4 := y4.cell 4 rfl; have d5 := y4.cell 5 rfl
      have hv1 : (min (c + gv R N p (cw C 3)) (b0 + (b1) + (b2) + (b3 - 1)) : Nat) = c + gv R N p (cw C 3) := by rw [← Hm.out]; omega
      have hv2 : ((b3 - 1 : Nat) : Int) = (b3 : Int) - 1 := by omega
      rw [hv1]
      simp [results, Try.results104, go_sem, d0, d1, d2, d3, d4, d5, hv2]
      try omega
    · (repeat (first | with_reducible assumption | with_reducible refine Below.alloc ?_ (by simp; try omega) _ | with_reducible refine Below.setCell ?_ (by simp; try omega) _ | with_reducible refine below_drewN ?_ _ | with_reducible exact Below.refl _ _))
  · have hI : (m : Int) < (c : Int) + (gv R N p (cw C 3) : Int) := by omega
    refine wp_region_ext_tail 8 (by kernel_rfl) (by kernel_rfl) ?_
    simp only [List.take_succ_cons, List.take_zero, List.drop_succ_cons, List.drop_zero]
    repeat (quiet_step (first | (go_at_call 113; exact quiet_ext (Hc.out _))))
    refine wpQuiet_nil ?_
    intro _ hw'
    obtain ⟨t, rfl⟩ := hw'
    have y3 := y2.below t.below
    replace hb2 := hb2.trans (t.below.mono hb2.size)
    clear d0 d1 d2 d3 d4 d5 e0 e1 y2 z2 Hc
    generalize t.w = W3 at *
    have d0 := y3.cell 0 rfl; have d1 := y3.cell 1 rfl; have d2 := y3.cell 2 rfl; have d3 := y3.cell 3 rfl; have d4 := y3.cell 4 rfl; have d5 := y3.cell 5 rfl; have f0 := y3.free 0; have f1 := y3.free 1; have f2 := y3.free 2; have f3 := y3.free 3; have f4 := y3.free 4; have f5 := y3.free 5
    go_wp2
    refine bodyPost_ret (v := .tuple #[.agg #[.int .i64 (b0 : Nat), .int .i64 (b1 : Nat), .int .i64 (b2 : Nat), .int .i64 (b3 - 1 : Nat), .int .i64 ((p + cw C 3) % R : Nat), .int .i64 (min (c + gv R N p (cw C 3)) (b0 + (b1) + (b2) + (b3 - 1)) : Nat)], .int .i64 (gv R N p (cw C 3))]) ?_ rfl ⟨by simp, ?_⟩
    · have y4 := Bx.set6 (Bx.put6_5 y3 (.int .i64 ((m : Int)))) (.int .i64 (b0)) (.int .i64 (b1)) (.int .i64 (b2)) (.int .i64 (b3 - 1)) (.int .i64 (((p : Int) + (cw C 3 : Int)) % (R : Int))) (.int .i64 ((m : Int)))
      clear d0 d1 d2 d3 d4 d5 f0 f1 f2 f3 f4 f5
      have d0 := y4.cell 0 rfl; have d1 := y4.cell 1 rfl; have d2 := y4.cell 2 rfl; have d3 := y4.cell 3 rfl; have d4 := y4.cell 4 rfl; have d5 := y4.cell 5 rfl
      have hv1 : (min (c + gv R N p (cw C 3)) (b0 + (b1) + (b2) + (b3 - 1)) : Nat) = m := by rw [← Hm.out]; omega
      have hv2 : ((b3 - 1 : Nat) : Int) = (b3 : Int) - 1 := by omega
      rw [hv1]
      simp [results, Try.results104, go_sem, d0, d1, d2, d3, d4, d5, hv2]
      try omega
    · (repeat (first | with_reducible assumption | with_reducible refine Below.alloc ?_ (by simp; try omega) _ | with_reducible refine Below.setCell ?_ (by simp; try omega) _ | with_reducible refine below_drewN ?_ _ | with_reducible exact Below.refl _ _))

end Go.Proofs.Ytmkmnedojgigoaa
