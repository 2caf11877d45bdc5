import Derived.Test.YtmkmnedojgigoaaA3
namespace Go.Proofs.Ytmkmnedojgigoaa
open Go.RowKit

set_option maxRecDepth 100000 in
set_option maxHeartbeats 1000000 in
theorem do_kind (R : Nat) (an ac ap : Option Addr) (cn cc cp : Nat) (N C P : List Int) (p c : Nat) (k : Nat) (w : World) (hk : Wk w R an ac ap N C P) (hp : p < R) (hc : c ≤ 1000000) (hlt : k < C.length) :
    Calls Try.prog 64 #[.agg #[.int .i64 (R : Int), .slice an N.length cn, .slice ac C.length cc, .slice ap P.length cp], .agg #[.int .i64 p, .int .i64 c], .int .i64 k] w fun e w' => e = .returned (.tuple #[.agg #[.int .i64 ((p + cw C k) % R : Nat), .int .i64 (c + gv R N p (cw C k) : Nat)], .bool false]) ∧ Below w.heap.size w w' := by
  have r2 := hk.v.r2
  have c4 := hk.v.c4
  obtain ⟨_, q1, q2⟩ := hk.v.coin hlt
  have hg := gv_le hk.v p (cw C k)
  have hk1 : ((k : Int) != -1) = true := by simp
  go_enter Try.func64, Try.ntmps64
  go_wp2_with fail
  obtain ⟨W, hW, hb, hs, x0, x1, x2⟩ := boxes3 w #[.int .i64 (R : Int), .slice an N.length cn, .slice ac C.length cc, .slice ap P.length cp] 73 #[.int .i64 p, .int .i64 c] 26 #[.int .i64 0, .int .i64 0] 26
  rw [hW]
  replace hk := hk.below hb (Nat.le_refl _)
  clear hW
  refine (worth_any _ _ _ _ _ _ _ _ _ _ k W hk hlt).mono ?_
  rintro e W1 ⟨rfl, hb1⟩
  replace hk := hk.below hb1 (Nat.le_refl _); replace x0 := x0.below hb1; replace x1 := x1.below hb1; replace x2 := x2.below hb1; replace hb := hb.trans (hb1.mono hb.size)
  have Hs := hid hs; clear hs hb1
  have c0 := x0.ext 0 rfl; have c1 := x0.ext 1 rfl; have c2 := x0.ext 2 rfl; have c3 := x0.ext 3 rfl; have d0 := x1.ext 0 rfl; have d1 := x1.ext 1 rfl
  go_wp2_with fail
  refine wp_region_ext_tail 14 (by kernel_rfl) (by kernel_rfl) ?_
  simp only [List.take_succ_cons, List.take_zero, List.drop_succ_cons, List.drop_zero]
  repeat (quiet_step (first | (go_at_call 95; exact quiet_ext (turned_int _ _ _ _ _ _ _ _ _ _ _ _ _ hk.v (by omega) (by omega) (by omega) (by omega))) | (go_at_call 69; exact quiet_ext (gives_int _ _ _ _ _ _ _ _ _ _ _ _ _ (hk.below (Ext.below _) (Nat.le_refl _)) (by omega) (by omega) (by omega) (by omega)))))
  refine wpQuiet_nil ?_
  intro _ hw'
  obtain ⟨t, rfl⟩ := hw'
  have y2 := x2.below t.below
  have hb' := hb.trans (t.below.mono hb.size)
  generalize t.w = W2 at *
  clear c0 c1 c2 c3 d0 d1 x0 x1 hk
  have g0 := y2.cell 0 rfl; have g1 := y2.cell 1 rfl; have h0 := y2.free 0; have h1 := y2.free 1
  go_wp2
  refine bodyPost_ret (v := .tuple #[.agg #[.int .i64 ((p + cw C k) % R : Nat), .int .i64 (c + gv R N p (cw C k) : Nat)], .bool false]) ?_ rfl ⟨rfl, ?_⟩
  · simp [results, Try.results64, go_sem, g0, g1]
  · exact (hb'.setCell (by simp; omega) _).setCell (by simp; omega) _

set_option maxRecDepth 100000 in
set_option maxHeartbeats 1000000 in
theorem do_sel0 (R : Nat) (an ac ap : Option Addr) (cn cc cp : Nat) (N C P : List Int) (p : Nat) (w : World) :
    Calls Try.prog 64 #[.agg #[.int .i64 (R : Int), .slice an N.length cn, .slice ac C.length cc, .slice ap P.length cp], .agg #[.int .i64 p, .int .i64 0], .int .i64 (-1)] w fun e w' => e = .returned (.tuple #[.agg #[.int .i64 p, .int .i64 0], .bool false]) ∧ Below w.heap.size w w' := by
  go_enter Try.func64, Try.ntmps64
  go_wp2
  refine bodyPost_ret (v := .tuple #[.agg #[.int .i64 p, .int .i64 0], .bool false]) (by simp [results, Try.results64, go_sem]) rfl ⟨rfl, ?_⟩
  (repeat (first | with_reducible assumption | with_reducible refine Below.alloc ?_ (by simp; try omega) _ | with_reducible refine Below.setCell ?_ (by simp; try omega) _ | with_reducible refine below_drewN ?_ _ | with_reducible exact Below.refl _ _))

set_option maxRecDepth 100000 in
set_option maxHeartbeats 1000000 in
theorem do_sel (R : Nat) (an ac ap : Option Addr) (cn cc cp : Nat) (N C P : List Int) (p c : Nat) (w : World) (h0 : c ≠ 0) (hc : c ≤ 1000000) :
    Calls Try.prog 64 #[.agg #[.int .i64 (R : Int), .slice an N.length cn, .slice ac C.length cc, .slice ap P.length cp], .agg #[.int .i64 p, .int .i64 c], .int .i64 (-1)] w fun e w' => e = .returned (.tuple #[.agg #[.int .i64 0, .int .i64 (c - 1 : Nat)], .bool true]) ∧ Below w.heap.size w w' := by
  have h1 : ((c : Int) == 0) = false := by simp; omega
  have h2 : 1 ≤ c := by omega
  clear h0
  go_enter Try.func64, Try.ntmps64
  go_wp2
  refine bodyPost_ret (v := .tuple #[.agg #[.int .i64 0, .int .i64 (c - 1 : Nat)], .bool true]) ?_ rfl ⟨rfl, ?_⟩
  · rw [show ((c - 1 : Nat) : Int) = (c : Int) - 1 by omega]
    simp [results, Try.results64, go_sem]
  · (repeat (first | with_reducible assumption | with_reducible refine Below.alloc ?_ (by simp; try omega) _ | with_reducible refine Below.setCell ?_ (by simp; try omega) _ | with_reducible refine below_drewN ?_ _ | with_reducible exact Below.refl _ _))

end Go.Proofs.Ytmkmnedojgigoaa
