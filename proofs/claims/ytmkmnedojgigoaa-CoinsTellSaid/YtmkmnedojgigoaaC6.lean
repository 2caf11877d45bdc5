import Derived.Test.YtmkmnedojgigoaaC5
import Derived.Laws.EntriesVeiled
namespace Go.Proofs.Ytmkmnedojgigoaa
open Go.RowKit

theorem OwnM_new {W : World} {n : Nat} (h : W.heap.size = n) : OwnM (W.alloc (.map #[] 0)) n 0 (.map []) := h ▸ World.ownsMap_made W Try.prog 121 (plainElem Try.prog 3)


set_option maxRecDepth 100000 in
set_option maxHeartbeats 1000000 in
theorem newSearch_75 (R : Nat) (an ac ap : Option Addr) (cn cc cp : Nat) (N C P : List Int) (w : World) (hk : Wk w R an ac ap N C P) :
    Calls Try.prog 98 #[.agg #[.int .i64 (R : Int), .slice an N.length cn, .slice ac C.length cc, .slice ap P.length cp], .func (.func 75) #[] #[]] w fun e w' => ∃ mb, e = .returned (.agg #[.int .i64 (R : Int), .slice an N.length cn, .slice ac C.length cc, .slice ap P.length cp, .func (.func 75) #[] #[], .map (some mb)]) ∧ Below w.heap.size w w' ∧ w.heap.size ≤ mb ∧ OwnM w' mb 0 (.map []) ∧ Wk w' R an ac ap N C P := by
  have hmm := @run_makeMap Try.prog
  obtain ⟨W, hW, hb, hs, x0, x1⟩ := boxes2 w #[.int .i64 (R : Int), .slice an N.length cn, .slice ac C.length cc, .slice ap P.length cp] 73 #[.int .i64 0, .slice none 0 0, .slice none 0 0, .slice none 0 0, .nilFunc, .map none] 90
  have Hs := hid hs; clear hs
  have c0 := x0.cell 0 rfl; have c1 := x0.cell 1 rfl; have c2 := x0.cell 2 rfl; have c3 := x0.cell 3 rfl; have d0 := x1.cell 0 rfl; have d1 := x1.cell 1 rfl; have d2 := x1.cell 2 rfl; have d3 := x1.cell 3 rfl; have d4 := x1.cell 4 rfl; have d5 := x1.cell 5 rfl; have f0 := x1.free 0; have f1 := x1.free 1; have f2 := x1.free 2; have f3 := x1.free 3; have f4 := x1.free 4; have f5 := x1.free 5
  have l1 := x1.lt
  have ob : w.heap.size + 1 ≠ w.heap.size := by omega
  have o1 := Off.of_old hk.hN (show w.heap.size ≤ w.heap.size + 1 by omega)
  have o2 := Off.of_old hk.hC (show w.heap.size ≤ w.heap.size + 1 by omega)
  have o3 := Off.of_old hk.hP (show w.heap.size ≤ w.heap.size + 1 by omega)
  replace hk := hk.below hb (Nat.le_refl _)
  clear x0
  go_enter Try.func98, Try.ntmps98
  go_wp2
  refine bodyPost_ret (v := .agg #[.int .i64 (R : Int), .slice an N.length cn, .slice ac C.length cc, .slice ap P.length cp, .func (.func 75) #[] #[], .map (some W.heap.size)]) ?_ rfl ⟨W.heap.size, rfl, ?_, by have := Hs.out; omega, ?_, ?_⟩
  · have y4 := (Bx.set6 x1 (.int .i64 (R : Int)) (.slice an N.length cn) (.slice ac C.length cc) (.slice ap P.length cp) (.func (.func 75) #[] #[]) (.map (some W.heap.size))).alloc (.map #[] 0)
    clear d0 d1 d2 d3 d4 d5 f0 f1 f2 f3 f4 f5
    have d0 := y4.cell 0 rfl; have d1 := y4.cell 1 rfl; have d2 := y4.cell 2 rfl; have d3 := y4.cell 3 rfl; have d4 := y4.cell 4 rfl; have d5 := y4.cell 5 rfl
    simp [results, Try.results98, go_sem, d0, d1, d2, d3, d4, d5]
  · (repeat (first | with_reducible assumption | with_reducible refine Below.alloc ?_ (by simp; try omega) _ | with_reducible refine Below.setCell ?_ (by simp; try omega) _ | with_reducible refine below_drewN ?_ _ | with_reducible exact Below.refl _ _))
  · exact OwnM_new (by simp)
  · refine Wk.alloc ?_ _
    repeat (first | with_reducible exact hk | refine Wk.set ?_ ⟨o1, o2, o3⟩ _ _)

set_option maxRecDepth 100000 in
set_option maxHeartbeats 1000000 in
theorem newSearch_78 (R : Nat) (an ac ap : Option Addr) (cn cc cp : Nat) (N C P : List Int) (w : World) (hk : Wk w R an ac ap N C P) :
    Calls Try.prog 98 #[.agg #[.int .i64 (R : Int), .slice an N.length cn, .slice ac C.length cc, .slice ap P.length cp], .func (.func 78) #[] #[]] w fun e w' => ∃ mb, e = .returned (.agg #[.int .i64 (R : Int), .slice an N.length cn, .slice ac C.length cc, .slice ap P.length cp, .func (.func 78) #[] #[], .map (some mb)]) ∧ Below w.heap.size w w' ∧ w.heap.size ≤ mb ∧ OwnM w' mb 0 (.map []) ∧ Wk w' R an ac ap N C P := by
  have hmm := @run_makeMap Try.prog
  obtain ⟨W, hW, hb, hs, x0, x1⟩ := boxes2 w #[.int .i64 (R : Int), .slice an N.length cn, .slice ac C.length cc, .slice ap P.length cp] 73 #[.int .i64 0, .slice none 0 0, .slice none 0 0, .slice none 0 0, .nilFunc, .map none] 90
  have Hs := hid hs; clear hs
  have c0 := x0.cell 0 rfl; have c1 := x0.cell 1 rfl; have c2 := x0.cell 2 rfl; have c3 := x0.cell 3 rfl; have d0 := x1.cell 0 rfl; have d1 := x1.cell 1 rfl; have d2 := x1.cell 2 rfl; have d3 := x1.cell 3 rfl; have d4 := x1.cell 4 rfl; have d5 := x1.cell 5 rfl; have f0 := x1.free 0; have f1 := x1.free 1; have f2 := x1.free 2; have f3 := x1.free 3; have f4 := x1.free 4; have f5 := x1.free 5
  have l1 := x1.lt
  have ob : w.heap.size + 1 ≠ w.heap.size := by omega
  have o1 := Off.of_old hk.hN (show w.heap.size ≤ w.heap.size + 1 by omega)
  have o2 := Off.of_old hk.hC (show w.heap.size ≤ w.heap.size + 1 by omega)
  have o3 := Off.of_old hk.hP (show w.heap.size ≤ w.heap.size + 1 by omega)
  replace hk := hk.below hb (Nat.le_refl _)
  clear x0
  go_enter Try.func98, Try.ntmps98
  go_wp2
  refine bodyPost_ret (v := .agg #[.int .i64 (R : Int), .slice an N.length cn, .slice ac C.length cc, .slice ap P.length cp, .func (.func 78) #[] #[], .map (some W.heap.size)]) ?_ rfl ⟨W.heap.size, rfl, ?_, by have := Hs.out; omega, ?_, ?_⟩
  · have y4 := (Bx.set6 x1 (.int .i64 (R : Int)) (.slice an N.length cn) (.slice ac C.length cc) (.slice ap P.length cp) (.func (.func 78) #[] #[]) (.map (some W.heap.size))).alloc (.map #[] 0)
    clear d0 d1 d2 d3 d4 d5 f0 f1 f2 f3 f4 f5
    have d0 := y4.cell 0 rfl; have d1 := y4.cell 1 rfl; have d2 := y4.cell 2 rfl; have d3 := y4.cell 3 rfl; have d4 := y4.cell 4 rfl; have d5 := y4.cell 5 rfl
    simp [results, Try.results98, go_sem, d0, d1, d2, d3, d4, d5]
  · (repeat (first | with_reducible assumption | with_reducible refine Below.alloc ?_ (by simp; try omega) _ | with_reducible refine Below.setCell ?_ (by simp; try omega) _ | with_reducible refine below_drewN ?_ _ | with_reducible exact Below.refl _ _))
  · exact OwnM_new (by simp)
  · refine Wk.alloc ?_ _
    repeat (first | with_reducible exact hk | refine Wk.set ?_ ⟨o1, o2, o3⟩ _ _)


theorem MemoB_empty (bt : Nat → Nat → Bool) (R : Nat) (N C : List Int) : MemoB bt R N C (.map []) := fun s l _ _ h => by simp [Go.Maps.has] at h


set_option maxRecDepth 100000 in
set_option maxHeartbeats 1000000 in
theorem buys_75 (R : Nat) (an ac ap : Option Addr) (cn cc cp : Nat) (N C P : List Int) (mb b0 b1 b2 b3 : Nat) (w : World) (D : DataW Unit) (k : Nat) (hk : Wk w R an ac ap N C P) (hoff : OffW mb an ac ap N C P) (hown : OwnM w mb k D) (hmem : MemoB btm R N C D) (hkb : k ≤ 900000000000000000) (hb : b0 + b1 + b2 + b3 ≤ 12) :
    Calls Try.prog 76 #[.agg #[.int .i64 (R : Int), .slice an N.length cn, .slice ac C.length cc, .slice ap P.length cp, .func (.func 75) #[] #[], .map (some mb)], .agg #[.int .i64 b0, .int .i64 b1, .int .i64 b2, .int .i64 b3]] w (BPost btm R N C mb k w (.int .i64 (bst btm R N C ⟨b0, b1, b2, b3, 0, 0⟩)) 2000000000000) := by
  have hr1 := hk.v.r1
  obtain ⟨W, hW, hbw, hs, x0, x1⟩ := boxes2 w #[.int .i64 (R : Int), .slice an N.length cn, .slice ac C.length cc, .slice ap P.length cp, .func (.func 75) #[] #[], .map (some mb)] 90 #[.int .i64 b0, .int .i64 b1, .int .i64 b2, .int .i64 b3] 92
  have ho : OKs R ⟨b0, b1, b2, b3, 0, 0⟩ := ⟨by show 0 < R; omega, hb, Nat.zero_le _⟩
  have hbd := Bd_le ho
  replace hown := hown.gr hbw
  replace hk := hk.below hbw (Nat.le_refl _)
  have hg := Below.gr hbw mb
  clear hs hbw
  have c0 := x0.cell 0 rfl; have c1 := x0.cell 1 rfl; have c2 := x0.cell 2 rfl; have c3 := x0.cell 3 rfl; have c4 := x0.cell 4 rfl; have c5 := x0.cell 5 rfl; have d0 := x1.cell 0 rfl; have d1 := x1.cell 1 rfl; have d2 := x1.cell 2 rfl; have d3 := x1.cell 3 rfl
  go_enter Try.func76, Try.ntmps76
  go_wp2_with fail
  refine (best_75_all _ _ _ _ _ _ _ _ _ _ _ _ ⟨b0, b1, b2, b3, 0, 0⟩ _ D k (Nat.lt_succ_self _) ho hk hoff hown hmem (by omega)).mono ?_
  rintro e W1 ⟨rfl, D1, k1, hg1, hown1, hmem1, hk1⟩
  replace hg := hg.trans hg1
  clear c0 c1 c2 c3 c4 c5 d0 d1 d2 d3 hown hmem hW
  go_wp2
  go_ret
  exact ⟨rfl, D1, k1, hg, hown1, hmem1, by omega⟩

set_option maxRecDepth 100000 in
set_option maxHeartbeats 1000000 in
theorem buys_78 (R : Nat) (an ac ap : Option Addr) (cn cc cp : Nat) (N C P : List Int) (mb b0 b1 b2 b3 : Nat) (w : World) (D : DataW Unit) (k : Nat) (hk : Wk w R an ac ap N C P) (hoff : OffW mb an ac ap N C P) (hown : OwnM w mb k D) (hmem : MemoB btf R N C D) (hkb : k ≤ 900000000000000000) (hb : b0 + b1 + b2 + b3 ≤ 12) :
    Calls Try.prog 76 #[.agg #[.int .i64 (R : Int), .slice an N.length cn, .slice ac C.length cc, .slice ap P.length cp, .func (.func 78) #[] #[], .map (some mb)], .agg #[.int .i64 b0, .int .i64 b1, .int .i64 b2, .int .i64 b3]] w (BPost btf R N C mb k w (.int .i64 (bst btf R N C ⟨b0, b1, b2, b3, 0, 0⟩)) 2000000000000) := by
  have hr1 := hk.v.r1
  obtain ⟨W, hW, hbw, hs, x0, x1⟩ := boxes2 w #[.int .i64 (R : Int), .slice an N.length cn, .slice ac C.length cc, .slice ap P.length cp, .func (.func 78) #[] #[], .map (some mb)] 90 #[.int .i64 b0, .int .i64 b1, .int .i64 b2, .int .i64 b3] 92
  have ho : OKs R ⟨b0, b1, b2, b3, 0, 0⟩ := ⟨by show 0 < R; omega, hb, Nat.zero_le _⟩
  have hbd := Bd_le ho
  replace hown := hown.gr hbw
  replace hk := hk.below hbw (Nat.le_refl _)
  have hg := Below.gr hbw mb
  clear hs hbw
  have c0 := x0.cell 0 rfl; have c1 := x0.cell 1 rfl; have c2 := x0.cell 2 rfl; have c3 := x0.cell 3 rfl; have c4 := x0.cell 4 rfl; have c5 := x0.cell 5 rfl; have d0 := x1.cell 0 rfl; have d1 := x1.cell 1 rfl; have d2 := x1.cell 2 rfl; have d3 := x1.cell 3 rfl
  go_enter Try.func76, Try.ntmps76
  go_wp2_with fail
  refine (best_78_all _ _ _ _ _ _ _ _ _ _ _ _ ⟨b0, b1, b2, b3, 0, 0⟩ _ D k (Nat.lt_succ_self _) ho hk hoff hown hmem (by omega)).mono ?_
  rintro e W1 ⟨rfl, D1, k1, hg1, hown1, hmem1, hk1⟩
  replace hg := hg.trans hg1
  clear c0 c1 c2 c3 c4 c5 d0 d1 d2 d3 hown hmem hW
  go_wp2
  go_ret
  exact ⟨rfl, D1, k1, hg, hown1, hmem1, by omega⟩

end Go.Proofs.Ytmkmnedojgigoaa
