import Derived.Test.YtmkmnedojgigoaaC8
namespace Go.Proofs.Ytmkmnedojgigoaa
open Go.RowKit


set_option maxRecDepth 100000 in
set_option maxHeartbeats 1000000 in
theorem Most_28_bad (r : Int) (an ac : Option Addr) (cn cc : Nat) (N C : List Int) (a : Option Addr) (ca : Nat) (xs : List Int) (w : World) (hN : Ints w an N) (hC : Ints w ac C) (hX : Ints w a xs) (hv : validB r N C = false) :
    Calls Try.prog 28 #[.agg #[.int .i64 r, .slice an N.length cn, .slice ac C.length cc], .slice a xs.length ca] w fun e w' => e = .returned (.tuple #[.int .i64 0, .int .i64 10]) ∧ Below w.heap.size w w' := by
  obtain ⟨W, hW, hb, hs, x0⟩ := boxes1 w #[.int .i64 r, .slice an N.length cn, .slice ac C.length cc] 24
  clear hs
  replace hN := hN.below hb (Nat.le_refl _); replace hC := hC.below hb (Nat.le_refl _); replace hX := hX.below hb (Nat.le_refl _)
  have c0 := x0.cell 0 rfl; have c1 := x0.cell 1 rfl; have c2 := x0.cell 2 rfl
  go_enter Try.func28, Try.ntmps28
  go_wp2_with fail
  refine (searchOf_bad _ _ _ _ _ _ _ 75 _ _ _ _ hN hC hv).mono ?_
  rintro e W1 ⟨rfl, hb1⟩
  replace hb := hb.trans (hb1.mono hb.size)
  have hz := hb.size
  clear c0 c1 c2 hW x0 hb1 hN hC hX
  unfold noSearch noBag
  go_wp2
  refine bodyPost_ret (v := .tuple #[.int .i64 0, .int .i64 10]) ?_ rfl ⟨rfl, ?_⟩
  · simp [results, Try.results28, go_sem]
  · exact (hb.alloc hz _).alloc (by simp; omega) _

set_option maxRecDepth 100000 in
set_option maxHeartbeats 1000000 in
theorem Most_28_arg (R : Nat) (an ac : Option Addr) (cn cc : Nat) (N C : List Int) (a : Option Addr) (ca : Nat) (xs : List Int) (w : World) (hN : Ints w an N) (hC : Ints w ac C) (hX : Ints w a xs) (hv : Vw R N C) (ho : okP C xs = false) :
    Calls Try.prog 28 #[.agg #[.int .i64 (R : Int), .slice an N.length cn, .slice ac C.length cc], .slice a xs.length ca] w fun e w' => e = .returned (.tuple #[.int .i64 0, .int .i64 1]) ∧ Below w.heap.size w w' := by
  obtain ⟨W, hW, hb, hs, x0⟩ := boxes1 w #[.int .i64 (R : Int), .slice an N.length cn, .slice ac C.length cc] 24
  clear hs
  replace hN := hN.below hb (Nat.le_refl _); replace hC := hC.below hb (Nat.le_refl _); replace hX := hX.below hb (Nat.le_refl _)
  have c0 := x0.cell 0 rfl; have c1 := x0.cell 1 rfl; have c2 := x0.cell 2 rfl
  go_enter Try.func28, Try.ntmps28
  go_wp2_with fail
  refine (searchOf_arg_75 _ _ _ _ _ _ _ _ _ _ _ hN hC hX hv ho).mono ?_
  rintro e W1 ⟨rfl, hb1⟩
  replace hb := hb.trans (hb1.mono hb.size)
  have hz := hb.size
  clear c0 c1 c2 hW x0 hb1 hN hC hX
  unfold noSearch noBag
  go_wp2
  refine bodyPost_ret (v := .tuple #[.int .i64 0, .int .i64 1]) ?_ rfl ⟨rfl, ?_⟩
  · simp [results, Try.results28, go_sem]
  · exact (hb.alloc hz _).alloc (by simp; omega) _

set_option maxRecDepth 100000 in
set_option maxHeartbeats 1000000 in
theorem Most_28_ok (R : Nat) (an ac : Option Addr) (cn cc : Nat) (N C : List Int) (a : Option Addr) (ca : Nat) (xs : List Int) (w : World) (hN : Ints w an N) (hC : Ints w ac C) (hX : Ints w a xs) (hv : Vw R N C) (ho : okP C xs = true) :
    Calls Try.prog 28 #[.agg #[.int .i64 (R : Int), .slice an N.length cn, .slice ac C.length cc], .slice a xs.length ca] w fun e w' => e = .returned (.tuple #[.int .i64 (bst btm R N C ⟨bgN xs 0, bgN xs 1, bgN xs 2, bgN xs 3, 0, 0⟩), .int .i64 0]) ∧ Below w.heap.size w w' := by
  obtain ⟨W, hW, hb, hs, x0⟩ := boxes1 w #[.int .i64 (R : Int), .slice an N.length cn, .slice ac C.length cc] 24
  clear hs
  replace hN := hN.below hb (Nat.le_refl _); replace hC := hC.below hb (Nat.le_refl _); replace hX := hX.below hb (Nat.le_refl _)
  have c0 := x0.cell 0 rfl; have c1 := x0.cell 1 rfl; have c2 := x0.cell 2 rfl
  go_enter Try.func28, Try.ntmps28
  go_wp2_with fail
  refine (searchOf_ok_75 _ _ _ _ _ _ _ _ _ _ _ hN hC hX hv ho).mono ?_
  rintro e W1 ⟨ap, cp, P, mb, b0, b1, b2, b3, rfl, hb1, hmb, hk, hoff, hown, B0, B1, B2, B3, hsum⟩
  have hs := hb.size
  replace hb := hb.trans (hb1.mono hb.size)
  have HB := hid (show (⟨bgN xs 0, bgN xs 1, bgN xs 2, bgN xs 3, 0, 0⟩ : Sp) = ⟨b0, b1, b2, b3, 0, 0⟩ by rw [B0, B1, B2, B3])
  have hz := hb.size
  clear c0 c1 c2 hW x0 hb1 hN hC hX B0 B1 B2 B3
  go_wp2_with fail
  generalize hXX : World.alloc _ _ = W2
  have bb : Below W1.heap.size W1 W2 := by rw [← hXX]; (repeat (first | with_reducible assumption | with_reducible refine Below.alloc ?_ (by simp; try omega) _ | with_reducible refine Below.setCell ?_ (by simp; try omega) _ | with_reducible refine below_drewN ?_ _ | with_reducible exact Below.refl _ _))
  have bb0 := bb
  clear hXX
  replace hk := hk.below bb (Nat.le_refl _); replace hb := hb.trans (bb.mono hb.size); clear bb
  replace hown := hown.gr bb0
  clear bb0
  refine (buys_75 _ _ _ _ _ _ _ _ _ _ mb b0 b1 b2 b3 _ _ 0 hk hoff hown (MemoB_empty _ _ _ _) (by omega) hsum).mono ?_
  rintro e W3 ⟨rfl, D1, k1, hg1, -, -, -⟩
  replace hb := hb.grown hg1 hb.size (fun k hk => by cases hk; omega)
  clear hk hown hg1
  go_wp2
  refine bodyPost_ret (v := .tuple #[.int .i64 (bst btm R N C ⟨b0, b1, b2, b3, 0, 0⟩), .int .i64 0]) ?_ rfl ⟨by rw [HB.out], hb⟩
  simp [results, Try.results28, go_sem]

set_option maxRecDepth 100000 in
set_option maxHeartbeats 1000000 in
theorem Most_30_bad (r : Int) (an ac : Option Addr) (cn cc : Nat) (N C : List Int) (a : Option Addr) (ca : Nat) (xs : List Int) (w : World) (hN : Ints w an N) (hC : Ints w ac C) (hX : Ints w a xs) (hv : validB r N C = false) :
    Calls Try.prog 30 #[.agg #[.int .i64 r, .slice an N.length cn, .slice ac C.length cc], .slice a xs.length ca] w fun e w' => e = .returned (.tuple #[.int .i64 0, .int .i64 10]) ∧ Below w.heap.size w w' := by
  obtain ⟨W, hW, hb, hs, x0⟩ := boxes1 w #[.int .i64 r, .slice an N.length cn, .slice ac C.length cc] 24
  clear hs
  replace hN := hN.below hb (Nat.le_refl _); replace hC := hC.below hb (Nat.le_refl _); replace hX := hX.below hb (Nat.le_refl _)
  have c0 := x0.cell 0 rfl; have c1 := x0.cell 1 rfl; have c2 := x0.cell 2 rfl
  go_enter Try.func30, Try.ntmps30
  go_wp2_with fail
  refine (searchOf_bad _ _ _ _ _ _ _ 78 _ _ _ _ hN hC hv).mono ?_
  rintro e W1 ⟨rfl, hb1⟩
  replace hb := hb.trans (hb1.mono hb.size)
  have hz := hb.size
  clear c0 c1 c2 hW x0 hb1 hN hC hX
  unfold noSearch noBag
  go_wp2
  refine bodyPost_ret (v := .tuple #[.int .i64 0, .int .i64 10]) ?_ rfl ⟨rfl, ?_⟩
  · simp [results, Try.results30, go_sem]
  · exact (hb.alloc hz _).alloc (by simp; omega) _

set_option maxRecDepth 100000 in
set_option maxHeartbeats 1000000 in
theorem Most_30_arg (R : Nat) (an ac : Option Addr) (cn cc : Nat) (N C : List Int) (a : Option Addr) (ca : Nat) (xs : List Int) (w : World) (hN : Ints w an N) (hC : Ints w ac C) (hX : Ints w a xs) (hv : Vw R N C) (ho : okP C xs = false) :
    Calls Try.prog 30 #[.agg #[.int .i64 (R : Int), .slice an N.length cn, .slice ac C.length cc], .slice a xs.length ca] w fun e w' => e = .returned (.tuple #[.int .i64 0, .int .i64 1]) ∧ Below w.heap.size w w' := by
  obtain ⟨W, hW, hb, hs, x0⟩ := boxes1 w #[.int .i64 (R : Int), .slice an N.length cn, .slice ac C.length cc] 24
  clear hs
  replace hN := hN.below hb (Nat.le_refl _); replace hC := hC.below hb (Nat.le_refl _); replace hX := hX.below hb (Nat.le_refl _)
  have c0 := x0.cell 0 rfl; have c1 := x0.cell 1 rfl; have c2 := x0.cell 2 rfl
  go_enter Try.func30, Try.ntmps30
  go_wp2_with fail
  refine (searchOf_arg_78 _ _ _ _ _ _ _ _ _ _ _ hN hC hX hv ho).mono ?_
  rintro e W1 ⟨rfl, hb1⟩
  replace hb := hb.trans (hb1.mono hb.size)
  have hz := hb.size
  clear c0 c1 c2 hW x0 hb1 hN hC hX
  unfold noSearch noBag
  go_wp2
  refine bodyPost_ret (v := .tuple #[.int .i64 0, .int .i64 1]) ?_ rfl ⟨rfl, ?_⟩
  · simp [results, Try.results30, go_sem]
  · exact (hb.alloc hz _).alloc (by simp; omega) _

set_option maxRecDepth 100000 in
set_option maxHeartbeats 1000000 in
theorem Most_30_ok (R : Nat) (an ac : Option Addr) (cn cc : Nat) (N C : List Int) (a : Option Addr) (ca : Nat) (xs : List Int) (w : World) (hN : Ints w an N) (hC : Ints w ac C) (hX : Ints w a xs) (hv : Vw R N C) (ho : okP C xs = true) :
    Calls Try.prog 30 #[.agg #[.int .i64 (R : Int), .slice an N.length cn, .slice ac C.length cc], .slice a xs.length ca] w fun e w' => e = .returned (.tuple #[.int .i64 (bst btf R N C ⟨bgN xs 0, bgN xs 1, bgN xs 2, bgN xs 3, 0, 0⟩), .int .i64 0]) ∧ Below w.heap.size w w' := by
  obtain ⟨W, hW, hb, hs, x0⟩ := boxes1 w #[.int .i64 (R : Int), .slice an N.length cn, .slice ac C.length cc] 24
  clear hs
  replace hN := hN.below hb (Nat.le_refl _); replace hC := hC.below hb (Nat.le_refl _); replace hX := hX.below hb (Nat.le_refl _)
  have c0 := x0.cell 0 rfl; have c1 := x0.cell 1 rfl; have c2 := x0.cell 2 rfl
  go_enter Try.func30, Try.ntmps30
  go_wp2_with fail
  refine (searchOf_ok_78 _ _ _ _ _ _ _ _ _ _ _ hN hC hX hv ho).mono ?_
  rintro e W1 ⟨ap, cp, P, mb, b0, b1, b2, b3, rfl, hb1, hmb, hk, hoff, hown, B0, B1, B2, B3, hsum⟩
  have hs := hb.size
  replace hb := hb.trans (hb1.mono hb.size)
  have HB := hid (show (⟨bgN xs 0, bgN xs 1, bgN xs 2, bgN xs 3, 0, 0⟩ : Sp) = ⟨b0, b1, b2, b3, 0, 0⟩ by rw [B0, B1, B2, B3])
  have hz := hb.size
  clear c0 c1 c2 hW x0 hb1 hN hC hX B0 B1 B2 B3
  go_wp2_with fail
  generalize hXX : World.alloc _ _ = W2
  have bb : Below W1.heap.size W1 W2 := by rw [← hXX]; (repeat (first | with_reducible assumption | with_reducible refine Below.alloc ?_ (by simp; try omega) _ | with_reducible refine Below.setCell ?_ (by simp; try omega) _ | with_reducible refine below_drewN ?_ _ | with_reducible exact Below.refl _ _))
  have bb0 := bb
  clear hXX
  replace hk := hk.below bb (Nat.le_refl _); replace hb := hb.trans (bb.mono hb.size); clear bb
  replace hown := hown.gr bb0
  clear bb0
  refine (buys_78 _ _ _ _ _ _ _ _ _ _ mb b0 b1 b2 b3 _ _ 0 hk hoff hown (MemoB_empty _ _ _ _) (by omega) hsum).mono ?_
  rintro e W3 ⟨rfl, D1, k1, hg1, -, -, -⟩
  replace hb := hb.grown hg1 hb.size (fun k hk => by cases hk; omega)
  clear hk hown hg1
  go_wp2
  refine bodyPost_ret (v := .tuple #[.int .i64 (bst btf R N C ⟨b0, b1, b2, b3, 0, 0⟩), .int .i64 0]) ?_ rfl ⟨by rw [HB.out], hb⟩
  simp [results, Try.results30, go_sem]

end Go.Proofs.Ytmkmnedojgigoaa
