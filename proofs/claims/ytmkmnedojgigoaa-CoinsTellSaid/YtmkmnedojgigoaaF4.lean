import Derived.Test.YtmkmnedojgigoaaF3
import Derived.Test.YtmkmnedojgigoaaA5
namespace Go.Proofs.Ytmkmnedojgigoaa
open Go.RowKit

def noWheel : Value := .agg #[.int .i64 0, .slice none 0 0, .slice none 0 0, .slice none 0 0]

set_option maxRecDepth 100000 in
set_option maxHeartbeats 1000000 in
theorem placesOf_bad (r : Int) (an ac : Option Addr) (cn cc : Nat) (N C : List Int) (a : Option Addr) (ca : Nat) (xs : List (Int × Int)) (w : World) (hN : Ints w an N) (hC : Ints w ac C) (hv : validB r N C = false) :
    Calls Try.prog 85 #[.agg #[.int .i64 r, .slice an N.length cn, .slice ac C.length cc], .slice a xs.length ca] w fun e w' => e = .returned (.tuple #[noWheel, .slice none 0 0, .int .i64 10]) ∧ Below w.heap.size w w' := by
  obtain ⟨W, hW, hb, hs, x0, x1⟩ := boxes2 w #[.int .i64 r, .slice an N.length cn, .slice ac C.length cc] 24 #[.int .i64 0, .slice none 0 0, .slice none 0 0, .slice none 0 0] 73
  clear hs
  replace hN := hN.below hb (Nat.le_refl _); replace hC := hC.below hb (Nat.le_refl _)
  have c0 := x0.cell 0 rfl; have c1 := x0.cell 1 rfl; have c2 := x0.cell 2 rfl
  go_enter Try.func85, Try.ntmps85
  go_wp2_with fail
  refine (valid_any _ _ _ _ _ _ _ _ hN hC).mono ?_
  rintro e W1 ⟨rfl, hb1⟩
  clear hW
  (try clear d0 d1 d2 d3); replace x1 := x1.below hb1; have d0 := x1.cell 0 rfl; have d1 := x1.cell 1 rfl; have d2 := x1.cell 2 rfl; have d3 := x1.cell 3 rfl; (try clear f0 f1 f2 f3); have f0 := x1.free 0; have f1 := x1.free 1; have f2 := x1.free 2; have f3 := x1.free 3; replace hb := hb.trans (hb1.mono hb.size); clear hb1
  clear c0 c1 c2
  go_wp2
  refine bodyPost_ret (v := .tuple #[noWheel, .slice none 0 0, .int .i64 10]) ?_ rfl ⟨rfl, ?_⟩
  · have y := Bx.set4 x1 (.int .i64 0) (.slice none 0 0) (.slice none 0 0) (.slice none 0 0)
    clear d0 d1 d2 d3 f0 f1 f2 f3
    have d0 := y.cell 0 rfl; have d1 := y.cell 1 rfl; have d2 := y.cell 2 rfl; have d3 := y.cell 3 rfl
    simp [results, Try.results85, go_sem, noWheel, d0, d1, d2, d3]
  · (repeat (first | with_reducible assumption | with_reducible refine Below.alloc ?_ (by simp; try omega) _ | with_reducible refine Below.setCell ?_ (by simp; try omega) _ | with_reducible refine below_drewN ?_ _ | with_reducible exact Below.refl _ _))

set_option maxRecDepth 100000 in
set_option maxHeartbeats 1000000 in
theorem placesOf_arg (R : Nat) (an ac : Option Addr) (cn cc : Nat) (N C : List Int) (a : Option Addr) (ca : Nat) (xs : List (Int × Int)) (w : World) (hN : Ints w an N) (hC : Ints w ac C) (hX : Prs w a xs) (hv : Vw R N C) (ho : (decide (xs.length ≤ 20) && xs.all (isSeenB C)) = false) :
    Calls Try.prog 85 #[.agg #[.int .i64 (R : Int), .slice an N.length cn, .slice ac C.length cc], .slice a xs.length ca] w fun e w' => e = .returned (.tuple #[noWheel, .slice none 0 0, .int .i64 1]) ∧ Below w.heap.size w w' := by
  obtain ⟨W, hW, hb, hs, x0, x1⟩ := boxes2 w #[.int .i64 (R : Int), .slice an N.length cn, .slice ac C.length cc] 24 #[.int .i64 0, .slice none 0 0, .slice none 0 0, .slice none 0 0] 73
  clear hs
  replace hN := hN.below hb (Nat.le_refl _); replace hC := hC.below hb (Nat.le_refl _); replace hX := hX.below hb (Nat.le_refl _)
  have c0 := x0.cell 0 rfl; have c1 := x0.cell 1 rfl; have c2 := x0.cell 2 rfl
  have hval := hv.valid
  have Ho := hid ho; clear ho
  go_enter Try.func85, Try.ntmps85
  go_wp2_with fail
  refine (valid_any _ _ _ _ _ _ _ _ hN hC).mono ?_
  rintro e W1 ⟨rfl, hb1⟩
  clear hW
  replace hN := hN.below hb1 (Nat.le_refl _); replace hC := hC.below hb1 (Nat.le_refl _); replace hX := hX.below hb1 (Nat.le_refl _); (try clear c0 c1 c2); replace x0 := x0.below hb1; have c0 := x0.cell 0 rfl; have c1 := x0.cell 1 rfl; have c2 := x0.cell 2 rfl; replace x1 := x1.below hb1; replace hb := hb.trans (hb1.mono hb.size); clear hb1
  go_wp2_with fail
  refine (newWheel_any _ _ _ _ _ _ _ _ hN hC hv).mono ?_
  rintro e W2 ⟨ap, cp, P, rfl, hk, hb1, hap⟩
  replace hX := hX.below hb1 (Nat.le_refl _); replace x1 := x1.below hb1; replace hb := hb.trans (hb1.mono hb.size); clear hb1
  clear hN hC x0 c0 c1 c2 hval hap
  have b1 := below_one (w := W2) (.cells #[.int .i64 (R : Int), .slice an N.length cn, .slice ac C.length cc, .slice ap P.length cp] 73)
  have x0 := Bx.new W2 #[.int .i64 (R : Int), .slice an N.length cn, .slice ac C.length cc, .slice ap P.length cp] 73
  have lg := x1.lt
  replace hk := hk.below b1 (Nat.le_refl _); replace hX := hX.below b1 (Nat.le_refl _); replace x1 := x1.below b1; replace hb := hb.trans (b1.mono hb.size); clear b1
  have c0 := x0.cell 0 rfl; have c1 := x0.cell 1 rfl; have c2 := x0.cell 2 rfl; have c3 := x0.cell 3 rfl
  go_wp2_with fail
  generalize World.alloc W2 _ = W3 at *
  generalize hg : W2.heap.size = g at *
  clear hg
  refine (isListS_any _ _ _ _ _ _ _ _ _ _ _ _ xs _ hv hX).mono ?_
  rintro e W4 ⟨rfl, hb1⟩
  rw [Ho.out]
  (try clear d0 d1 d2 d3); replace x1 := x1.below hb1; have d0 := x1.cell 0 rfl; have d1 := x1.cell 1 rfl; have d2 := x1.cell 2 rfl; have d3 := x1.cell 3 rfl; (try clear f0 f1 f2 f3); have f0 := x1.free 0; have f1 := x1.free 1; have f2 := x1.free 2; have f3 := x1.free 3; replace hb := hb.trans (hb1.mono hb.size); clear hb1
  clear c0 c1 c2 c3 x0 hk hX
  go_wp2
  refine bodyPost_ret (v := .tuple #[noWheel, .slice none 0 0, .int .i64 1]) ?_ rfl ⟨rfl, ?_⟩
  · have y := Bx.set4 x1 (.int .i64 0) (.slice none 0 0) (.slice none 0 0) (.slice none 0 0)
    clear d0 d1 d2 d3 f0 f1 f2 f3
    have d0 := y.cell 0 rfl; have d1 := y.cell 1 rfl; have d2 := y.cell 2 rfl; have d3 := y.cell 3 rfl
    simp [results, Try.results85, go_sem, noWheel, d0, d1, d2, d3]
  · (repeat (first | with_reducible assumption | with_reducible refine Below.alloc ?_ (by simp; try omega) _ | with_reducible refine Below.setCell ?_ (by simp; try omega) _ | with_reducible refine below_drewN ?_ _ | with_reducible exact Below.refl _ _))

set_option maxRecDepth 100000 in
set_option maxHeartbeats 1000000 in
theorem placesOf_none (R : Nat) (an ac : Option Addr) (cn cc : Nat) (N C : List Int) (a : Option Addr) (ca : Nat) (xs : List (Int × Int)) (w : World) (hN : Ints w an N) (hC : Ints w ac C) (hX : Prs w a xs) (hv : Vw R N C) (ho : (decide (xs.length ≤ 20) && xs.all (isSeenB C)) = true) (hz : bef R N C xs R = []) :
    Calls Try.prog 85 #[.agg #[.int .i64 (R : Int), .slice an N.length cn, .slice ac C.length cc], .slice a xs.length ca] w fun e w' => e = .returned (.tuple #[noWheel, .slice none 0 0, .int .i64 3]) ∧ Below w.heap.size w w' := by
  have HZ := hid hz; clear hz
  obtain ⟨W, hW, hb, hs, x0, x1⟩ := boxes2 w #[.int .i64 (R : Int), .slice an N.length cn, .slice ac C.length cc] 24 #[.int .i64 0, .slice none 0 0, .slice none 0 0, .slice none 0 0] 73
  clear hs
  replace hN := hN.below hb (Nat.le_refl _); replace hC := hC.below hb (Nat.le_refl _); replace hX := hX.below hb (Nat.le_refl _)
  have c0 := x0.cell 0 rfl; have c1 := x0.cell 1 rfl; have c2 := x0.cell 2 rfl
  have hval := hv.valid
  have Ho := hid ho; clear ho
  go_enter Try.func85, Try.ntmps85
  go_wp2_with fail
  refine (valid_any _ _ _ _ _ _ _ _ hN hC).mono ?_
  rintro e W1 ⟨rfl, hb1⟩
  clear hW
  replace hN := hN.below hb1 (Nat.le_refl _); replace hC := hC.below hb1 (Nat.le_refl _); replace hX := hX.below hb1 (Nat.le_refl _); (try clear c0 c1 c2); replace x0 := x0.below hb1; have c0 := x0.cell 0 rfl; have c1 := x0.cell 1 rfl; have c2 := x0.cell 2 rfl; replace x1 := x1.below hb1; replace hb := hb.trans (hb1.mono hb.size); clear hb1
  go_wp2_with fail
  refine (newWheel_any _ _ _ _ _ _ _ _ hN hC hv).mono ?_
  rintro e W2 ⟨ap, cp, P, rfl, hk, hb1, hap⟩
  replace hX := hX.below hb1 (Nat.le_refl _); replace x1 := x1.below hb1; replace hb := hb.trans (hb1.mono hb.size); clear hb1
  clear hN hC x0 c0 c1 c2 hval hap
  have b1 := below_one (w := W2) (.cells #[.int .i64 (R : Int), .slice an N.length cn, .slice ac C.length cc, .slice ap P.length cp] 73)
  have x0 := Bx.new W2 #[.int .i64 (R : Int), .slice an N.length cn, .slice ac C.length cc, .slice ap P.length cp] 73
  have lg := x1.lt
  replace hk := hk.below b1 (Nat.le_refl _); replace hX := hX.below b1 (Nat.le_refl _); replace x1 := x1.below b1; replace hb := hb.trans (b1.mono hb.size); clear b1
  have c0 := x0.cell 0 rfl; have c1 := x0.cell 1 rfl; have c2 := x0.cell 2 rfl; have c3 := x0.cell 3 rfl
  go_wp2_with fail
  generalize World.alloc W2 _ = W3 at *
  generalize hg : W2.heap.size = g at *
  clear hg
  refine (isListS_any _ _ _ _ _ _ _ _ _ _ _ _ xs _ hv hX).mono ?_
  rintro e W4 ⟨rfl, hb1⟩
  rw [Ho.out]
  replace hk := hk.below hb1 (Nat.le_refl _); replace hX := hX.below hb1 (Nat.le_refl _); (try clear c0 c1 c2 c3); replace x0 := x0.below hb1; have c0 := x0.cell 0 rfl; have c1 := x0.cell 1 rfl; have c2 := x0.cell 2 rfl; have c3 := x0.cell 3 rfl; replace x1 := x1.below hb1; replace hb := hb.trans (hb1.mono hb.size); clear hb1
  have ho := Ho.out
  simp only [Bool.and_eq_true, decide_eq_true_eq] at ho
  go_wp2_with fail
  refine (before_any _ _ _ _ _ _ _ _ _ _ _ _ xs _ hk hX ho.1 ho.2).mono ?_
  rintro e W5 ⟨hb1, a2, ca2, rfl, hi, hnew⟩
  (try clear d0 d1 d2 d3); replace x1 := x1.below hb1; have d0 := x1.cell 0 rfl; have d1 := x1.cell 1 rfl; have d2 := x1.cell 2 rfl; have d3 := x1.cell 3 rfl; (try clear f0 f1 f2 f3); have f0 := x1.free 0; have f1 := x1.free 1; have f2 := x1.free 2; have f3 := x1.free 3; replace hb := hb.trans (hb1.mono hb.size); clear hb1
  clear c0 c1 c2 c3 x0 hk hX hi hnew
  rw [HZ.out, List.length_nil]
  go_wp2
  refine bodyPost_ret (v := .tuple #[noWheel, .slice none 0 0, .int .i64 3]) ?_ rfl ⟨rfl, ?_⟩
  · have y := Bx.set4 x1 (.int .i64 0) (.slice none 0 0) (.slice none 0 0) (.slice none 0 0)
    clear d0 d1 d2 d3 f0 f1 f2 f3
    have d0 := y.cell 0 rfl; have d1 := y.cell 1 rfl; have d2 := y.cell 2 rfl; have d3 := y.cell 3 rfl
    simp [results, Try.results85, go_sem, noWheel, d0, d1, d2, d3]
  · (repeat (first | with_reducible assumption | with_reducible refine Below.alloc ?_ (by simp; try omega) _ | with_reducible refine Below.setCell ?_ (by simp; try omega) _ | with_reducible refine below_drewN ?_ _ | with_reducible exact Below.refl _ _))

def PlacesOk (R : Nat) (an ac : Option Addr) (cn cc : Nat) (N C : List Int) (xs : List (Int × Int)) (w : World) (e : Ending) (w' : World) : Prop :=
  ∃ (ap : Option Addr) (cp : Nat) (P : List Int) (a : Option Addr) (ca : Nat), e = .returned (.tuple #[.agg #[.int .i64 (R : Int), .slice an N.length cn, .slice ac C.length cc, .slice ap P.length cp], .slice a (bef R N C xs R).length ca, .int .i64 0]) ∧ Below w.heap.size w w' ∧ Wk w' R an ac ap N C P ∧ Ints w' a (bef R N C xs R) ∧ ∀ x, a = some x → w.heap.size ≤ x.block

set_option maxRecDepth 100000 in
set_option maxHeartbeats 1000000 in
theorem placesOf_ok (R : Nat) (an ac : Option Addr) (cn cc : Nat) (N C : List Int) (a : Option Addr) (ca : Nat) (xs : List (Int × Int)) (w : World) (hN : Ints w an N) (hC : Ints w ac C) (hX : Prs w a xs) (hv : Vw R N C) (ho : (decide (xs.length ≤ 20) && xs.all (isSeenB C)) = true) (hz : bef R N C xs R ≠ []) :
    Calls Try.prog 85 #[.agg #[.int .i64 (R : Int), .slice an N.length cn, .slice ac C.length cc], .slice a xs.length ca] w (PlacesOk R an ac cn cc N C xs w) := by
  have hz1 := List.length_pos_iff.2 hz
  have hz2 := bef_len R N C xs R
  have hr2 := hv.r2
  have hzB : ((bef R N C xs R).length : Int) ≠ 0 := by omega
  have hzB2 : (((bef R N C xs R).length : Int) == 0) = false := by simp; exact hz
  clear hz
  have oN := Off.of_old hN (show w.heap.size ≤ w.heap.size + 1 by omega)
  have oC := Off.of_old hC (show w.heap.size ≤ w.heap.size + 1 by omega)
  obtain ⟨W, hW, hb, hs, x0, x1⟩ := boxes2 w #[.int .i64 (R : Int), .slice an N.length cn, .slice ac C.length cc] 24 #[.int .i64 0, .slice none 0 0, .slice none 0 0, .slice none 0 0] 73
  clear hs
  replace hN := hN.below hb (Nat.le_refl _); replace hC := hC.below hb (Nat.le_refl _); replace hX := hX.below hb (Nat.le_refl _)
  have c0 := x0.cell 0 rfl; have c1 := x0.cell 1 rfl; have c2 := x0.cell 2 rfl
  have hval := hv.valid
  have Ho := hid ho; clear ho
  go_enter Try.func85, Try.ntmps85
  go_wp2_with fail
  refine (valid_any _ _ _ _ _ _ _ _ hN hC).mono ?_
  rintro e W1 ⟨rfl, hb1⟩
  clear hW
  replace hN := hN.below hb1 (Nat.le_refl _); replace hC := hC.below hb1 (Nat.le_refl _); replace hX := hX.below hb1 (Nat.le_refl _); (try clear c0 c1 c2); replace x0 := x0.below hb1; have c0 := x0.cell 0 rfl; have c1 := x0.cell 1 rfl; have c2 := x0.cell 2 rfl; replace x1 := x1.below hb1; replace hb := hb.trans (hb1.mono hb.size); clear hb1
  go_wp2_with fail
  have lx1 := x1.lt
  refine (newWheel_any _ _ _ _ _ _ _ _ hN hC hv).mono ?_
  rintro e W2 ⟨ap, cp, P, rfl, hk, hb1, hap⟩
  replace hX := hX.below hb1 (Nat.le_refl _); replace x1 := x1.below hb1; replace hb := hb.trans (hb1.mono hb.size); clear hb1
  clear hN hC x0 c0 c1 c2 hval
  have O := hid (show Off (w.heap.size + 1) an N.length ∧ Off (w.heap.size + 1) ac C.length ∧ Off (w.heap.size + 1) ap P.length from ⟨oN, oC, Off.of_new hap lx1⟩)
  clear oN oC lx1 hap
  have b1 := below_one (w := W2) (.cells #[.int .i64 (R : Int), .slice an N.length cn, .slice ac C.length cc, .slice ap P.length cp] 73)
  have x0 := Bx.new W2 #[.int .i64 (R : Int), .slice an N.length cn, .slice ac C.length cc, .slice ap P.length cp] 73
  have lg := x1.lt
  replace hk := hk.below b1 (Nat.le_refl _); replace hX := hX.below b1 (Nat.le_refl _); replace x1 := x1.below b1; replace hb := hb.trans (b1.mono hb.size); clear b1
  have c0 := x0.cell 0 rfl; have c1 := x0.cell 1 rfl; have c2 := x0.cell 2 rfl; have c3 := x0.cell 3 rfl
  go_wp2_with fail
  generalize World.alloc W2 _ = W3 at *
  generalize hg : W2.heap.size = g at *
  clear hg
  refine (isListS_any _ _ _ _ _ _ _ _ _ _ _ _ xs _ hv hX).mono ?_
  rintro e W4 ⟨rfl, hb1⟩
  rw [Ho.out]
  replace hk := hk.below hb1 (Nat.le_refl _); replace hX := hX.below hb1 (Nat.le_refl _); (try clear c0 c1 c2 c3); replace x0 := x0.below hb1; have c0 := x0.cell 0 rfl; have c1 := x0.cell 1 rfl; have c2 := x0.cell 2 rfl; have c3 := x0.cell 3 rfl; replace x1 := x1.below hb1; replace hb := hb.trans (hb1.mono hb.size); clear hb1
  have ho := Ho.out
  simp only [Bool.and_eq_true, decide_eq_true_eq] at ho
  go_wp2_with fail
  refine (before_any _ _ _ _ _ _ _ _ _ _ _ _ xs _ hk hX ho.1 ho.2).mono ?_
  rintro e W5 ⟨hb1, a2, ca2, rfl, hi, hnew⟩
  have hnew2 : ∀ x, a2 = some x → w.heap.size + 1 < x.block := fun x hx => by have := hnew x hx; have := x1.lt; omega
  replace hk := hk.below hb1 (Nat.le_refl _); (try clear c0 c1 c2 c3); replace x0 := x0.below hb1; have c0 := x0.cell 0 rfl; have c1 := x0.cell 1 rfl; have c2 := x0.cell 2 rfl; have c3 := x0.cell 3 rfl; (try clear d0 d1 d2 d3); replace x1 := x1.below hb1; have d0 := x1.cell 0 rfl; have d1 := x1.cell 1 rfl; have d2 := x1.cell 2 rfl; have d3 := x1.cell 3 rfl; (try clear f0 f1 f2 f3); have f0 := x1.free 0; have f1 := x1.free 1; have f2 := x1.free 2; have f3 := x1.free 3; replace hb := hb.trans (hb1.mono hb.size); clear hb1
  clear hX hnew
  generalize hpl : bef R N C xs R = pl at *
  have HP := hid hpl; clear hpl
  go_wp2
  generalize hXX : World.setCell _ _ _ = Wg
  have y1 : Bx Wg (w.heap.size + 1) #[.int .i64 (R : Int), .slice an N.length cn, .slice ac C.length cc, .slice ap P.length cp] 73 := by
    rw [← hXX]
    exact Bx.set4 x1 _ _ _ _
  have yb : Below w.heap.size w Wg := by
    rw [← hXX]
    (repeat (first | with_reducible assumption | with_reducible refine Below.alloc ?_ (by simp; try omega) _ | with_reducible refine Below.setCell ?_ (by simp; try omega) _ | with_reducible refine below_drewN ?_ _ | with_reducible exact Below.refl _ _))
  have yk : Wk Wg R an ac ap N C P := by
    rw [← hXX]
    iterate 4 (refine Wk.set ?_ O.out _ _)
    exact hk
  have yi : Ints Wg a2 pl := by
    rw [← hXX]
    iterate 4 (refine Ints.set ?_ (fun _ x hx => by have := hnew2 x hx; omega) _ _)
    exact hi
  clear hXX x1 d0 d1 d2 d3 f0 f1 f2 f3
  have d0 := y1.cell 0 rfl; have d1 := y1.cell 1 rfl; have d2 := y1.cell 2 rfl; have d3 := y1.cell 3 rfl
  refine bodyPost_ret (v := .tuple #[.agg #[.int .i64 (R : Int), .slice an N.length cn, .slice ac C.length cc, .slice ap P.length cp], .slice a2 pl.length ca2, .int .i64 0]) ?_ rfl ?_
  · simp [results, Try.results85, go_sem, d0, d1, d2, d3]
  · unfold PlacesOk
    rw [HP.out]
    exact ⟨ap, cp, P, a2, ca2, rfl, yb, yk, yi, fun x hx => by have := hnew2 x hx; omega⟩

end Go.Proofs.Ytmkmnedojgigoaa
