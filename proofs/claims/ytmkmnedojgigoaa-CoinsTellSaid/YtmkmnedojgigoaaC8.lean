import Derived.Test.YtmkmnedojgigoaaC7
import Derived.Test.YtmkmnedojgigoaaQ3
import Derived.Maps.OwnSet
namespace Go.Proofs.Ytmkmnedojgigoaa
open Go.RowKit

def noSearch : Value := .agg #[.int .i64 0, .slice none 0 0, .slice none 0 0, .slice none 0 0, .nilFunc, .map none]
def noBag : Value := .agg #[.int .i64 0, .int .i64 0, .int .i64 0, .int .i64 0]

set_option maxRecDepth 100000 in
set_option maxHeartbeats 1000000 in
theorem searchOf_bad (r : Int) (an ac : Option Addr) (cn cc : Nat) (N C : List Int) (F : Nat) (a : Option Addr) (ca : Nat) (xs : List Int) (w : World) (hN : Ints w an N) (hC : Ints w ac C) (hv : validB r N C = false) :
    Calls Try.prog 74 #[.agg #[.int .i64 r, .slice an N.length cn, .slice ac C.length cc], .slice a xs.length ca, .func (.func F) #[] #[]] w fun e w' => e = .returned (.tuple #[noSearch, noBag, .int .i64 10]) ∧ Below w.heap.size w w' := by
  obtain ⟨W, hW, hb, hs, x0, x1, x2⟩ := boxes3 w #[.int .i64 r, .slice an N.length cn, .slice ac C.length cc] 24 #[.int .i64 0, .slice none 0 0, .slice none 0 0, .slice none 0 0, .nilFunc, .map none] 90 #[.int .i64 0, .int .i64 0, .int .i64 0, .int .i64 0] 92
  clear hs
  replace hN := hN.below hb (Nat.le_refl _); replace hC := hC.below hb (Nat.le_refl _)
  have c0 := x0.cell 0 rfl; have c1 := x0.cell 1 rfl; have c2 := x0.cell 2 rfl
  go_enter Try.func74, Try.ntmps74
  go_wp2_with fail
  refine (valid_any _ _ _ _ _ _ _ _ hN hC).mono ?_
  rintro e W1 ⟨rfl, hb1⟩
  clear c0 c1 c2
  (try clear d0 d1 d2 d3 d4 d5); replace x1 := x1.below hb1; have d0 := x1.cell 0 rfl; have d1 := x1.cell 1 rfl; have d2 := x1.cell 2 rfl; have d3 := x1.cell 3 rfl; have d4 := x1.cell 4 rfl; have d5 := x1.cell 5 rfl; (try clear f0 f1 f2 f3 f4 f5); have f0 := x1.free 0; have f1 := x1.free 1; have f2 := x1.free 2; have f3 := x1.free 3; have f4 := x1.free 4; have f5 := x1.free 5; (try clear g0 g1 g2 g3); replace x2 := x2.below hb1; have g0 := x2.cell 0 rfl; have g1 := x2.cell 1 rfl; have g2 := x2.cell 2 rfl; have g3 := x2.cell 3 rfl; (try clear h0 h1 h2 h3); have h0 := x2.free 0; have h1 := x2.free 1; have h2 := x2.free 2; have h3 := x2.free 3; replace hb := hb.trans (hb1.mono hb.size); clear hb1
  clear hW
  go_wp2
  refine bodyPost_ret (v := .tuple #[noSearch, noBag, .int .i64 10]) ?_ rfl ⟨rfl, ?_⟩
  · have y1 := (Bx.set6 x1 (.int .i64 0) (.slice none 0 0) (.slice none 0 0) (.slice none 0 0) .nilFunc (.map none))
    simp [results, Try.results74, go_sem, noSearch, noBag, d0, d1, d2, d3, d4, d5, g0, g1, g2, g3]
  · (repeat (first | with_reducible assumption | with_reducible refine Below.alloc ?_ (by simp; try omega) _ | with_reducible refine Below.setCell ?_ (by simp; try omega) _ | with_reducible refine below_drewN ?_ _ | with_reducible exact Below.refl _ _))

def SearchOk (F : Nat) (R : Nat) (an ac : Option Addr) (cn cc : Nat) (N C xs : List Int) (w : World) (e : Ending) (w' : World) : Prop :=
  ∃ (ap : Option Addr) (cp : Nat) (P : List Int) (mb b0 b1 b2 b3 : Nat), e = .returned (.tuple #[.agg #[.int .i64 (R : Int), .slice an N.length cn, .slice ac C.length cc, .slice ap P.length cp, .func (.func F) #[] #[], .map (some mb)], .agg #[.int .i64 b0, .int .i64 b1, .int .i64 b2, .int .i64 b3], .int .i64 0]) ∧ Below w.heap.size w w' ∧ w.heap.size ≤ mb ∧
    Wk w' R an ac ap N C P ∧ OffW mb an ac ap N C P ∧ OwnM w' mb 0 (.map []) ∧ b0 = bgN xs 0 ∧ b1 = bgN xs 1 ∧ b2 = bgN xs 2 ∧ b3 = bgN xs 3 ∧ b0 + b1 + b2 + b3 ≤ 12


set_option maxRecDepth 100000 in
set_option maxHeartbeats 1000000 in
theorem searchOf_arg_75 (R : Nat) (an ac : Option Addr) (cn cc : Nat) (N C : List Int) (a : Option Addr) (ca : Nat) (xs : List Int) (w : World) (hN : Ints w an N) (hC : Ints w ac C) (hX : Ints w a xs) (hv : Vw R N C) (ho : okP C xs = false) :
    Calls Try.prog 74 #[.agg #[.int .i64 (R : Int), .slice an N.length cn, .slice ac C.length cc], .slice a xs.length ca, .func (.func 75) #[] #[]] w fun e w' => e = .returned (.tuple #[noSearch, noBag, .int .i64 1]) ∧ Below w.heap.size w w' := by
  obtain ⟨W, hW, hb, hs, x0, x1, x2⟩ := boxes3 w #[.int .i64 (R : Int), .slice an N.length cn, .slice ac C.length cc] 24 #[.int .i64 0, .slice none 0 0, .slice none 0 0, .slice none 0 0, .nilFunc, .map none] 90 #[.int .i64 0, .int .i64 0, .int .i64 0, .int .i64 0] 92
  clear hs
  replace hN := hN.below hb (Nat.le_refl _); replace hC := hC.below hb (Nat.le_refl _); replace hX := hX.below hb (Nat.le_refl _)
  have c0 := x0.cell 0 rfl; have c1 := x0.cell 1 rfl; have c2 := x0.cell 2 rfl
  have hval := hv.valid
  go_enter Try.func74, Try.ntmps74
  go_wp2_with fail
  refine (valid_any _ _ _ _ _ _ _ _ hN hC).mono ?_
  rintro e W1 ⟨rfl, hb1⟩
  clear hW
  replace hN := hN.below hb1 (Nat.le_refl _); replace hC := hC.below hb1 (Nat.le_refl _); replace hX := hX.below hb1 (Nat.le_refl _); (try clear c0 c1 c2); replace x0 := x0.below hb1; have c0 := x0.cell 0 rfl; have c1 := x0.cell 1 rfl; have c2 := x0.cell 2 rfl; replace x1 := x1.below hb1; replace x2 := x2.below hb1; replace hb := hb.trans (hb1.mono hb.size); clear hb1
  go_wp2_with fail
  refine (newWheel_any _ _ _ _ _ _ _ _ hN hC hv).mono ?_
  rintro e W2 ⟨ap, cp, P, rfl, hk, hb1, hap⟩
  replace hX := hX.below hb1 (Nat.le_refl _); replace x1 := x1.below hb1; replace x2 := x2.below hb1; replace hb := hb.trans (hb1.mono hb.size); clear hb1
  clear hN hC x0 c0 c1 c2 hval
  have b1 := below_one (w := W2) (.cells #[.int .i64 (R : Int), .slice an N.length cn, .slice ac C.length cc, .slice ap P.length cp] 73)
  have x0 := Bx.new W2 #[.int .i64 (R : Int), .slice an N.length cn, .slice ac C.length cc, .slice ap P.length cp] 73
  replace hk := hk.below b1 (Nat.le_refl _); replace hX := hX.below b1 (Nat.le_refl _); replace x1 := x1.below b1; replace x2 := x2.below b1; replace hb := hb.trans (b1.mono hb.size); clear b1
  have c0 := x0.cell 0 rfl; have c1 := x0.cell 1 rfl; have c2 := x0.cell 2 rfl; have c3 := x0.cell 3 rfl
  go_wp2_with fail
  generalize World.alloc W2 _ = W3 at *
  generalize hg : W2.heap.size = g at *
  clear hg
  refine (bagOf_any _ _ _ _ _ _ _ _ _ _ _ _ _ _ hv hX).mono ?_
  rintro e W4 ⟨hb1, b0, b1, b2, b3, rfl, hok⟩
  replace hk := hk.below hb1 (Nat.le_refl _); replace hX := hX.below hb1 (Nat.le_refl _); (try clear d0 d1 d2 d3 d4 d5); replace x1 := x1.below hb1; have d0 := x1.cell 0 rfl; have d1 := x1.cell 1 rfl; have d2 := x1.cell 2 rfl; have d3 := x1.cell 3 rfl; have d4 := x1.cell 4 rfl; have d5 := x1.cell 5 rfl; (try clear f0 f1 f2 f3 f4 f5); have f0 := x1.free 0; have f1 := x1.free 1; have f2 := x1.free 2; have f3 := x1.free 3; have f4 := x1.free 4; have f5 := x1.free 5; (try clear g0 g1 g2 g3); replace x2 := x2.below hb1; have g0 := x2.cell 0 rfl; have g1 := x2.cell 1 rfl; have g2 := x2.cell 2 rfl; have g3 := x2.cell 3 rfl; (try clear h0 h1 h2 h3); have h0 := x2.free 0; have h1 := x2.free 1; have h2 := x2.free 2; have h3 := x2.free 3; replace hb := hb.trans (hb1.mono hb.size); clear hb1
  have l1 := x1.lt
  have l2 := x2.lt
  clear hok c0 c1 c2 c3 x0
  go_wp2
  generalize hXX : World.alloc _ _ = Wf
  have z1 : Bx Wf (w.heap.size + 1) #[.int .i64 0, .slice none 0 0, .slice none 0 0, .slice none 0 0, .nilFunc, .map none] 90 := by
    rw [← hXX]
    refine Bx.alloc ?_ _
    iterate 4 (refine Bx.other ?_ (by show w.heap.size + 1 ≠ w.heap.size + 1 + 1; omega) _)
    exact Bx.set6 x1 _ _ _ _ _ _
  have z2 : Bx Wf (w.heap.size + 1 + 1) #[.int .i64 0, .int .i64 0, .int .i64 0, .int .i64 0] 92 := by
    rw [← hXX]
    refine Bx.alloc ?_ _
    apply Bx.set4 (a0 := .int .i64 0) (a1 := .int .i64 0) (a2 := .int .i64 0) (a3 := .int .i64 0)
    iterate 6 (refine Bx.other ?_ (by show w.heap.size + 1 + 1 ≠ w.heap.size + 1; omega) _)
    exact x2
  have zb : Below w.heap.size w Wf := by
    rw [← hXX]
    (repeat (first | with_reducible assumption | with_reducible refine Below.alloc ?_ (by simp; try omega) _ | with_reducible refine Below.setCell ?_ (by simp; try omega) _ | with_reducible refine below_drewN ?_ _ | with_reducible exact Below.refl _ _))
  clear hXX x1 x2 d0 d1 d2 d3 d4 d5 f0 f1 f2 f3 f4 f5 g0 g1 g2 g3 h0 h1 h2 h3
  have d0 := z1.cell 0 rfl; have d1 := z1.cell 1 rfl; have d2 := z1.cell 2 rfl; have d3 := z1.cell 3 rfl; have d4 := z1.cell 4 rfl; have d5 := z1.cell 5 rfl; have g0 := z2.cell 0 rfl; have g1 := z2.cell 1 rfl; have g2 := z2.cell 2 rfl; have g3 := z2.cell 3 rfl
  refine bodyPost_ret (v := .tuple #[noSearch, noBag, .int .i64 1]) ?_ rfl ⟨rfl, zb⟩
  simp [results, Try.results74, go_sem, noSearch, noBag, d0, d1, d2, d3, d4, d5, g0, g1, g2, g3]


set_option maxRecDepth 100000 in
set_option maxHeartbeats 1000000 in
theorem searchOf_arg_78 (R : Nat) (an ac : Option Addr) (cn cc : Nat) (N C : List Int) (a : Option Addr) (ca : Nat) (xs : List Int) (w : World) (hN : Ints w an N) (hC : Ints w ac C) (hX : Ints w a xs) (hv : Vw R N C) (ho : okP C xs = false) :
    Calls Try.prog 74 #[.agg #[.int .i64 (R : Int), .slice an N.length cn, .slice ac C.length cc], .slice a xs.length ca, .func (.func 78) #[] #[]] w fun e w' => e = .returned (.tuple #[noSearch, noBag, .int .i64 1]) ∧ Below w.heap.size w w' := by
  obtain ⟨W, hW, hb, hs, x0, x1, x2⟩ := boxes3 w #[.int .i64 (R : Int), .slice an N.length cn, .slice ac C.length cc] 24 #[.int .i64 0, .slice none 0 0, .slice none 0 0, .slice none 0 0, .nilFunc, .map none] 90 #[.int .i64 0, .int .i64 0, .int .i64 0, .int .i64 0] 92
  clear hs
  replace hN := hN.below hb (Nat.le_refl _); replace hC := hC.below hb (Nat.le_refl _); replace hX := hX.below hb (Nat.le_refl _)
  have c0 := x0.cell 0 rfl; have c1 := x0.cell 1 rfl; have c2 := x0.cell 2 rfl
  have hval := hv.valid
  go_enter Try.func74, Try.ntmps74
  go_wp2_with fail
  refine (valid_any _ _ _ _ _ _ _ _ hN hC).mono ?_
  rintro e W1 ⟨rfl, hb1⟩
  clear hW
  replace hN := hN.below hb1 (Nat.le_refl _); replace hC := hC.below hb1 (Nat.le_refl _); replace hX := hX.below hb1 (Nat.le_refl _); (try clear c0 c1 c2); replace x0 := x0.below hb1; have c0 := x0.cell 0 rfl; have c1 := x0.cell 1 rfl; have c2 := x0.cell 2 rfl; replace x1 := x1.below hb1; replace x2 := x2.below hb1; replace hb := hb.trans (hb1.mono hb.size); clear hb1
  go_wp2_with fail
  refine (newWheel_any _ _ _ _ _ _ _ _ hN hC hv).mono ?_
  rintro e W2 ⟨ap, cp, P, rfl, hk, hb1, hap⟩
  replace hX := hX.below hb1 (Nat.le_refl _); replace x1 := x1.below hb1; replace x2 := x2.below hb1; replace hb := hb.trans (hb1.mono hb.size); clear hb1
  clear hN hC x0 c0 c1 c2 hval
  have b1 := below_one (w := W2) (.cells #[.int .i64 (R : Int), .slice an N.length cn, .slice ac C.length cc, .slice ap P.length cp] 73)
  have x0 := Bx.new W2 #[.int .i64 (R : Int), .slice an N.length cn, .slice ac C.length cc, .slice ap P.length cp] 73
  replace hk := hk.below b1 (Nat.le_refl _); replace hX := hX.below b1 (Nat.le_refl _); replace x1 := x1.below b1; replace x2 := x2.below b1; replace hb := hb.trans (b1.mono hb.size); clear b1
  have c0 := x0.cell 0 rfl; have c1 := x0.cell 1 rfl; have c2 := x0.cell 2 rfl; have c3 := x0.cell 3 rfl
  go_wp2_with fail
  generalize World.alloc W2 _ = W3 at *
  generalize hg : W2.heap.size = g at *
  clear hg
  refine (bagOf_any _ _ _ _ _ _ _ _ _ _ _ _ _ _ hv hX).mono ?_
  rintro e W4 ⟨hb1, b0, b1, b2, b3, rfl, hok⟩
  replace hk := hk.below hb1 (Nat.le_refl _); replace hX := hX.below hb1 (Nat.le_refl _); (try clear d0 d1 d2 d3 d4 d5); replace x1 := x1.below hb1; have d0 := x1.cell 0 rfl; have d1 := x1.cell 1 rfl; have d2 := x1.cell 2 rfl; have d3 := x1.cell 3 rfl; have d4 := x1.cell 4 rfl; have d5 := x1.cell 5 rfl; (try clear f0 f1 f2 f3 f4 f5); have f0 := x1.free 0; have f1 := x1.free 1; have f2 := x1.free 2; have f3 := x1.free 3; have f4 := x1.free 4; have f5 := x1.free 5; (try clear g0 g1 g2 g3); replace x2 := x2.below hb1; have g0 := x2.cell 0 rfl; have g1 := x2.cell 1 rfl; have g2 := x2.cell 2 rfl; have g3 := x2.cell 3 rfl; (try clear h0 h1 h2 h3); have h0 := x2.free 0; have h1 := x2.free 1; have h2 := x2.free 2; have h3 := x2.free 3; replace hb := hb.trans (hb1.mono hb.size); clear hb1
  have l1 := x1.lt
  have l2 := x2.lt
  clear hok c0 c1 c2 c3 x0
  go_wp2
  generalize hXX : World.alloc _ _ = Wf
  have z1 : Bx Wf (w.heap.size + 1) #[.int .i64 0, .slice none 0 0, .slice none 0 0, .slice none 0 0, .nilFunc, .map none] 90 := by
    rw [← hXX]
    refine Bx.alloc ?_ _
    iterate 4 (refine Bx.other ?_ (by show w.heap.size + 1 ≠ w.heap.size + 1 + 1; omega) _)
    exact Bx.set6 x1 _ _ _ _ _ _
  have z2 : Bx Wf (w.heap.size + 1 + 1) #[.int .i64 0, .int .i64 0, .int .i64 0, .int .i64 0] 92 := by
    rw [← hXX]
    refine Bx.alloc ?_ _
    apply Bx.set4 (a0 := .int .i64 0) (a1 := .int .i64 0) (a2 := .int .i64 0) (a3 := .int .i64 0)
    iterate 6 (refine Bx.other ?_ (by show w.heap.size + 1 + 1 ≠ w.heap.size + 1; omega) _)
    exact x2
  have zb : Below w.heap.size w Wf := by
    rw [← hXX]
    (repeat (first | with_reducible assumption | with_reducible refine Below.alloc ?_ (by simp; try omega) _ | with_reducible refine Below.setCell ?_ (by simp; try omega) _ | with_reducible refine below_drewN ?_ _ | with_reducible exact Below.refl _ _))
  clear hXX x1 x2 d0 d1 d2 d3 d4 d5 f0 f1 f2 f3 f4 f5 g0 g1 g2 g3 h0 h1 h2 h3
  have d0 := z1.cell 0 rfl; have d1 := z1.cell 1 rfl; have d2 := z1.cell 2 rfl; have d3 := z1.cell 3 rfl; have d4 := z1.cell 4 rfl; have d5 := z1.cell 5 rfl; have g0 := z2.cell 0 rfl; have g1 := z2.cell 1 rfl; have g2 := z2.cell 2 rfl; have g3 := z2.cell 3 rfl
  refine bodyPost_ret (v := .tuple #[noSearch, noBag, .int .i64 1]) ?_ rfl ⟨rfl, zb⟩
  simp [results, Try.results74, go_sem, noSearch, noBag, d0, d1, d2, d3, d4, d5, g0, g1, g2, g3]




set_option maxRecDepth 100000 in
set_option maxHeartbeats 1000000 in
theorem searchOf_ok_75 (R : Nat) (an ac : Option Addr) (cn cc : Nat) (N C : List Int) (a : Option Addr) (ca : Nat) (xs : List Int) (w : World) (hN : Ints w an N) (hC : Ints w ac C) (hX : Ints w a xs) (hv : Vw R N C) (ho : okP C xs = true) :
    Calls Try.prog 74 #[.agg #[.int .i64 (R : Int), .slice an N.length cn, .slice ac C.length cc], .slice a xs.length ca, .func (.func 75) #[] #[]] w (SearchOk 75 R an ac cn cc N C xs w) := by
  obtain ⟨W, hW, hb, hs, x0, x1, x2⟩ := boxes3 w #[.int .i64 (R : Int), .slice an N.length cn, .slice ac C.length cc] 24 #[.int .i64 0, .slice none 0 0, .slice none 0 0, .slice none 0 0, .nilFunc, .map none] 90 #[.int .i64 0, .int .i64 0, .int .i64 0, .int .i64 0] 92
  clear hs
  have oN := Off.of_old hN (show w.heap.size ≤ w.heap.size + 1 by omega)
  have oC := Off.of_old hC (show w.heap.size ≤ w.heap.size + 1 by omega)
  have pN := Off.of_old hN (show w.heap.size ≤ w.heap.size + 1 + 1 by omega)
  have pC := Off.of_old hC (show w.heap.size ≤ w.heap.size + 1 + 1 by omega)
  replace hN := hN.below hb (Nat.le_refl _); replace hC := hC.below hb (Nat.le_refl _); replace hX := hX.below hb (Nat.le_refl _)
  have c0 := x0.cell 0 rfl; have c1 := x0.cell 1 rfl; have c2 := x0.cell 2 rfl
  have hval := hv.valid
  go_enter Try.func74, Try.ntmps74
  go_wp2_with fail
  refine (valid_any _ _ _ _ _ _ _ _ hN hC).mono ?_
  rintro e W1 ⟨rfl, hb1⟩
  clear hW
  replace hN := hN.below hb1 (Nat.le_refl _); replace hC := hC.below hb1 (Nat.le_refl _); replace hX := hX.below hb1 (Nat.le_refl _); (try clear c0 c1 c2); replace x0 := x0.below hb1; have c0 := x0.cell 0 rfl; have c1 := x0.cell 1 rfl; have c2 := x0.cell 2 rfl; replace x1 := x1.below hb1; replace x2 := x2.below hb1; replace hb := hb.trans (hb1.mono hb.size); clear hb1
  go_wp2_with fail
  have lx1 := x2.lt
  refine (newWheel_any _ _ _ _ _ _ _ _ hN hC hv).mono ?_
  rintro e W2 ⟨ap, cp, P, rfl, hk, hb1, hap⟩
  have O := hid (show Off (w.heap.size + 1) an N.length ∧ Off (w.heap.size + 1) ac C.length ∧ Off (w.heap.size + 1) ap P.length from ⟨oN, oC, Off.of_new hap (by omega)⟩)
  have O2 := hid (show Off (w.heap.size + 1 + 1) an N.length ∧ Off (w.heap.size + 1 + 1) ac C.length ∧ Off (w.heap.size + 1 + 1) ap P.length from ⟨pN, pC, Off.of_new hap (by omega)⟩)
  clear hap oN oC pN pC lx1
  replace hX := hX.below hb1 (Nat.le_refl _); replace x1 := x1.below hb1; replace x2 := x2.below hb1; replace hb := hb.trans (hb1.mono hb.size); clear hb1
  have lg := x2.lt
  clear hN hC x0 c0 c1 c2 hval
  have b1 := below_one (w := W2) (.cells #[.int .i64 (R : Int), .slice an N.length cn, .slice ac C.length cc, .slice ap P.length cp] 73)
  have x0 := Bx.new W2 #[.int .i64 (R : Int), .slice an N.length cn, .slice ac C.length cc, .slice ap P.length cp] 73
  replace hk := hk.below b1 (Nat.le_refl _); replace hX := hX.below b1 (Nat.le_refl _); replace x1 := x1.below b1; replace x2 := x2.below b1; replace hb := hb.trans (b1.mono hb.size); clear b1
  have c0 := x0.cell 0 rfl; have c1 := x0.cell 1 rfl; have c2 := x0.cell 2 rfl; have c3 := x0.cell 3 rfl
  go_wp2_with fail
  generalize World.alloc W2 _ = W3 at *
  generalize hg : W2.heap.size = g at *
  clear hg
  refine (bagOf_any _ _ _ _ _ _ _ _ _ _ _ _ _ _ hv hX).mono ?_
  rintro e W4 ⟨hb1, b0, b1, b2, b3, rfl, hok⟩
  have hm := hX.len
  replace hk := hk.below hb1 (Nat.le_refl _); (try clear c0 c1 c2 c3); replace x0 := x0.below hb1; have c0 := x0.cell 0 rfl; have c1 := x0.cell 1 rfl; have c2 := x0.cell 2 rfl; have c3 := x0.cell 3 rfl; replace x1 := x1.below hb1; replace x2 := x2.below hb1; replace hb := hb.trans (hb1.mono hb.size); clear hb1
  have Hok := hid (hok ho)
  clear hok
  have lq := x2.lt
  have lgq := x0.lt
  have y := Bx.new W4 #[.int .i64 b0, .int .i64 b1, .int .i64 b2, .int .i64 b3] 92
  have bb := below_one (w := W4) (.cells #[.int .i64 b0, .int .i64 b1, .int .i64 b2, .int .i64 b3] 92)
  replace hk := hk.below bb (Nat.le_refl _); (try clear c0 c1 c2 c3); replace x0 := x0.below bb; have c0 := x0.cell 0 rfl; have c1 := x0.cell 1 rfl; have c2 := x0.cell 2 rfl; have c3 := x0.cell 3 rfl; replace x1 := x1.below bb; replace x2 := x2.below bb; replace hb := hb.trans (bb.mono hb.size); clear bb
  have k0 := y.cell 0 rfl; have k1 := y.cell 1 rfl; have k2 := y.cell 2 rfl; have k3 := y.cell 3 rfl
  go_wp2_with fail
  generalize World.alloc W4 _ = W5 at *
  generalize hg : W4.heap.size = q at *
  clear hg
  have l1 := x1.lt
  have l2 := x2.lt
  have Hho := hid ho; clear ho
  have hkd : Wk W5.drew R an ac ap N C P := hk.qd ⟨1, rfl⟩
  have x0d := x0.drew; have x1d := x1.drew; have x2d := x2.drew; have yd := y.drew
  have hbd : Below w.heap.size w W5.drew := hb.drew
  clear hk x0 x1 x2 y hb hm c0 c1 c2 c3 k0 k1 k2 k3
  refine wp_region_head 5 (fun w' => Bx w' g #[.int .i64 (R : Int), .slice an N.length cn, .slice ac C.length cc, .slice ap P.length cp] 73 ∧ Bx w' q #[.int .i64 b0, .int .i64 b1, .int .i64 b2, .int .i64 b3] 92) (by kernel_rfl) rfl ?_
  refine HeadAt.take (i := 0) (.agg #[.int .i64 (R : Int), .slice an N.length cn, .slice ac C.length cc, .slice ap P.length cp]) rfl (by kernel_rfl) (.inl ⟨rfl, fun w' hS => ?_⟩) ⟨x0d, yd⟩ ?_
  · obtain ⟨z, _⟩ := hS
    have z0 := z.cell 0 rfl; have z1 := z.cell 1 rfl; have z2 := z.cell 2 rfl; have z3 := z.cell 3 rfl
    simp [go_sem, z0, z1, z2, z3]
  refine HeadAt.take (i := 1) (.func (.func 75) #[] #[]) rfl (by kernel_rfl) (.inl ⟨rfl, fun w' hS => ?_⟩) ⟨x0d, yd⟩ ?_
  · simp [go_sem]
  refine HeadAt.take (i := 3) (.agg #[.int .i64 b0, .int .i64 b1, .int .i64 b2, .int .i64 b3]) rfl (by kernel_rfl) (.inl ⟨rfl, fun w' hS => ?_⟩) ⟨x0d, yd⟩ ?_
  · obtain ⟨_, z⟩ := hS
    have z0 := z.cell 0 rfl; have z1 := z.cell 1 rfl; have z2 := z.cell 2 rfl; have z3 := z.cell 3 rfl
    simp [go_sem, z0, z1, z2, z3]
  refine HeadAt.one (i := 2) rfl (by kernel_rfl) ?_
  generalize hK : Upto _ _ = K0
  simp only [Act.put, List.getElem_toArray, List.getElem_cons_succ, List.getElem_cons_zero, List.setIfInBounds_toArray, List.set_cons_succ, List.set_cons_zero]
  go_wp2_with fail
  refine (newSearch_75 _ _ _ _ _ _ _ _ _ _ _ hkd).mono ?_
  rintro e W6 ⟨mb, rfl, hb1, hmb, hown, hk⟩
  have o : OffW mb an ac ap N C P := ⟨Off.of_old hkd.hN hmb, Off.of_old hkd.hC hmb, Off.of_old hkd.hP hmb⟩
  have om : W5.drew.heap.size ≤ mb := hmb
  clear hkd
  have lmb := hmb
  have l1 := x1d.lt; have l2 := x2d.lt; have l3 := x0d.lt; have l4 := yd.lt
  replace x0d := x0d.below hb1; replace yd := yd.below hb1; (try clear m0 m1 m2 m3 m4 m5); replace x1d := x1d.below hb1; have m0 := x1d.cell 0 rfl; have m1 := x1d.cell 1 rfl; have m2 := x1d.cell 2 rfl; have m3 := x1d.cell 3 rfl; have m4 := x1d.cell 4 rfl; have m5 := x1d.cell 5 rfl; (try clear n0 n1 n2 n3 n4 n5); have n0 := x1d.free 0; have n1 := x1d.free 1; have n2 := x1d.free 2; have n3 := x1d.free 3; have n4 := x1d.free 4; have n5 := x1d.free 5; (try clear p0 p1 p2 p3); replace x2d := x2d.below hb1; have p0 := x2d.cell 0 rfl; have p1 := x2d.cell 1 rfl; have p2 := x2d.cell 2 rfl; have p3 := x2d.cell 3 rfl; (try clear s0 s1 s2 s3); have s0 := x2d.free 0; have s1 := x2d.free 1; have s2 := x2d.free 2; have s3 := x2d.free 3; replace hbd := hbd.trans (hb1.mono hbd.size); clear hb1
  go_wp2
  subst hK
  refine ⟨⟨x0d, yd⟩, ?_⟩
  refine HeadAt.one (i := 4) rfl (by kernel_rfl) ?_
  generalize hK : Upto _ _ = K0
  simp only [List.getElem_toArray, List.getElem_cons_succ, List.getElem_cons_zero]
  go_wp2
  subst hK
  generalize hXX : World.setCell _ _ _ = Wf
  have hh : w.heap.size + 1 < W5.drew.heap.size := l1
  have o1 := O.out
  have z0 : Bx Wf g #[.int .i64 (R : Int), .slice an N.length cn, .slice ac C.length cc, .slice ap P.length cp] 73 := by
    rw [← hXX]
    iterate 6 (refine Bx.other ?_ (by show g ≠ w.heap.size + 1; omega) _)
    exact x0d
  have zq : Bx Wf q #[.int .i64 b0, .int .i64 b1, .int .i64 b2, .int .i64 b3] 92 := by
    rw [← hXX]
    iterate 6 (refine Bx.other ?_ (by show q ≠ w.heap.size + 1; omega) _)
    exact yd
  have z1 : Bx Wf (w.heap.size + 1) #[.int .i64 (R : Int), .slice an N.length cn, .slice ac C.length cc, .slice ap P.length cp, .func (.func 75) #[] #[], .map (some mb)] 90 := by
    rw [← hXX]
    exact Bx.set6 x1d _ _ _ _ _ _
  have z2 : Bx Wf (w.heap.size + 1 + 1) #[.int .i64 0, .int .i64 0, .int .i64 0, .int .i64 0] 92 := by
    rw [← hXX]
    iterate 6 (refine Bx.other ?_ (by show w.heap.size + 1 + 1 ≠ w.heap.size + 1; omega) _)
    exact x2d
  have zb : Below w.heap.size w Wf := by
    rw [← hXX]
    (repeat (first | with_reducible assumption | with_reducible refine Below.alloc ?_ (by simp; try omega) _ | with_reducible refine Below.setCell ?_ (by simp; try omega) _ | with_reducible refine below_drewN ?_ _ | with_reducible exact Below.refl _ _))
  have zo : OwnM Wf mb 0 (.map []) := by
    rw [← hXX]
    iterate 6 (refine World.ownsMap.setCell ?_ (by show mb ≠ w.heap.size + 1; omega) _)
    exact hown
  have zk : Wk Wf R an ac ap N C P := by
    rw [← hXX]
    iterate 6 (refine Wk.set ?_ o1 _ _)
    exact hk
  clear hXX x0d yd x1d x2d m0 m1 m2 m3 m4 m5 n0 n1 n2 n3 n4 n5 p0 p1 p2 p3 s0 s1 s2 s3 hbd hown hk
  refine ⟨⟨z0, zq⟩, ?_⟩
  refine HeadAt.done (by kernel_rfl) ?_
  have p0 := z2.cell 0 rfl; have p1 := z2.cell 1 rfl; have p2 := z2.cell 2 rfl; have p3 := z2.cell 3 rfl; have s0 := z2.free 0; have s1 := z2.free 1; have s2 := z2.free 2; have s3 := z2.free 3
  simp only [List.drop_succ_cons, List.drop_zero]
  go_wp2
  refine NoPanic.normal ?_
  go_wp2
  generalize hXX : World.setCell _ _ _ = Wg
  have y1 : Bx Wg (w.heap.size + 1) #[.int .i64 (R : Int), .slice an N.length cn, .slice ac C.length cc, .slice ap P.length cp, .func (.func 75) #[] #[], .map (some mb)] 90 := by
    rw [← hXX]
    iterate 4 (refine Bx.other ?_ (by show w.heap.size + 1 ≠ w.heap.size + 1 + 1; omega) _)
    exact z1
  have y2 : Bx Wg (w.heap.size + 1 + 1) #[.int .i64 b0, .int .i64 b1, .int .i64 b2, .int .i64 b3] 92 := by
    rw [← hXX]
    exact Bx.set4 z2 _ _ _ _
  have yb : Below w.heap.size w Wg := by
    rw [← hXX]
    (repeat (first | with_reducible assumption | with_reducible refine Below.alloc ?_ (by simp; try omega) _ | with_reducible refine Below.setCell ?_ (by simp; try omega) _ | with_reducible refine below_drewN ?_ _ | with_reducible exact Below.refl _ _))
  have yo : OwnM Wg mb 0 (.map []) := by
    rw [← hXX]
    iterate 4 (refine World.ownsMap.setCell ?_ (by show mb ≠ w.heap.size + 1 + 1; omega) _)
    exact zo
  have yk : Wk Wg R an ac ap N C P := by
    rw [← hXX]
    iterate 4 (refine Wk.set ?_ O2.out _ _)
    exact zk
  clear hXX z1 z2 zb zo zk p0 p1 p2 p3 s0 s1 s2 s3 z0 zq
  refine bodyPost_ret (v := .tuple #[.agg #[.int .i64 (R : Int), .slice an N.length cn, .slice ac C.length cc, .slice ap P.length cp, .func (.func 75) #[] #[], .map (some mb)], .agg #[.int .i64 b0, .int .i64 b1, .int .i64 b2, .int .i64 b3], .int .i64 0]) ?_ rfl ⟨ap, cp, P, mb, b0, b1, b2, b3, rfl, yb, by omega, yk, o, yo, Hok.out⟩
  have d0 := y1.cell 0 rfl; have d1 := y1.cell 1 rfl; have d2 := y1.cell 2 rfl; have d3 := y1.cell 3 rfl; have d4 := y1.cell 4 rfl; have d5 := y1.cell 5 rfl; have g0 := y2.cell 0 rfl; have g1 := y2.cell 1 rfl; have g2 := y2.cell 2 rfl; have g3 := y2.cell 3 rfl
  simp [results, Try.results74, go_sem, d0, d1, d2, d3, d4, d5, g0, g1, g2, g3]

set_option maxRecDepth 100000 in
set_option maxHeartbeats 1000000 in
theorem searchOf_ok_78 (R : Nat) (an ac : Option Addr) (cn cc : Nat) (N C : List Int) (a : Option Addr) (ca : Nat) (xs : List Int) (w : World) (hN : Ints w an N) (hC : Ints w ac C) (hX : Ints w a xs) (hv : Vw R N C) (ho : okP C xs = true) :
    Calls Try.prog 74 #[.agg #[.int .i64 (R : Int), .slice an N.length cn, .slice ac C.length cc], .slice a xs.length ca, .func (.func 78) #[] #[]] w (SearchOk 78 R an ac cn cc N C xs w) := by
  obtain ⟨W, hW, hb, hs, x0, x1, x2⟩ := boxes3 w #[.int .i64 (R : Int), .slice an N.length cn, .slice ac C.length cc] 24 #[.int .i64 0, .slice none 0 0, .slice none 0 0, .slice none 0 0, .nilFunc, .map none] 90 #[.int .i64 0, .int .i64 0, .int .i64 0, .int .i64 0] 92
  clear hs
  have oN := Off.of_old hN (show w.heap.size ≤ w.heap.size + 1 by omega)
  have oC := Off.of_old hC (show w.heap.size ≤ w.heap.size + 1 by omega)
  have pN := Off.of_old hN (show w.heap.size ≤ w.heap.size + 1 + 1 by omega)
  have pC := Off.of_old hC (show w.heap.size ≤ w.heap.size + 1 + 1 by omega)
  replace hN := hN.below hb (Nat.le_refl _); replace hC := hC.below hb (Nat.le_refl _); replace hX := hX.below hb (Nat.le_refl _)
  have c0 := x0.cell 0 rfl; have c1 := x0.cell 1 rfl; have c2 := x0.cell 2 rfl
  have hval := hv.valid
  go_enter Try.func74, Try.ntmps74
  go_wp2_with fail
  refine (valid_any _ _ _ _ _ _ _ _ hN hC).mono ?_
  rintro e W1 ⟨rfl, hb1⟩
  clear hW
  replace hN := hN.below hb1 (Nat.le_refl _); replace hC := hC.below hb1 (Nat.le_refl _); replace hX := hX.below hb1 (Nat.le_refl _); (try clear c0 c1 c2); replace x0 := x0.below hb1; have c0 := x0.cell 0 rfl; have c1 := x0.cell 1 rfl; have c2 := x0.cell 2 rfl; replace x1 := x1.below hb1; replace x2 := x2.below hb1; replace hb := hb.trans (hb1.mono hb.size); clear hb1
  go_wp2_with fail
  have lx1 := x2.lt
  refine (newWheel_any _ _ _ _ _ _ _ _ hN hC hv).mono ?_
  rintro e W2 ⟨ap, cp, P, rfl, hk, hb1, hap⟩
  have O := hid (show Off (w.heap.size + 1) an N.length ∧ Off (w.heap.size + 1) ac C.length ∧ Off (w.heap.size + 1) ap P.length from ⟨oN, oC, Off.of_new hap (by omega)⟩)
  have O2 := hid (show Off (w.heap.size + 1 + 1) an N.length ∧ Off (w.heap.size + 1 + 1) ac C.length ∧ Off (w.heap.size + 1 + 1) ap P.length from ⟨pN, pC, Off.of_new hap (by omega)⟩)
  clear hap oN oC pN pC lx1
  replace hX := hX.below hb1 (Nat.le_refl _); replace x1 := x1.below hb1; replace x2 := x2.below hb1; replace hb := hb.trans (hb1.mono hb.size); clear hb1
  have lg := x2.lt
  clear hN hC x0 c0 c1 c2 hval
  have b1 := below_one (w := W2) (.cells #[.int .i64 (R : Int), .slice an N.length cn, .slice ac C.length cc, .slice ap P.length cp] 73)
  have x0 := Bx.new W2 #[.int .i64 (R : Int), .slice an N.length cn, .slice ac C.length cc, .slice ap P.length cp] 73
  replace hk := hk.below b1 (Nat.le_refl _); replace hX := hX.below b1 (Nat.le_refl _); replace x1 := x1.below b1; replace x2 := x2.below b1; replace hb := hb.trans (b1.mono hb.size); clear b1
  have c0 := x0.cell 0 rfl; have c1 := x0.cell 1 rfl; have c2 := x0.cell 2 rfl; have c3 := x0.cell 3 rfl
  go_wp2_with fail
  generalize World.alloc W2 _ = W3 at *
  generalize hg : W2.heap.size = g at *
  clear hg
  refine (bagOf_any _ _ _ _ _ _ _ _ _ _ _ _ _ _ hv hX).mono ?_
  rintro e W4 ⟨hb1, b0, b1, b2, b3, rfl, hok⟩
  have hm := hX.len
  replace hk := hk.below hb1 (Nat.le_refl _); (try clear c0 c1 c2 c3); replace x0 := x0.below hb1; have c0 := x0.cell 0 rfl; have c1 := x0.cell 1 rfl; have c2 := x0.cell 2 rfl; have c3 := x0.cell 3 rfl; replace x1 := x1.below hb1; replace x2 := x2.below hb1; replace hb := hb.trans (hb1.mono hb.size); clear hb1
  have Hok := hid (hok ho)
  clear hok
  have lq := x2.lt
  have lgq := x0.lt
  have y := Bx.new W4 #[.int .i64 b0, .int .i64 b1, .int .i64 b2, .int .i64 b3] 92
  have bb := below_one (w := W4) (.cells #[.int .i64 b0, .int .i64 b1, .int .i64 b2, .int .i64 b3] 92)
  replace hk := hk.below bb (Nat.le_refl _); (try clear c0 c1 c2 c3); replace x0 := x0.below bb; have c0 := x0.cell 0 rfl; have c1 := x0.cell 1 rfl; have c2 := x0.cell 2 rfl; have c3 := x0.cell 3 rfl; replace x1 := x1.below bb; replace x2 := x2.below bb; replace hb := hb.trans (bb.mono hb.size); clear bb
  have k0 := y.cell 0 rfl; have k1 := y.cell 1 rfl; have k2 := y.cell 2 rfl; have k3 := y.cell 3 rfl
  go_wp2_with fail
  generalize World.alloc W4 _ = W5 at *
  generalize hg : W4.heap.size = q at *
  clear hg
  have l1 := x1.lt
  have l2 := x2.lt
  have Hho := hid ho; clear ho
  have hkd : Wk W5.drew R an ac ap N C P := hk.qd ⟨1, rfl⟩
  have x0d := x0.drew; have x1d := x1.drew; have x2d := x2.drew; have yd := y.drew
  have hbd : Below w.heap.size w W5.drew := hb.drew
  clear hk x0 x1 x2 y hb hm c0 c1 c2 c3 k0 k1 k2 k3
  refine wp_region_head 5 (fun w' => Bx w' g #[.int .i64 (R : Int), .slice an N.length cn, .slice ac C.length cc, .slice ap P.length cp] 73 ∧ Bx w' q #[.int .i64 b0, .int .i64 b1, .int .i64 b2, .int .i64 b3] 92) (by kernel_rfl) rfl ?_
  refine HeadAt.take (i := 0) (.agg #[.int .i64 (R : Int), .slice an N.length cn, .slice ac C.length cc, .slice ap P.length cp]) rfl (by kernel_rfl) (.inl ⟨rfl, fun w' hS => ?_⟩) ⟨x0d, yd⟩ ?_
  · obtain ⟨z, _⟩ := hS
    have z0 := z.cell 0 rfl; have z1 := z.cell 1 rfl; have z2 := z.cell 2 rfl; have z3 := z.cell 3 rfl
    simp [go_sem, z0, z1, z2, z3]
  refine HeadAt.take (i := 1) (.func (.func 78) #[] #[]) rfl (by kernel_rfl) (.inl ⟨rfl, fun w' hS => ?_⟩) ⟨x0d, yd⟩ ?_
  · simp [go_sem]
  refine HeadAt.take (i := 3) (.agg #[.int .i64 b0, .int .i64 b1, .int .i64 b2, .int .i64 b3]) rfl (by kernel_rfl) (.inl ⟨rfl, fun w' hS => ?_⟩) ⟨x0d, yd⟩ ?_
  · obtain ⟨_, z⟩ := hS
    have z0 := z.cell 0 rfl; have z1 := z.cell 1 rfl; have z2 := z.cell 2 rfl; have z3 := z.cell 3 rfl
    simp [go_sem, z0, z1, z2, z3]
  refine HeadAt.one (i := 2) rfl (by kernel_rfl) ?_
  generalize hK : Upto _ _ = K0
  simp only [Act.put, List.getElem_toArray, List.getElem_cons_succ, List.getElem_cons_zero, List.setIfInBounds_toArray, List.set_cons_succ, List.set_cons_zero]
  go_wp2_with fail
  refine (newSearch_78 _ _ _ _ _ _ _ _ _ _ _ hkd).mono ?_
  rintro e W6 ⟨mb, rfl, hb1, hmb, hown, hk⟩
  have o : OffW mb an ac ap N C P := ⟨Off.of_old hkd.hN hmb, Off.of_old hkd.hC hmb, Off.of_old hkd.hP hmb⟩
  have om : W5.drew.heap.size ≤ mb := hmb
  clear hkd
  have lmb := hmb
  have l1 := x1d.lt; have l2 := x2d.lt; have l3 := x0d.lt; have l4 := yd.lt
  replace x0d := x0d.below hb1; replace yd := yd.below hb1; (try clear m0 m1 m2 m3 m4 m5); replace x1d := x1d.below hb1; have m0 := x1d.cell 0 rfl; have m1 := x1d.cell 1 rfl; have m2 := x1d.cell 2 rfl; have m3 := x1d.cell 3 rfl; have m4 := x1d.cell 4 rfl; have m5 := x1d.cell 5 rfl; (try clear n0 n1 n2 n3 n4 n5); have n0 := x1d.free 0; have n1 := x1d.free 1; have n2 := x1d.free 2; have n3 := x1d.free 3; have n4 := x1d.free 4; have n5 := x1d.free 5; (try clear p0 p1 p2 p3); replace x2d := x2d.below hb1; have p0 := x2d.cell 0 rfl; have p1 := x2d.cell 1 rfl; have p2 := x2d.cell 2 rfl; have p3 := x2d.cell 3 rfl; (try clear s0 s1 s2 s3); have s0 := x2d.free 0; have s1 := x2d.free 1; have s2 := x2d.free 2; have s3 := x2d.free 3; replace hbd := hbd.trans (hb1.mono hbd.size); clear hb1
  go_wp2
  subst hK
  refine ⟨⟨x0d, yd⟩, ?_⟩
  refine HeadAt.one (i := 4) rfl (by kernel_rfl) ?_
  generalize hK : Upto _ _ = K0
  simp only [List.getElem_toArray, List.getElem_cons_succ, List.getElem_cons_zero]
  go_wp2
  subst hK
  generalize hXX : World.setCell _ _ _ = Wf
  have hh : w.heap.size + 1 < W5.drew.heap.size := l1
  have o1 := O.out
  have z0 : Bx Wf g #[.int .i64 (R : Int), .slice an N.length cn, .slice ac C.length cc, .slice ap P.length cp] 73 := by
    rw [← hXX]
    iterate 6 (refine Bx.other ?_ (by show g ≠ w.heap.size + 1; omega) _)
    exact x0d
  have zq : Bx Wf q #[.int .i64 b0, .int .i64 b1, .int .i64 b2, .int .i64 b3] 92 := by
    rw [← hXX]
    iterate 6 (refine Bx.other ?_ (by show q ≠ w.heap.size + 1; omega) _)
    exact yd
  have z1 : Bx Wf (w.heap.size + 1) #[.int .i64 (R : Int), .slice an N.length cn, .slice ac C.length cc, .slice ap P.length cp, .func (.func 78) #[] #[], .map (some mb)] 90 := by
    rw [← hXX]
    exact Bx.set6 x1d _ _ _ _ _ _
  have z2 : Bx Wf (w.heap.size + 1 + 1) #[.int .i64 0, .int .i64 0, .int .i64 0, .int .i64 0] 92 := by
    rw [← hXX]
    iterate 6 (refine Bx.other ?_ (by show w.heap.size + 1 + 1 ≠ w.heap.size + 1; omega) _)
    exact x2d
  have zb : Below w.heap.size w Wf := by
    rw [← hXX]
    (repeat (first | with_reducible assumption | with_reducible refine Below.alloc ?_ (by simp; try omega) _ | with_reducible refine Below.setCell ?_ (by simp; try omega) _ | with_reducible refine below_drewN ?_ _ | with_reducible exact Below.refl _ _))
  have zo : OwnM Wf mb 0 (.map []) := by
    rw [← hXX]
    iterate 6 (refine World.ownsMap.setCell ?_ (by show mb ≠ w.heap.size + 1; omega) _)
    exact hown
  have zk : Wk Wf R an ac ap N C P := by
    rw [← hXX]
    iterate 6 (refine Wk.set ?_ o1 _ _)
    exact hk
  clear hXX x0d yd x1d x2d m0 m1 m2 m3 m4 m5 n0 n1 n2 n3 n4 n5 p0 p1 p2 p3 s0 s1 s2 s3 hbd hown hk
  refine ⟨⟨z0, zq⟩, ?_⟩
  refine HeadAt.done (by kernel_rfl) ?_
  have p0 := z2.cell 0 rfl; have p1 := z2.cell 1 rfl; have p2 := z2.cell 2 rfl; have p3 := z2.cell 3 rfl; have s0 := z2.free 0; have s1 := z2.free 1; have s2 := z2.free 2; have s3 := z2.free 3
  simp only [List.drop_succ_cons, List.drop_zero]
  go_wp2
  refine NoPanic.normal ?_
  go_wp2
  generalize hXX : World.setCell _ _ _ = Wg
  have y1 : Bx Wg (w.heap.size + 1) #[.int .i64 (R : Int), .slice an N.length cn, .slice ac C.length cc, .slice ap P.length cp, .func (.func 78) #[] #[], .map (some mb)] 90 := by
    rw [← hXX]
    iterate 4 (refine Bx.other ?_ (by show w.heap.size + 1 ≠ w.heap.size + 1 + 1; omega) _)
    exact z1
  have y2 : Bx Wg (w.heap.size + 1 + 1) #[.int .i64 b0, .int .i64 b1, .int .i64 b2, .int .i64 b3] 92 := by
    rw [← hXX]
    exact Bx.set4 z2 _ _ _ _
  have yb : Below w.heap.size w Wg := by
    rw [← hXX]
    (repeat (first | with_reducible assumption | with_reducible refine Below.alloc ?_ (by simp; try omega) _ | with_reducible refine Below.setCell ?_ (by simp; try omega) _ | with_reducible refine below_drewN ?_ _ | with_reducible exact Below.refl _ _))
  have yo : OwnM Wg mb 0 (.map []) := by
    rw [← hXX]
    iterate 4 (refine World.ownsMap.setCell ?_ (by show mb ≠ w.heap.size + 1 + 1; omega) _)
    exact zo
  have yk : Wk Wg R an ac ap N C P := by
    rw [← hXX]
    iterate 4 (refine Wk.set ?_ O2.out _ _)
    exact zk
  clear hXX z1 z2 zb zo zk p0 p1 p2 p3 s0 s1 s2 s3 z0 zq
  refine bodyPost_ret (v := .tuple #[.agg #[.int .i64 (R : Int), .slice an N.length cn, .slice ac C.length cc, .slice ap P.length cp, .func (.func 78) #[] #[], .map (some mb)], .agg #[.int .i64 b0, .int .i64 b1, .int .i64 b2, .int .i64 b3], .int .i64 0]) ?_ rfl ⟨ap, cp, P, mb, b0, b1, b2, b3, rfl, yb, by omega, yk, o, yo, Hok.out⟩
  have d0 := y1.cell 0 rfl; have d1 := y1.cell 1 rfl; have d2 := y1.cell 2 rfl; have d3 := y1.cell 3 rfl; have d4 := y1.cell 4 rfl; have d5 := y1.cell 5 rfl; have g0 := y2.cell 0 rfl; have g1 := y2.cell 1 rfl; have g2 := y2.cell 2 rfl; have g3 := y2.cell 3 rfl
  simp [results, Try.results74, go_sem, d0, d1, d2, d3, d4, d5, g0, g1, g2, g3]

end Go.Proofs.Ytmkmnedojgigoaa
