import Derived.Test.YtmkmnedojgigoaaV4
import Derived.Test.YtmkmnedojgigoaaR3
import Derived.Test.YtmkmnedojgigoaaK4
namespace Go.Proofs.Ytmkmnedojgigoaa
open Go.RowKit

set_option maxRecDepth 100000 in
set_option maxHeartbeats 1000000 in
theorem ws_arg0 (r : Int) (an ac : Option Addr) (cn cc : Nat) (N C : List Int) (p s : Option Addr) (cp cs : Nat) (xs ys : List Int) (w : World) (hN : Ints w an N) (hC : Ints w ac C) (hX : Ints w p xs) (hY : Ints w s ys) (hw : isWhl r N C = false) :
    Calls Try.prog 12 #[.agg #[.int .i64 r, .slice an N.length cn, .slice ac C.length cc], .slice p xs.length cp, .slice s ys.length cs] w (WorksP w) := by
  have lx : (xs.length : Int) ≤ 9223372036854775807 := by have := hX.len; omega
  have ly : (ys.length : Int) ≤ 9223372036854775807 := by have := hY.len; omega
  obtain ⟨W, hW, hb, hs, x0⟩ := boxes1 w #[.int .i64 r, .slice an N.length cn, .slice ac C.length cc] 24
  clear hs
  have hN0 := hN; have hC0 := hC
  clear hN hC
  have c0 := x0.cell 0 rfl; have c1 := x0.cell 1 rfl; have c2 := x0.cell 2 rfl
  go_enter Try.func12, Try.ntmps12
  go_wp2_with fail
  refine (isWheel_any _ _ _ _ _ _ _ _ (hN0.below hb (Nat.le_refl _)) (hC0.below hb (Nat.le_refl _))).mono ?_
  rintro e W2 ⟨rfl, hb1⟩
  rw [hw]
  clear hW
  (try clear c0 c1 c2); replace x0 := x0.below hb1; have c0 := x0.cell 0 rfl; have c1 := x0.cell 1 rfl; have c2 := x0.cell 2 rfl; replace hb := hb.trans (hb1.mono hb.size); clear hb1
  go_wp2_with fail
  refine (works_any _).mono ?_
  rintro e V3 ⟨rfl, hb1⟩
  replace hb := hb.trans (hb1.mono hb.size)
  clear hb1 x0 c0 c1 c2
  go_wp2
  go_ret
  exact ⟨rfl, hb⟩

set_option maxRecDepth 100000 in
set_option maxHeartbeats 1000000 in
theorem ws_arg1 (R : Nat) (an ac : Option Addr) (cn cc : Nat) (N C : List Int) (p s : Option Addr) (cp cs : Nat) (xs ys : List Int) (w : World) (hN : Ints w an N) (hC : Ints w ac C) (hX : Ints w p xs) (hY : Ints w s ys) (hw : isWhl (R : Int) N C = true) (h5 : 40 < (xs.length : Int)) :
    Calls Try.prog 12 #[.agg #[.int .i64 (R : Int), .slice an N.length cn, .slice ac C.length cc], .slice p xs.length cp, .slice s ys.length cs] w (WorksP w) := by
  have lx : (xs.length : Int) ≤ 9223372036854775807 := by have := hX.len; omega
  have ly : (ys.length : Int) ≤ 9223372036854775807 := by have := hY.len; omega
  obtain ⟨W, hW, hb, hs, x0⟩ := boxes1 w #[.int .i64 (R : Int), .slice an N.length cn, .slice ac C.length cc] 24
  clear hs
  have hN0 := hN; have hC0 := hC
  clear hN hC
  have c0 := x0.cell 0 rfl; have c1 := x0.cell 1 rfl; have c2 := x0.cell 2 rfl
  have g5 : decide ((40 : Int) < (xs.length : Int)) = true := by simp; omega
  go_enter Try.func12, Try.ntmps12
  go_wp2_with fail
  refine (isWheel_any _ _ _ _ _ _ _ _ (hN0.below hb (Nat.le_refl _)) (hC0.below hb (Nat.le_refl _))).mono ?_
  rintro e W2 ⟨rfl, hb1⟩
  rw [hw]
  clear hW
  (try clear c0 c1 c2); replace x0 := x0.below hb1; have c0 := x0.cell 0 rfl; have c1 := x0.cell 1 rfl; have c2 := x0.cell 2 rfl; replace hb := hb.trans (hb1.mono hb.size); clear hb1
  go_wp2_with fail
  refine (works_any _).mono ?_
  rintro e V3 ⟨rfl, hb1⟩
  replace hb := hb.trans (hb1.mono hb.size)
  clear hb1 x0 c0 c1 c2
  go_wp2
  go_ret
  exact ⟨rfl, hb⟩

set_option maxRecDepth 100000 in
set_option maxHeartbeats 1000000 in
theorem ws_arg2 (R : Nat) (an ac : Option Addr) (cn cc : Nat) (N C : List Int) (p s : Option Addr) (cp cs : Nat) (xs ys : List Int) (w : World) (hN : Ints w an N) (hC : Ints w ac C) (hX : Ints w p xs) (hY : Ints w s ys) (hw : isWhl (R : Int) N C = true) (h5 : ¬ 40 < (xs.length : Int)) (h4 : 40 < (ys.length : Int)) :
    Calls Try.prog 12 #[.agg #[.int .i64 (R : Int), .slice an N.length cn, .slice ac C.length cc], .slice p xs.length cp, .slice s ys.length cs] w (WorksP w) := by
  have lx : (xs.length : Int) ≤ 9223372036854775807 := by have := hX.len; omega
  have ly : (ys.length : Int) ≤ 9223372036854775807 := by have := hY.len; omega
  obtain ⟨W, hW, hb, hs, x0⟩ := boxes1 w #[.int .i64 (R : Int), .slice an N.length cn, .slice ac C.length cc] 24
  clear hs
  have hN0 := hN; have hC0 := hC
  clear hN hC
  have c0 := x0.cell 0 rfl; have c1 := x0.cell 1 rfl; have c2 := x0.cell 2 rfl
  have g5 : decide ((40 : Int) < (xs.length : Int)) = false := by simp; omega
  have g6 : decide ((40 : Int) < (ys.length : Int)) = true := by simp; omega
  go_enter Try.func12, Try.ntmps12
  go_wp2_with fail
  refine (isWheel_any _ _ _ _ _ _ _ _ (hN0.below hb (Nat.le_refl _)) (hC0.below hb (Nat.le_refl _))).mono ?_
  rintro e W2 ⟨rfl, hb1⟩
  rw [hw]
  clear hW
  (try clear c0 c1 c2); replace x0 := x0.below hb1; have c0 := x0.cell 0 rfl; have c1 := x0.cell 1 rfl; have c2 := x0.cell 2 rfl; replace hb := hb.trans (hb1.mono hb.size); clear hb1
  go_wp2_with fail
  refine (works_any _).mono ?_
  rintro e V3 ⟨rfl, hb1⟩
  replace hb := hb.trans (hb1.mono hb.size)
  clear hb1 x0 c0 c1 c2
  go_wp2
  go_ret
  exact ⟨rfl, hb⟩

set_option maxRecDepth 100000 in
set_option maxHeartbeats 1000000 in
theorem ws_arg3 (R : Nat) (an ac : Option Addr) (cn cc : Nat) (N C : List Int) (p s : Option Addr) (cp cs : Nat) (xs ys : List Int) (w : World) (hN : Ints w an N) (hC : Ints w ac C) (hX : Ints w p xs) (hY : Ints w s ys) (hw : isWhl (R : Int) N C = true) (h5 : ¬ 40 < (xs.length : Int)) (h4 : ¬ 40 < (ys.length : Int)) (ho : okP C xs = false) :
    Calls Try.prog 12 #[.agg #[.int .i64 (R : Int), .slice an N.length cn, .slice ac C.length cc], .slice p xs.length cp, .slice s ys.length cs] w (WorksP w) := by
  have lx : (xs.length : Int) ≤ 9223372036854775807 := by have := hX.len; omega
  have ly : (ys.length : Int) ≤ 9223372036854775807 := by have := hY.len; omega
  obtain ⟨W, hW, hb, hs, x0⟩ := boxes1 w #[.int .i64 (R : Int), .slice an N.length cn, .slice ac C.length cc] 24
  clear hs
  have hN0 := hN; have hC0 := hC
  clear hN hC
  have c0 := x0.cell 0 rfl; have c1 := x0.cell 1 rfl; have c2 := x0.cell 2 rfl
  have g5 : decide ((40 : Int) < (xs.length : Int)) = false := by simp; omega
  have g6 : decide ((40 : Int) < (ys.length : Int)) = false := by simp; omega
  go_enter Try.func12, Try.ntmps12
  go_wp2_with fail
  refine (isWheel_any _ _ _ _ _ _ _ _ (hN0.below hb (Nat.le_refl _)) (hC0.below hb (Nat.le_refl _))).mono ?_
  rintro e W2 ⟨rfl, hb1⟩
  rw [hw]
  clear hW
  (try clear c0 c1 c2); replace x0 := x0.below hb1; have c0 := x0.cell 0 rfl; have c1 := x0.cell 1 rfl; have c2 := x0.cell 2 rfl; replace hb := hb.trans (hb1.mono hb.size); clear hb1
  go_wp2_with fail
  refine (isPurse_any _ _ _ _ _ _ _ p cp xs _ (hC0.below hb (Nat.le_refl _)) (hX.below hb (Nat.le_refl _)) (by omega)).mono ?_
  rintro e W3 ⟨rfl, hb1⟩
  rw [ho]
  (try clear c0 c1 c2); replace x0 := x0.below hb1; have c0 := x0.cell 0 rfl; have c1 := x0.cell 1 rfl; have c2 := x0.cell 2 rfl; replace hb := hb.trans (hb1.mono hb.size); clear hb1
  go_wp2_with fail
  refine (works_any _).mono ?_
  rintro e V3 ⟨rfl, hb1⟩
  replace hb := hb.trans (hb1.mono hb.size)
  clear hb1 x0 c0 c1 c2
  go_wp2
  go_ret
  exact ⟨rfl, hb⟩

set_option maxRecDepth 100000 in
set_option maxHeartbeats 1000000 in
theorem ws_arg4 (R : Nat) (an ac : Option Addr) (cn cc : Nat) (N C : List Int) (p s : Option Addr) (cp cs : Nat) (xs ys : List Int) (w : World) (hN : Ints w an N) (hC : Ints w ac C) (hX : Ints w p xs) (hY : Ints w s ys) (hw : isWhl (R : Int) N C = true) (hv : Vw R N C) (h5 : ¬ 40 < (xs.length : Int)) (h4 : ¬ 40 < (ys.length : Int)) (ho : okP C xs = true) (h6 : decide (6 < xs.sum) = true) :
    Calls Try.prog 12 #[.agg #[.int .i64 (R : Int), .slice an N.length cn, .slice ac C.length cc], .slice p xs.length cp, .slice s ys.length cs] w (WorksP w) := by
  have lx : (xs.length : Int) ≤ 9223372036854775807 := by have := hX.len; omega
  have ly : (ys.length : Int) ≤ 9223372036854775807 := by have := hY.len; omega
  obtain ⟨W, hW, hb, hs, x0⟩ := boxes1 w #[.int .i64 (R : Int), .slice an N.length cn, .slice ac C.length cc] 24
  clear hs
  have hN0 := hN; have hC0 := hC
  clear hN hC
  have c0 := x0.cell 0 rfl; have c1 := x0.cell 1 rfl; have c2 := x0.cell 2 rfl
  have g5 : decide ((40 : Int) < (xs.length : Int)) = false := by simp; omega
  have g6 : decide ((40 : Int) < (ys.length : Int)) = false := by simp; omega
  go_enter Try.func12, Try.ntmps12
  go_wp2_with fail
  refine (isWheel_any _ _ _ _ _ _ _ _ (hN0.below hb (Nat.le_refl _)) (hC0.below hb (Nat.le_refl _))).mono ?_
  rintro e W2 ⟨rfl, hb1⟩
  rw [hw]
  clear hW
  (try clear c0 c1 c2); replace x0 := x0.below hb1; have c0 := x0.cell 0 rfl; have c1 := x0.cell 1 rfl; have c2 := x0.cell 2 rfl; replace hb := hb.trans (hb1.mono hb.size); clear hb1
  go_wp2_with fail
  refine (isPurse_any _ _ _ _ _ _ _ p cp xs _ (hC0.below hb (Nat.le_refl _)) (hX.below hb (Nat.le_refl _)) (by omega)).mono ?_
  rintro e W3 ⟨rfl, hb1⟩
  rw [ho]
  (try clear c0 c1 c2); replace x0 := x0.below hb1; have c0 := x0.cell 0 rfl; have c1 := x0.cell 1 rfl; have c2 := x0.cell 2 rfl; replace hb := hb.trans (hb1.mono hb.size); clear hb1
  go_wp2_with fail
  refine (rich_ok _ _ _ _ _ _ _ p cp xs _ (hN0.below hb (Nat.le_refl _)) (hC0.below hb (Nat.le_refl _)) (hX.below hb (Nat.le_refl _)) hv ho).mono ?_
  rintro e W4 ⟨rfl, hb1⟩
  rw [h6]
  (try clear c0 c1 c2); replace x0 := x0.below hb1; have c0 := x0.cell 0 rfl; have c1 := x0.cell 1 rfl; have c2 := x0.cell 2 rfl; replace hb := hb.trans (hb1.mono hb.size); clear hb1
  go_wp2_with fail
  refine (works_any _).mono ?_
  rintro e V3 ⟨rfl, hb1⟩
  replace hb := hb.trans (hb1.mono hb.size)
  clear hb1 x0 c0 c1 c2
  go_wp2
  go_ret
  exact ⟨rfl, hb⟩

set_option maxRecDepth 100000 in
set_option maxHeartbeats 1000000 in
theorem ws_arg5 (R : Nat) (an ac : Option Addr) (cn cc : Nat) (N C : List Int) (p s : Option Addr) (cp cs : Nat) (xs ys : List Int) (w : World) (hN : Ints w an N) (hC : Ints w ac C) (hX : Ints w p xs) (hY : Ints w s ys) (hw : isWhl (R : Int) N C = true) (hv : Vw R N C) (h5 : ¬ 40 < (xs.length : Int)) (h4 : ¬ 40 < (ys.length : Int)) (ho : okP C xs = true) (h6 : decide (6 < xs.sum) = false) (hy : okP C ys = false) :
    Calls Try.prog 12 #[.agg #[.int .i64 (R : Int), .slice an N.length cn, .slice ac C.length cc], .slice p xs.length cp, .slice s ys.length cs] w (WorksP w) := by
  have lx : (xs.length : Int) ≤ 9223372036854775807 := by have := hX.len; omega
  have ly : (ys.length : Int) ≤ 9223372036854775807 := by have := hY.len; omega
  obtain ⟨W, hW, hb, hs, x0⟩ := boxes1 w #[.int .i64 (R : Int), .slice an N.length cn, .slice ac C.length cc] 24
  clear hs
  have hN0 := hN; have hC0 := hC
  clear hN hC
  have c0 := x0.cell 0 rfl; have c1 := x0.cell 1 rfl; have c2 := x0.cell 2 rfl
  have g5 : decide ((40 : Int) < (xs.length : Int)) = false := by simp; omega
  have g6 : decide ((40 : Int) < (ys.length : Int)) = false := by simp; omega
  go_enter Try.func12, Try.ntmps12
  go_wp2_with fail
  refine (isWheel_any _ _ _ _ _ _ _ _ (hN0.below hb (Nat.le_refl _)) (hC0.below hb (Nat.le_refl _))).mono ?_
  rintro e W2 ⟨rfl, hb1⟩
  rw [hw]
  clear hW
  (try clear c0 c1 c2); replace x0 := x0.below hb1; have c0 := x0.cell 0 rfl; have c1 := x0.cell 1 rfl; have c2 := x0.cell 2 rfl; replace hb := hb.trans (hb1.mono hb.size); clear hb1
  go_wp2_with fail
  refine (isPurse_any _ _ _ _ _ _ _ p cp xs _ (hC0.below hb (Nat.le_refl _)) (hX.below hb (Nat.le_refl _)) (by omega)).mono ?_
  rintro e W3 ⟨rfl, hb1⟩
  rw [ho]
  (try clear c0 c1 c2); replace x0 := x0.below hb1; have c0 := x0.cell 0 rfl; have c1 := x0.cell 1 rfl; have c2 := x0.cell 2 rfl; replace hb := hb.trans (hb1.mono hb.size); clear hb1
  go_wp2_with fail
  refine (rich_ok _ _ _ _ _ _ _ p cp xs _ (hN0.below hb (Nat.le_refl _)) (hC0.below hb (Nat.le_refl _)) (hX.below hb (Nat.le_refl _)) hv ho).mono ?_
  rintro e W4 ⟨rfl, hb1⟩
  rw [h6]
  (try clear c0 c1 c2); replace x0 := x0.below hb1; have c0 := x0.cell 0 rfl; have c1 := x0.cell 1 rfl; have c2 := x0.cell 2 rfl; replace hb := hb.trans (hb1.mono hb.size); clear hb1
  go_wp2_with fail
  refine (isPurse_any _ _ _ _ _ _ _ s cs ys _ (hC0.below hb (Nat.le_refl _)) (hY.below hb (Nat.le_refl _)) (by omega)).mono ?_
  rintro e W3 ⟨rfl, hb1⟩
  rw [hy]
  (try clear c0 c1 c2); replace x0 := x0.below hb1; have c0 := x0.cell 0 rfl; have c1 := x0.cell 1 rfl; have c2 := x0.cell 2 rfl; replace hb := hb.trans (hb1.mono hb.size); clear hb1
  go_wp2_with fail
  refine (works_any _).mono ?_
  rintro e V3 ⟨rfl, hb1⟩
  replace hb := hb.trans (hb1.mono hb.size)
  clear hb1 x0 c0 c1 c2
  go_wp2
  go_ret
  exact ⟨rfl, hb⟩

set_option maxRecDepth 100000 in
set_option maxHeartbeats 1000000 in
theorem ws_arg6 (R : Nat) (an ac : Option Addr) (cn cc : Nat) (N C : List Int) (p s : Option Addr) (cp cs : Nat) (xs ys : List Int) (w : World) (hN : Ints w an N) (hC : Ints w ac C) (hX : Ints w p xs) (hY : Ints w s ys) (hw : isWhl (R : Int) N C = true) (hv : Vw R N C) (h5 : ¬ 40 < (xs.length : Int)) (h4 : ¬ 40 < (ys.length : Int)) (ho : okP C xs = true) (h6 : decide (6 < xs.sum) = false) (hy : okP C ys = true) (hns : ¬ ∀ j, j < ys.length → ys.getD j 0 ≤ xs.getD j 0) :
    Calls Try.prog 12 #[.agg #[.int .i64 (R : Int), .slice an N.length cn, .slice ac C.length cc], .slice p xs.length cp, .slice s ys.length cs] w (WorksP w) := by
  have lx : (xs.length : Int) ≤ 9223372036854775807 := by have := hX.len; omega
  have ly : (ys.length : Int) ≤ 9223372036854775807 := by have := hY.len; omega
  obtain ⟨W, hW, hb, hs, x0⟩ := boxes1 w #[.int .i64 (R : Int), .slice an N.length cn, .slice ac C.length cc] 24
  clear hs
  have hN0 := hN; have hC0 := hC
  clear hN hC
  have c0 := x0.cell 0 rfl; have c1 := x0.cell 1 rfl; have c2 := x0.cell 2 rfl
  have g5 : decide ((40 : Int) < (xs.length : Int)) = false := by simp; omega
  have g6 : decide ((40 : Int) < (ys.length : Int)) = false := by simp; omega
  go_enter Try.func12, Try.ntmps12
  go_wp2_with fail
  refine (isWheel_any _ _ _ _ _ _ _ _ (hN0.below hb (Nat.le_refl _)) (hC0.below hb (Nat.le_refl _))).mono ?_
  rintro e W2 ⟨rfl, hb1⟩
  rw [hw]
  clear hW
  (try clear c0 c1 c2); replace x0 := x0.below hb1; have c0 := x0.cell 0 rfl; have c1 := x0.cell 1 rfl; have c2 := x0.cell 2 rfl; replace hb := hb.trans (hb1.mono hb.size); clear hb1
  go_wp2_with fail
  refine (isPurse_any _ _ _ _ _ _ _ p cp xs _ (hC0.below hb (Nat.le_refl _)) (hX.below hb (Nat.le_refl _)) (by omega)).mono ?_
  rintro e W3 ⟨rfl, hb1⟩
  rw [ho]
  (try clear c0 c1 c2); replace x0 := x0.below hb1; have c0 := x0.cell 0 rfl; have c1 := x0.cell 1 rfl; have c2 := x0.cell 2 rfl; replace hb := hb.trans (hb1.mono hb.size); clear hb1
  go_wp2_with fail
  refine (rich_ok _ _ _ _ _ _ _ p cp xs _ (hN0.below hb (Nat.le_refl _)) (hC0.below hb (Nat.le_refl _)) (hX.below hb (Nat.le_refl _)) hv ho).mono ?_
  rintro e W4 ⟨rfl, hb1⟩
  rw [h6]
  (try clear c0 c1 c2); replace x0 := x0.below hb1; have c0 := x0.cell 0 rfl; have c1 := x0.cell 1 rfl; have c2 := x0.cell 2 rfl; replace hb := hb.trans (hb1.mono hb.size); clear hb1
  go_wp2_with fail
  refine (isPurse_any _ _ _ _ _ _ _ s cs ys _ (hC0.below hb (Nat.le_refl _)) (hY.below hb (Nat.le_refl _)) (by omega)).mono ?_
  rintro e W5 ⟨rfl, hb1⟩
  rw [hy]
  (try clear c0 c1 c2); replace x0 := x0.below hb1; have c0 := x0.cell 0 rfl; have c1 := x0.cell 1 rfl; have c2 := x0.cell 2 rfl; replace hb := hb.trans (hb1.mono hb.size); clear hb1
  have hxy : xs.length = ys.length := by rw [(okP_mem ho).1, (okP_mem hy).1]
  have hxl : xs.length ≤ 4 := by rw [(okP_mem ho).1]; exact hv.c4
  have Hxy := hid hxy; clear hxy
  have hX1 := hX.below hb (Nat.le_refl _); have hY1 := hY.below hb (Nat.le_refl _)
  clear c0 c1 c2 hX hY hw h6
  go_wp2
  generalize hyn : ys.length = m at *
  generalize hxn : xs.length = n at *
  have Hyn := hid hyn; have Hxn := hid hxn
  clear hyn hxn
  go_loopw [7] (fun v7 wr => ∃ i, i ≤ m ∧ v7 = .int .i64 (i : Int) ∧ Qd W5 wr ∧ ∀ j, j < i → ys.getD j 0 ≤ xs.getD j 0) (fun v7 _ => m - (intOf v7).toNat)
  case atStart => exact ⟨0, Nat.zero_le _, rfl, Qd.refl _, fun j hj => by omega⟩
  case round =>
    obtain ⟨i, hi, rfl, hqd, hle⟩ := hrel
    have Hle := hid hle; clear hle
    have hb1 := hqd.below W5.heap.size
    have hb := hb.trans (hb1.mono hb.size)
    have hX2 := hX1.below hb1 (Nat.le_refl _); have hY2 := hY1.below hb1 (Nat.le_refl _)
    have x0 := x0.below hb1
    by_cases hlt : i < m
    · obtain ⟨b, off, y, rfl, hbs, hc, _, _, hy1, _⟩ := hY2.at (k := i) (by rw [Hyn.out]; exact hlt)
      obtain ⟨b', off', x, rfl, hbs', hc', _, _, hx1, _⟩ := hX2.at (k := i) (by rw [Hxn.out]; have := Hxy.out; omega)
      have hyd : ys.getD i 0 = y := by simp [List.getD, hy1.out]
      have hxd : xs.getD i 0 = x := by simp [List.getD, hx1.out]
      have Hyd := hid hyd; have Hxd := hid hxd
      clear hyd hxd hy1 hx1 hX1 hY1 hX2 hY2
      have hiI : (i : Int) < (m : Int) := by omega
      have hiN : (i : Int) < (n : Int) := by have := Hxy.out; omega
      have hi0 : (0 : Int) ≤ (i : Int) := by omega
      by_cases hgt : x < y
      · go_wp2
        go_quiet (fail)
        clear hc hc'
        go_wp2_with fail
        refine (works_any _).mono ?_
        rintro e V3 ⟨rfl, hb2⟩
        replace hb := (below_drewN hb _).trans (hb2.mono (below_drewN hb _).size)
        clear hb2
        go_wp2
        go_ret
        exact ⟨rfl, hb⟩
      · have hgt2 : y ≤ x := by omega
        go_wp2
        go_quiet (fail)
        go_wp2
        go_roundw
        case rel => exact ⟨i + 1, by omega, by go_num, hqd.drewN _, fun j hj => by
          by_cases e : j = i
          · subst e; rw [Hyd.out, Hxd.out]; exact hgt2
          · exact Hle.out j (by omega)⟩
        case measure => simp [intOf]; omega
    · exact absurd (fun j (hj : j < m) => Hle.out j (by omega)) hns

end Go.Proofs.Ytmkmnedojgigoaa
