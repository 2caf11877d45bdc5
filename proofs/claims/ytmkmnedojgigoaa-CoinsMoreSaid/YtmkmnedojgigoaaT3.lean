import Derived.Test.YtmkmnedojgigoaaT2
namespace Go.Proofs.Ytmkmnedojgigoaa
open Go.RowKit

set_option maxRecDepth 100000 in
set_option maxHeartbeats 1000000 in
theorem more_arg0 (r : Int) (an ac : Option Addr) (cn cc : Nat) (N C : List Int) (K X : Int) (p : Option Addr) (cp : Nat) (xs : List Int) (w : World) (hN : Ints w an N) (hC : Ints w ac C) (hx : xs.length ≤ 9223372036854775807) (hw : isWhl r N C = false) :
    Calls Try.prog 11 #[.agg #[.int .i64 r, .slice an N.length cn, .slice ac C.length cc], .slice p xs.length cp, .agg #[.int .i64 K, .int .i64 X]] w (WorksP w) := by
  obtain ⟨W, hW, hb, hs, x0, x5⟩ := boxes2 w #[.int .i64 r, .slice an N.length cn, .slice ac C.length cc] 24 #[.int .i64 K, .int .i64 X] 59
  clear hs x5
  have hN0 := hN; have hC0 := hC
  clear hN hC
  have c0 := x0.cell 0 rfl; have c1 := x0.cell 1 rfl; have c2 := x0.cell 2 rfl
  have lx : (xs.length : Int) ≤ 9223372036854775807 := by omega
  go_enter Try.func11, Try.ntmps11
  go_wp2_with fail
  refine (isWheel_any _ _ _ _ _ _ _ _ (hN0.below hb (Nat.le_refl _)) (hC0.below hb (Nat.le_refl _))).mono ?_
  rintro e W2 ⟨rfl, hb1⟩
  rw [hw]
  clear hW
  (try clear c0 c1 c2); replace x0 := x0.below hb1; have c0 := x0.cell 0 rfl; have c1 := x0.cell 1 rfl; have c2 := x0.cell 2 rfl; replace hb := hb.trans (hb1.mono hb.size); clear hb1
  go_wp2_with fail
  refine (works_any _).mono ?_
  rintro e V3 ⟨rfl, hb1⟩
  replace hb := hb.trans (hb1.mono hb.size)
  clear hb1 x0 c0 c1 c2
  go_wp2
  go_ret
  exact ⟨rfl, hb⟩
set_option maxRecDepth 100000 in
set_option maxHeartbeats 1000000 in
theorem more_arg1 (R : Nat) (an ac : Option Addr) (cn cc : Nat) (N C : List Int) (K X : Int) (p : Option Addr) (cp : Nat) (xs : List Int) (w : World) (hN : Ints w an N) (hC : Ints w ac C) (hx : xs.length ≤ 9223372036854775807) (hw : isWhl (R : Int) N C = true) (h5 : 40 < (xs.length : Int)) :
    Calls Try.prog 11 #[.agg #[.int .i64 (R : Int), .slice an N.length cn, .slice ac C.length cc], .slice p xs.length cp, .agg #[.int .i64 K, .int .i64 X]] w (WorksP w) := by
  obtain ⟨W, hW, hb, hs, x0, x5⟩ := boxes2 w #[.int .i64 (R : Int), .slice an N.length cn, .slice ac C.length cc] 24 #[.int .i64 K, .int .i64 X] 59
  clear hs x5
  have hN0 := hN; have hC0 := hC
  clear hN hC
  have c0 := x0.cell 0 rfl; have c1 := x0.cell 1 rfl; have c2 := x0.cell 2 rfl
  have lx : (xs.length : Int) ≤ 9223372036854775807 := by omega
  have g5 : decide ((40 : Int) < (xs.length : Int)) = true := by simp; omega
  go_enter Try.func11, Try.ntmps11
  go_wp2_with fail
  refine (isWheel_any _ _ _ _ _ _ _ _ (hN0.below hb (Nat.le_refl _)) (hC0.below hb (Nat.le_refl _))).mono ?_
  rintro e W2 ⟨rfl, hb1⟩
  rw [hw]
  clear hW
  (try clear c0 c1 c2); replace x0 := x0.below hb1; have c0 := x0.cell 0 rfl; have c1 := x0.cell 1 rfl; have c2 := x0.cell 2 rfl; replace hb := hb.trans (hb1.mono hb.size); clear hb1
  go_wp2_with fail
  refine (works_any _).mono ?_
  rintro e V3 ⟨rfl, hb1⟩
  replace hb := hb.trans (hb1.mono hb.size)
  clear hb1 x0 c0 c1 c2
  go_wp2
  go_ret
  exact ⟨rfl, hb⟩
set_option maxRecDepth 100000 in
set_option maxHeartbeats 1000000 in
theorem more_arg2 (R : Nat) (an ac : Option Addr) (cn cc : Nat) (N C : List Int) (K X : Int) (p : Option Addr) (cp : Nat) (xs : List Int) (w : World) (hN : Ints w an N) (hC : Ints w ac C) (hx : xs.length ≤ 9223372036854775807) (hX : Ints w p xs) (hw : isWhl (R : Int) N C = true) (_hv : Vw R N C) (h5 : ¬ 40 < (xs.length : Int)) (ho : okP C xs = false) :
    Calls Try.prog 11 #[.agg #[.int .i64 (R : Int), .slice an N.length cn, .slice ac C.length cc], .slice p xs.length cp, .agg #[.int .i64 K, .int .i64 X]] w (WorksP w) := by
  obtain ⟨W, hW, hb, hs, x0, x5⟩ := boxes2 w #[.int .i64 (R : Int), .slice an N.length cn, .slice ac C.length cc] 24 #[.int .i64 K, .int .i64 X] 59
  clear hs x5
  have hN0 := hN; have hC0 := hC
  clear hN hC
  have c0 := x0.cell 0 rfl; have c1 := x0.cell 1 rfl; have c2 := x0.cell 2 rfl
  have lx : (xs.length : Int) ≤ 9223372036854775807 := by omega
  have g5 : decide ((40 : Int) < (xs.length : Int)) = false := by simp; omega
  go_enter Try.func11, Try.ntmps11
  go_wp2_with fail
  refine (isWheel_any _ _ _ _ _ _ _ _ (hN0.below hb (Nat.le_refl _)) (hC0.below hb (Nat.le_refl _))).mono ?_
  rintro e W2 ⟨rfl, hb1⟩
  rw [hw]
  clear hW
  (try clear c0 c1 c2); replace x0 := x0.below hb1; have c0 := x0.cell 0 rfl; have c1 := x0.cell 1 rfl; have c2 := x0.cell 2 rfl; replace hb := hb.trans (hb1.mono hb.size); clear hb1
  go_wp2_with fail
  refine (isPurse_any _ _ _ _ _ _ _ p cp xs _ (hC0.below hb (Nat.le_refl _)) (hX.below hb (Nat.le_refl _)) (by omega)).mono ?_
  rintro e W3 ⟨rfl, hb1⟩
  rw [ho]
  (try clear c0 c1 c2); replace x0 := x0.below hb1; have c0 := x0.cell 0 rfl; have c1 := x0.cell 1 rfl; have c2 := x0.cell 2 rfl; replace hb := hb.trans (hb1.mono hb.size); clear hb1
  go_wp2_with fail
  refine (works_any _).mono ?_
  rintro e V3 ⟨rfl, hb1⟩
  replace hb := hb.trans (hb1.mono hb.size)
  clear hb1 x0 c0 c1 c2
  go_wp2
  go_ret
  exact ⟨rfl, hb⟩
set_option maxRecDepth 100000 in
set_option maxHeartbeats 1000000 in
theorem more_arg3 (R : Nat) (an ac : Option Addr) (cn cc : Nat) (N C : List Int) (K X : Int) (p : Option Addr) (cp : Nat) (xs : List Int) (w : World) (hN : Ints w an N) (hC : Ints w ac C) (hx : xs.length ≤ 9223372036854775807) (hX : Ints w p xs) (hw : isWhl (R : Int) N C = true) (hv : Vw R N C) (h5 : ¬ 40 < (xs.length : Int)) (ho : okP C xs = true) (h6 : decide (6 < xs.sum) = true) :
    Calls Try.prog 11 #[.agg #[.int .i64 (R : Int), .slice an N.length cn, .slice ac C.length cc], .slice p xs.length cp, .agg #[.int .i64 K, .int .i64 X]] w (WorksP w) := by
  obtain ⟨W, hW, hb, hs, x0, x5⟩ := boxes2 w #[.int .i64 (R : Int), .slice an N.length cn, .slice ac C.length cc] 24 #[.int .i64 K, .int .i64 X] 59
  clear hs x5
  have hN0 := hN; have hC0 := hC
  clear hN hC
  have c0 := x0.cell 0 rfl; have c1 := x0.cell 1 rfl; have c2 := x0.cell 2 rfl
  have lx : (xs.length : Int) ≤ 9223372036854775807 := by omega
  have g5 : decide ((40 : Int) < (xs.length : Int)) = false := by simp; omega
  go_enter Try.func11, Try.ntmps11
  go_wp2_with fail
  refine (isWheel_any _ _ _ _ _ _ _ _ (hN0.below hb (Nat.le_refl _)) (hC0.below hb (Nat.le_refl _))).mono ?_
  rintro e W2 ⟨rfl, hb1⟩
  rw [hw]
  clear hW
  (try clear c0 c1 c2); replace x0 := x0.below hb1; have c0 := x0.cell 0 rfl; have c1 := x0.cell 1 rfl; have c2 := x0.cell 2 rfl; replace hb := hb.trans (hb1.mono hb.size); clear hb1
  go_wp2_with fail
  refine (isPurse_any _ _ _ _ _ _ _ p cp xs _ (hC0.below hb (Nat.le_refl _)) (hX.below hb (Nat.le_refl _)) (by omega)).mono ?_
  rintro e W3 ⟨rfl, hb1⟩
  rw [ho]
  (try clear c0 c1 c2); replace x0 := x0.below hb1; have c0 := x0.cell 0 rfl; have c1 := x0.cell 1 rfl; have c2 := x0.cell 2 rfl; replace hb := hb.trans (hb1.mono hb.size); clear hb1
  go_wp2_with fail
  refine (rich_ok _ _ _ _ _ _ _ p cp xs _ (hN0.below hb (Nat.le_refl _)) (hC0.below hb (Nat.le_refl _)) (hX.below hb (Nat.le_refl _)) hv ho).mono ?_
  rintro e W4 ⟨rfl, hb1⟩
  rw [h6]
  (try clear c0 c1 c2); replace x0 := x0.below hb1; have c0 := x0.cell 0 rfl; have c1 := x0.cell 1 rfl; have c2 := x0.cell 2 rfl; replace hb := hb.trans (hb1.mono hb.size); clear hb1
  go_wp2_with fail
  refine (works_any _).mono ?_
  rintro e V3 ⟨rfl, hb1⟩
  replace hb := hb.trans (hb1.mono hb.size)
  clear hb1 x0 c0 c1 c2
  go_wp2
  go_ret
  exact ⟨rfl, hb⟩

theorem more_every (r : Int) (an ac : Option Addr) (cn cc : Nat) (N C : List Int) (K X : Int) (p : Option Addr) (cp : Nat) (xs : List Int) (w : World) (hN : Ints w an N) (hC : Ints w ac C) (hX : Ints w p xs) :
    Calls Try.prog 11 #[.agg #[.int .i64 r, .slice an N.length cn, .slice ac C.length cc], .slice p xs.length cp, .agg #[.int .i64 K, .int .i64 X]] w (WorksP w) := by
  have hx := hX.len
  cases hw : isWhl r N C
  · exact more_arg0 _ _ _ _ _ _ _ K X p cp xs w hN hC hx hw
  · obtain ⟨R, rfl, hv⟩ := isWhl_vw hw
    by_cases h5 : 40 < (xs.length : Int)
    · exact more_arg1 _ _ _ _ _ _ _ K X p cp xs w hN hC hx hw h5
    cases ho : okP C xs
    · exact more_arg2 _ _ _ _ _ _ _ K X p cp xs w hN hC hx hX hw hv h5 ho
    cases h6 : decide (6 < xs.sum)
    · exact more_ok R _ _ _ _ _ _ K X p cp xs w hN hC hX hw hv ho (by simp at h6; omega)
    · exact more_arg3 _ _ _ _ _ _ _ K X p cp xs w hN hC hx hX hw hv h5 ho h6
end Go.Proofs.Ytmkmnedojgigoaa
