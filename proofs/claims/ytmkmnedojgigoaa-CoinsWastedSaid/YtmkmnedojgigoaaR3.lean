import Derived.Test.YtmkmnedojgigoaaR2
namespace Go.Proofs.Ytmkmnedojgigoaa
open Go.RowKit

set_option maxRecDepth 100000 in
set_option maxHeartbeats 1000000 in
theorem cheap_arg0 (r : Int) (an ac : Option Addr) (cn cc : Nat) (N C : List Int) (a b : Int) (p : Option Addr) (cp : Nat) (xs : List Int) (w : World) (hN : Ints w an N) (hC : Ints w ac C) (hx : xs.length ≤ 9223372036854775807) (hw : isWhl r N C = false) :
    Calls Try.prog 13 #[.agg #[.int .i64 r, .slice an N.length cn, .slice ac C.length cc], .slice p xs.length cp, .agg #[.int .i64 a, .int .i64 b]] w (WorksP w) := by
  obtain ⟨W, hW, hb, hs, x0, x1⟩ := boxes2 w #[.int .i64 r, .slice an N.length cn, .slice ac C.length cc] 24 #[.int .i64 a, .int .i64 b] 64
  clear hs
  have hN0 := hN; have hC0 := hC
  clear hN hC
  have d0 := x1.ext 0 rfl; have d1 := x1.ext 1 rfl
  go_enter Try.func13, Try.ntmps13
  go_wp2_with fail
  refine wp_region_ext_lit (by kernel_rfl) (by kernel_rfl) ?_
  repeat (quiet_step (fail))
  refine wpQuiet_nil ?_
  intro _ hw'
  obtain ⟨t, rfl⟩ := hw'
  have hbt := t.below
  clear d0 d1 hW
  generalize t.w = W1 at *
  replace x0 := x0.below hbt; replace hb := hb.trans (hbt.mono hb.size); clear hbt
  clear x1
  have c0 := x0.cell 0 rfl; have c1 := x0.cell 1 rfl; have c2 := x0.cell 2 rfl
  have lx : (xs.length : Int) ≤ 9223372036854775807 := by omega
  go_wp2_with fail
  refine (isWheel_any _ _ _ _ _ _ _ _ (hN0.below hb (Nat.le_refl _)) (hC0.below hb (Nat.le_refl _))).mono ?_
  rintro e W2 ⟨rfl, hb1⟩
  rw [hw]
  (try clear c0 c1 c2); replace x0 := x0.below hb1; have c0 := x0.cell 0 rfl; have c1 := x0.cell 1 rfl; have c2 := x0.cell 2 rfl; replace hb := hb.trans (hb1.mono hb.size); clear hb1
  go_wp2_with fail
  refine (works_any _).mono ?_
  rintro e V3 ⟨rfl, hb1⟩
  replace hb := hb.trans (hb1.mono hb.size)
  clear hb1 x0 c0 c1 c2
  go_wp2
  go_ret
  exact ⟨rfl, hb⟩
set_option maxRecDepth 100000 in
set_option maxHeartbeats 1000000 in
theorem cheap_arg1 (R : Nat) (an ac : Option Addr) (cn cc : Nat) (N C : List Int) (a b : Int) (p : Option Addr) (cp : Nat) (xs : List Int) (w : World) (hN : Ints w an N) (hC : Ints w ac C) (hx : xs.length ≤ 9223372036854775807) (_hX : Ints w p xs) (hw : isWhl (R : Int) N C = true) (_hv : Vw R N C) (h0 : a < 1) :
    Calls Try.prog 13 #[.agg #[.int .i64 (R : Int), .slice an N.length cn, .slice ac C.length cc], .slice p xs.length cp, .agg #[.int .i64 a, .int .i64 b]] w (WorksP w) := by
  obtain ⟨W, hW, hb, hs, x0, x1⟩ := boxes2 w #[.int .i64 (R : Int), .slice an N.length cn, .slice ac C.length cc] 24 #[.int .i64 a, .int .i64 b] 64
  clear hs
  have hN0 := hN; have hC0 := hC
  clear hN hC
  have d0 := x1.ext 0 rfl; have d1 := x1.ext 1 rfl
  go_enter Try.func13, Try.ntmps13
  go_wp2_with fail
  refine wp_region_ext_lit (by kernel_rfl) (by kernel_rfl) ?_
  repeat (quiet_step (fail))
  refine wpQuiet_nil ?_
  intro _ hw'
  obtain ⟨t, rfl⟩ := hw'
  have hbt := t.below
  clear d0 d1 hW
  generalize t.w = W1 at *
  replace x0 := x0.below hbt; replace hb := hb.trans (hbt.mono hb.size); clear hbt
  clear x1
  have c0 := x0.cell 0 rfl; have c1 := x0.cell 1 rfl; have c2 := x0.cell 2 rfl
  have lx : (xs.length : Int) ≤ 9223372036854775807 := by omega
  have g0 : decide ((a : Int) < 1) = true := by simp; omega
  go_wp2_with fail
  refine (isWheel_any _ _ _ _ _ _ _ _ (hN0.below hb (Nat.le_refl _)) (hC0.below hb (Nat.le_refl _))).mono ?_
  rintro e W2 ⟨rfl, hb1⟩
  rw [hw]
  (try clear c0 c1 c2); replace x0 := x0.below hb1; have c0 := x0.cell 0 rfl; have c1 := x0.cell 1 rfl; have c2 := x0.cell 2 rfl; replace hb := hb.trans (hb1.mono hb.size); clear hb1
  go_wp2_with fail
  refine (works_any _).mono ?_
  rintro e V3 ⟨rfl, hb1⟩
  replace hb := hb.trans (hb1.mono hb.size)
  clear hb1 x0 c0 c1 c2
  go_wp2
  go_ret
  exact ⟨rfl, hb⟩
set_option maxRecDepth 100000 in
set_option maxHeartbeats 1000000 in
theorem cheap_arg2 (R : Nat) (an ac : Option Addr) (cn cc : Nat) (N C : List Int) (a b : Int) (p : Option Addr) (cp : Nat) (xs : List Int) (w : World) (hN : Ints w an N) (hC : Ints w ac C) (hx : xs.length ≤ 9223372036854775807) (_hX : Ints w p xs) (hw : isWhl (R : Int) N C = true) (_hv : Vw R N C) (h0 : ¬ a < 1) (h1 : b < 1) :
    Calls Try.prog 13 #[.agg #[.int .i64 (R : Int), .slice an N.length cn, .slice ac C.length cc], .slice p xs.length cp, .agg #[.int .i64 a, .int .i64 b]] w (WorksP w) := by
  obtain ⟨W, hW, hb, hs, x0, x1⟩ := boxes2 w #[.int .i64 (R : Int), .slice an N.length cn, .slice ac C.length cc] 24 #[.int .i64 a, .int .i64 b] 64
  clear hs
  have hN0 := hN; have hC0 := hC
  clear hN hC
  have d0 := x1.ext 0 rfl; have d1 := x1.ext 1 rfl
  go_enter Try.func13, Try.ntmps13
  go_wp2_with fail
  refine wp_region_ext_lit (by kernel_rfl) (by kernel_rfl) ?_
  repeat (quiet_step (fail))
  refine wpQuiet_nil ?_
  intro _ hw'
  obtain ⟨t, rfl⟩ := hw'
  have hbt := t.below
  clear d0 d1 hW
  generalize t.w = W1 at *
  replace x0 := x0.below hbt; replace hb := hb.trans (hbt.mono hb.size); clear hbt
  clear x1
  have c0 := x0.cell 0 rfl; have c1 := x0.cell 1 rfl; have c2 := x0.cell 2 rfl
  have lx : (xs.length : Int) ≤ 9223372036854775807 := by omega
  have g0 : decide ((a : Int) < 1) = false := by simp; omega
  have g1 : decide (b < 1) = true := by simp; omega
  go_wp2_with fail
  refine (isWheel_any _ _ _ _ _ _ _ _ (hN0.below hb (Nat.le_refl _)) (hC0.below hb (Nat.le_refl _))).mono ?_
  rintro e W2 ⟨rfl, hb1⟩
  rw [hw]
  (try clear c0 c1 c2); replace x0 := x0.below hb1; have c0 := x0.cell 0 rfl; have c1 := x0.cell 1 rfl; have c2 := x0.cell 2 rfl; replace hb := hb.trans (hb1.mono hb.size); clear hb1
  go_wp2_with fail
  refine (works_any _).mono ?_
  rintro e V3 ⟨rfl, hb1⟩
  replace hb := hb.trans (hb1.mono hb.size)
  clear hb1 x0 c0 c1 c2
  go_wp2
  go_ret
  exact ⟨rfl, hb⟩
set_option maxRecDepth 100000 in
set_option maxHeartbeats 1000000 in
theorem cheap_arg3 (R : Nat) (an ac : Option Addr) (cn cc : Nat) (N C : List Int) (a b : Int) (p : Option Addr) (cp : Nat) (xs : List Int) (w : World) (hN : Ints w an N) (hC : Ints w ac C) (hx : xs.length ≤ 9223372036854775807) (_hX : Ints w p xs) (hw : isWhl (R : Int) N C = true) (_hv : Vw R N C) (h0 : ¬ a < 1) (h1 : ¬ b < 1) (h2 : 20 < a) :
    Calls Try.prog 13 #[.agg #[.int .i64 (R : Int), .slice an N.length cn, .slice ac C.length cc], .slice p xs.length cp, .agg #[.int .i64 a, .int .i64 b]] w (WorksP w) := by
  obtain ⟨W, hW, hb, hs, x0, x1⟩ := boxes2 w #[.int .i64 (R : Int), .slice an N.length cn, .slice ac C.length cc] 24 #[.int .i64 a, .int .i64 b] 64
  clear hs
  have hN0 := hN; have hC0 := hC
  clear hN hC
  have d0 := x1.ext 0 rfl; have d1 := x1.ext 1 rfl
  go_enter Try.func13, Try.ntmps13
  go_wp2_with fail
  refine wp_region_ext_lit (by kernel_rfl) (by kernel_rfl) ?_
  repeat (quiet_step (fail))
  refine wpQuiet_nil ?_
  intro _ hw'
  obtain ⟨t, rfl⟩ := hw'
  have hbt := t.below
  clear d0 d1 hW
  generalize t.w = W1 at *
  replace x0 := x0.below hbt; replace hb := hb.trans (hbt.mono hb.size); clear hbt
  clear x1
  have c0 := x0.cell 0 rfl; have c1 := x0.cell 1 rfl; have c2 := x0.cell 2 rfl
  have lx : (xs.length : Int) ≤ 9223372036854775807 := by omega
  have g0 : decide ((a : Int) < 1) = false := by simp; omega
  have g1 : decide (b < 1) = false := by simp; omega
  have g2 : decide ((20 : Int) < a) = true := by simp; omega
  go_wp2_with fail
  refine (isWheel_any _ _ _ _ _ _ _ _ (hN0.below hb (Nat.le_refl _)) (hC0.below hb (Nat.le_refl _))).mono ?_
  rintro e W2 ⟨rfl, hb1⟩
  rw [hw]
  (try clear c0 c1 c2); replace x0 := x0.below hb1; have c0 := x0.cell 0 rfl; have c1 := x0.cell 1 rfl; have c2 := x0.cell 2 rfl; replace hb := hb.trans (hb1.mono hb.size); clear hb1
  go_wp2_with fail
  refine (works_any _).mono ?_
  rintro e V3 ⟨rfl, hb1⟩
  replace hb := hb.trans (hb1.mono hb.size)
  clear hb1 x0 c0 c1 c2
  go_wp2
  go_ret
  exact ⟨rfl, hb⟩
set_option maxRecDepth 100000 in
set_option maxHeartbeats 1000000 in
theorem cheap_arg4 (R : Nat) (an ac : Option Addr) (cn cc : Nat) (N C : List Int) (a b : Int) (p : Option Addr) (cp : Nat) (xs : List Int) (w : World) (hN : Ints w an N) (hC : Ints w ac C) (hx : xs.length ≤ 9223372036854775807) (_hX : Ints w p xs) (hw : isWhl (R : Int) N C = true) (_hv : Vw R N C) (h0 : ¬ a < 1) (h1 : ¬ b < 1) (h2 : ¬ 20 < a) (h3 : 20 < b) :
    Calls Try.prog 13 #[.agg #[.int .i64 (R : Int), .slice an N.length cn, .slice ac C.length cc], .slice p xs.length cp, .agg #[.int .i64 a, .int .i64 b]] w (WorksP w) := by
  obtain ⟨W, hW, hb, hs, x0, x1⟩ := boxes2 w #[.int .i64 (R : Int), .slice an N.length cn, .slice ac C.length cc] 24 #[.int .i64 a, .int .i64 b] 64
  clear hs
  have hN0 := hN; have hC0 := hC
  clear hN hC
  have d0 := x1.ext 0 rfl; have d1 := x1.ext 1 rfl
  go_enter Try.func13, Try.ntmps13
  go_wp2_with fail
  refine wp_region_ext_lit (by kernel_rfl) (by kernel_rfl) ?_
  repeat (quiet_step (fail))
  refine wpQuiet_nil ?_
  intro _ hw'
  obtain ⟨t, rfl⟩ := hw'
  have hbt := t.below
  clear d0 d1 hW
  generalize t.w = W1 at *
  replace x0 := x0.below hbt; replace hb := hb.trans (hbt.mono hb.size); clear hbt
  clear x1
  have c0 := x0.cell 0 rfl; have c1 := x0.cell 1 rfl; have c2 := x0.cell 2 rfl
  have lx : (xs.length : Int) ≤ 9223372036854775807 := by omega
  have g0 : decide ((a : Int) < 1) = false := by simp; omega
  have g1 : decide (b < 1) = false := by simp; omega
  have g2 : decide ((20 : Int) < a) = false := by simp; omega
  have g3 : decide ((20 : Int) < b) = true := by simp; omega
  go_wp2_with fail
  refine (isWheel_any _ _ _ _ _ _ _ _ (hN0.below hb (Nat.le_refl _)) (hC0.below hb (Nat.le_refl _))).mono ?_
  rintro e W2 ⟨rfl, hb1⟩
  rw [hw]
  (try clear c0 c1 c2); replace x0 := x0.below hb1; have c0 := x0.cell 0 rfl; have c1 := x0.cell 1 rfl; have c2 := x0.cell 2 rfl; replace hb := hb.trans (hb1.mono hb.size); clear hb1
  go_wp2_with fail
  refine (works_any _).mono ?_
  rintro e V3 ⟨rfl, hb1⟩
  replace hb := hb.trans (hb1.mono hb.size)
  clear hb1 x0 c0 c1 c2
  go_wp2
  go_ret
  exact ⟨rfl, hb⟩
set_option maxRecDepth 100000 in
set_option maxHeartbeats 1000000 in
theorem cheap_arg5 (R : Nat) (an ac : Option Addr) (cn cc : Nat) (N C : List Int) (a b : Int) (p : Option Addr) (cp : Nat) (xs : List Int) (w : World) (hN : Ints w an N) (hC : Ints w ac C) (hx : xs.length ≤ 9223372036854775807) (_hX : Ints w p xs) (hw : isWhl (R : Int) N C = true) (_hv : Vw R N C) (h0 : ¬ a < 1) (h1 : ¬ b < 1) (h2 : ¬ 20 < a) (h3 : ¬ 20 < b) (h4 : 20 < a + b) :
    Calls Try.prog 13 #[.agg #[.int .i64 (R : Int), .slice an N.length cn, .slice ac C.length cc], .slice p xs.length cp, .agg #[.int .i64 a, .int .i64 b]] w (WorksP w) := by
  obtain ⟨W, hW, hb, hs, x0, x1⟩ := boxes2 w #[.int .i64 (R : Int), .slice an N.length cn, .slice ac C.length cc] 24 #[.int .i64 a, .int .i64 b] 64
  clear hs
  have hN0 := hN; have hC0 := hC
  clear hN hC
  have d0 := x1.ext 0 rfl; have d1 := x1.ext 1 rfl
  go_enter Try.func13, Try.ntmps13
  go_wp2_with fail
  refine wp_region_ext_lit (by kernel_rfl) (by kernel_rfl) ?_
  repeat (quiet_step (fail))
  refine wpQuiet_nil ?_
  intro _ hw'
  obtain ⟨t, rfl⟩ := hw'
  have hbt := t.below
  clear d0 d1 hW
  generalize t.w = W1 at *
  replace x0 := x0.below hbt; replace hb := hb.trans (hbt.mono hb.size); clear hbt
  clear x1
  have c0 := x0.cell 0 rfl; have c1 := x0.cell 1 rfl; have c2 := x0.cell 2 rfl
  have lx : (xs.length : Int) ≤ 9223372036854775807 := by omega
  have g0 : decide ((a : Int) < 1) = false := by simp; omega
  have g1 : decide (b < 1) = false := by simp; omega
  have g2 : decide ((20 : Int) < a) = false := by simp; omega
  have g3 : decide ((20 : Int) < b) = false := by simp; omega
  have g4 : decide ((20 : Int) < a + b) = true := by simp; omega
  go_wp2_with fail
  refine (isWheel_any _ _ _ _ _ _ _ _ (hN0.below hb (Nat.le_refl _)) (hC0.below hb (Nat.le_refl _))).mono ?_
  rintro e W2 ⟨rfl, hb1⟩
  rw [hw]
  (try clear c0 c1 c2); replace x0 := x0.below hb1; have c0 := x0.cell 0 rfl; have c1 := x0.cell 1 rfl; have c2 := x0.cell 2 rfl; replace hb := hb.trans (hb1.mono hb.size); clear hb1
  go_wp2_with fail
  refine (works_any _).mono ?_
  rintro e V3 ⟨rfl, hb1⟩
  replace hb := hb.trans (hb1.mono hb.size)
  clear hb1 x0 c0 c1 c2
  go_wp2
  go_ret
  exact ⟨rfl, hb⟩
set_option maxRecDepth 100000 in
set_option maxHeartbeats 1000000 in
theorem cheap_arg6 (R : Nat) (an ac : Option Addr) (cn cc : Nat) (N C : List Int) (a b : Int) (p : Option Addr) (cp : Nat) (xs : List Int) (w : World) (hN : Ints w an N) (hC : Ints w ac C) (hx : xs.length ≤ 9223372036854775807) (_hX : Ints w p xs) (hw : isWhl (R : Int) N C = true) (_hv : Vw R N C) (h0 : ¬ a < 1) (h1 : ¬ b < 1) (h2 : ¬ 20 < a) (h3 : ¬ 20 < b) (h4 : ¬ 20 < a + b) (h5 : 40 < (xs.length : Int)) :
    Calls Try.prog 13 #[.agg #[.int .i64 (R : Int), .slice an N.length cn, .slice ac C.length cc], .slice p xs.length cp, .agg #[.int .i64 a, .int .i64 b]] w (WorksP w) := by
  obtain ⟨W, hW, hb, hs, x0, x1⟩ := boxes2 w #[.int .i64 (R : Int), .slice an N.length cn, .slice ac C.length cc] 24 #[.int .i64 a, .int .i64 b] 64
  clear hs
  have hN0 := hN; have hC0 := hC
  clear hN hC
  have d0 := x1.ext 0 rfl; have d1 := x1.ext 1 rfl
  go_enter Try.func13, Try.ntmps13
  go_wp2_with fail
  refine wp_region_ext_lit (by kernel_rfl) (by kernel_rfl) ?_
  repeat (quiet_step (fail))
  refine wpQuiet_nil ?_
  intro _ hw'
  obtain ⟨t, rfl⟩ := hw'
  have hbt := t.below
  clear d0 d1 hW
  generalize t.w = W1 at *
  replace x0 := x0.below hbt; replace hb := hb.trans (hbt.mono hb.size); clear hbt
  clear x1
  have c0 := x0.cell 0 rfl; have c1 := x0.cell 1 rfl; have c2 := x0.cell 2 rfl
  have lx : (xs.length : Int) ≤ 9223372036854775807 := by omega
  have g0 : decide ((a : Int) < 1) = false := by simp; omega
  have g1 : decide (b < 1) = false := by simp; omega
  have g2 : decide ((20 : Int) < a) = false := by simp; omega
  have g3 : decide ((20 : Int) < b) = false := by simp; omega
  have g4 : decide ((20 : Int) < a + b) = false := by simp; omega
  have g5 : decide ((40 : Int) < (xs.length : Int)) = true := by simp; omega
  go_wp2_with fail
  refine (isWheel_any _ _ _ _ _ _ _ _ (hN0.below hb (Nat.le_refl _)) (hC0.below hb (Nat.le_refl _))).mono ?_
  rintro e W2 ⟨rfl, hb1⟩
  rw [hw]
  (try clear c0 c1 c2); replace x0 := x0.below hb1; have c0 := x0.cell 0 rfl; have c1 := x0.cell 1 rfl; have c2 := x0.cell 2 rfl; replace hb := hb.trans (hb1.mono hb.size); clear hb1
  go_wp2_with fail
  refine (works_any _).mono ?_
  rintro e V3 ⟨rfl, hb1⟩
  replace hb := hb.trans (hb1.mono hb.size)
  clear hb1 x0 c0 c1 c2
  go_wp2
  go_ret
  exact ⟨rfl, hb⟩
set_option maxRecDepth 100000 in
set_option maxHeartbeats 1000000 in
theorem cheap_arg7 (R : Nat) (an ac : Option Addr) (cn cc : Nat) (N C : List Int) (a b : Int) (p : Option Addr) (cp : Nat) (xs : List Int) (w : World) (hN : Ints w an N) (hC : Ints w ac C) (hx : xs.length ≤ 9223372036854775807) (hX : Ints w p xs) (hw : isWhl (R : Int) N C = true) (_hv : Vw R N C) (h0 : ¬ a < 1) (h1 : ¬ b < 1) (h2 : ¬ 20 < a) (h3 : ¬ 20 < b) (h4 : ¬ 20 < a + b) (h5 : ¬ 40 < (xs.length : Int)) (ho : okP C xs = false) :
    Calls Try.prog 13 #[.agg #[.int .i64 (R : Int), .slice an N.length cn, .slice ac C.length cc], .slice p xs.length cp, .agg #[.int .i64 a, .int .i64 b]] w (WorksP w) := by
  obtain ⟨W, hW, hb, hs, x0, x1⟩ := boxes2 w #[.int .i64 (R : Int), .slice an N.length cn, .slice ac C.length cc] 24 #[.int .i64 a, .int .i64 b] 64
  clear hs
  have hN0 := hN; have hC0 := hC
  clear hN hC
  have d0 := x1.ext 0 rfl; have d1 := x1.ext 1 rfl
  go_enter Try.func13, Try.ntmps13
  go_wp2_with fail
  refine wp_region_ext_lit (by kernel_rfl) (by kernel_rfl) ?_
  repeat (quiet_step (fail))
  refine wpQuiet_nil ?_
  intro _ hw'
  obtain ⟨t, rfl⟩ := hw'
  have hbt := t.below
  clear d0 d1 hW
  generalize t.w = W1 at *
  replace x0 := x0.below hbt; replace hb := hb.trans (hbt.mono hb.size); clear hbt
  clear x1
  have c0 := x0.cell 0 rfl; have c1 := x0.cell 1 rfl; have c2 := x0.cell 2 rfl
  have lx : (xs.length : Int) ≤ 9223372036854775807 := by omega
  have g0 : decide ((a : Int) < 1) = false := by simp; omega
  have g1 : decide (b < 1) = false := by simp; omega
  have g2 : decide ((20 : Int) < a) = false := by simp; omega
  have g3 : decide ((20 : Int) < b) = false := by simp; omega
  have g4 : decide ((20 : Int) < a + b) = false := by simp; omega
  have g5 : decide ((40 : Int) < (xs.length : Int)) = false := by simp; omega
  go_wp2_with fail
  refine (isWheel_any _ _ _ _ _ _ _ _ (hN0.below hb (Nat.le_refl _)) (hC0.below hb (Nat.le_refl _))).mono ?_
  rintro e W2 ⟨rfl, hb1⟩
  rw [hw]
  (try clear c0 c1 c2); replace x0 := x0.below hb1; have c0 := x0.cell 0 rfl; have c1 := x0.cell 1 rfl; have c2 := x0.cell 2 rfl; replace hb := hb.trans (hb1.mono hb.size); clear hb1
  go_wp2_with fail
  refine (isPurse_any _ _ _ _ _ _ _ p cp xs _ (hC0.below hb (Nat.le_refl _)) (hX.below hb (Nat.le_refl _)) (by omega)).mono ?_
  rintro e W3 ⟨rfl, hb1⟩
  rw [ho]
  (try clear c0 c1 c2); replace x0 := x0.below hb1; have c0 := x0.cell 0 rfl; have c1 := x0.cell 1 rfl; have c2 := x0.cell 2 rfl; replace hb := hb.trans (hb1.mono hb.size); clear hb1
  go_wp2_with fail
  refine (works_any _).mono ?_
  rintro e V3 ⟨rfl, hb1⟩
  replace hb := hb.trans (hb1.mono hb.size)
  clear hb1 x0 c0 c1 c2
  go_wp2
  go_ret
  exact ⟨rfl, hb⟩
set_option maxRecDepth 100000 in
set_option maxHeartbeats 1000000 in
theorem cheap_arg8 (R : Nat) (an ac : Option Addr) (cn cc : Nat) (N C : List Int) (a b : Int) (p : Option Addr) (cp : Nat) (xs : List Int) (w : World) (hN : Ints w an N) (hC : Ints w ac C) (hx : xs.length ≤ 9223372036854775807) (hX : Ints w p xs) (hw : isWhl (R : Int) N C = true) (hv : Vw R N C) (h0 : ¬ a < 1) (h1 : ¬ b < 1) (h2 : ¬ 20 < a) (h3 : ¬ 20 < b) (h4 : ¬ 20 < a + b) (h5 : ¬ 40 < (xs.length : Int)) (ho : okP C xs = true) (h6 : decide (6 < xs.sum) = true) :
    Calls Try.prog 13 #[.agg #[.int .i64 (R : Int), .slice an N.length cn, .slice ac C.length cc], .slice p xs.length cp, .agg #[.int .i64 a, .int .i64 b]] w (WorksP w) := by
  obtain ⟨W, hW, hb, hs, x0, x1⟩ := boxes2 w #[.int .i64 (R : Int), .slice an N.length cn, .slice ac C.length cc] 24 #[.int .i64 a, .int .i64 b] 64
  clear hs
  have hN0 := hN; have hC0 := hC
  clear hN hC
  have d0 := x1.ext 0 rfl; have d1 := x1.ext 1 rfl
  go_enter Try.func13, Try.ntmps13
  go_wp2_with fail
  refine wp_region_ext_lit (by kernel_rfl) (by kernel_rfl) ?_
  repeat (quiet_step (fail))
  refine wpQuiet_nil ?_
  intro _ hw'
  obtain ⟨t, rfl⟩ := hw'
  have hbt := t.below
  clear d0 d1 hW
  generalize t.w = W1 at *
  replace x0 := x0.below hbt; replace hb := hb.trans (hbt.mono hb.size); clear hbt
  clear x1
  have c0 := x0.cell 0 rfl; have c1 := x0.cell 1 rfl; have c2 := x0.cell 2 rfl
  have lx : (xs.length : Int) ≤ 9223372036854775807 := by omega
  have g0 : decide ((a : Int) < 1) = false := by simp; omega
  have g1 : decide (b < 1) = false := by simp; omega
  have g2 : decide ((20 : Int) < a) = false := by simp; omega
  have g3 : decide ((20 : Int) < b) = false := by simp; omega
  have g4 : decide ((20 : Int) < a + b) = false := by simp; omega
  have g5 : decide ((40 : Int) < (xs.length : Int)) = false := by simp; omega
  go_wp2_with fail
  refine (isWheel_any _ _ _ _ _ _ _ _ (hN0.below hb (Nat.le_refl _)) (hC0.below hb (Nat.le_refl _))).mono ?_
  rintro e W2 ⟨rfl, hb1⟩
  rw [hw]
  (try clear c0 c1 c2); replace x0 := x0.below hb1; have c0 := x0.cell 0 rfl; have c1 := x0.cell 1 rfl; have c2 := x0.cell 2 rfl; replace hb := hb.trans (hb1.mono hb.size); clear hb1
  go_wp2_with fail
  refine (isPurse_any _ _ _ _ _ _ _ p cp xs _ (hC0.below hb (Nat.le_refl _)) (hX.below hb (Nat.le_refl _)) (by omega)).mono ?_
  rintro e W3 ⟨rfl, hb1⟩
  rw [ho]
  (try clear c0 c1 c2); replace x0 := x0.below hb1; have c0 := x0.cell 0 rfl; have c1 := x0.cell 1 rfl; have c2 := x0.cell 2 rfl; replace hb := hb.trans (hb1.mono hb.size); clear hb1
  go_wp2_with fail
  refine (rich_ok _ _ _ _ _ _ _ p cp xs _ (hN0.below hb (Nat.le_refl _)) (hC0.below hb (Nat.le_refl _)) (hX.below hb (Nat.le_refl _)) hv ho).mono ?_
  rintro e W4 ⟨rfl, hb1⟩
  rw [h6]
  (try clear c0 c1 c2); replace x0 := x0.below hb1; have c0 := x0.cell 0 rfl; have c1 := x0.cell 1 rfl; have c2 := x0.cell 2 rfl; replace hb := hb.trans (hb1.mono hb.size); clear hb1
  go_wp2_with fail
  refine (works_any _).mono ?_
  rintro e V3 ⟨rfl, hb1⟩
  replace hb := hb.trans (hb1.mono hb.size)
  clear hb1 x0 c0 c1 c2
  go_wp2
  go_ret
  exact ⟨rfl, hb⟩

theorem cheap_any (r : Int) (an ac : Option Addr) (cn cc : Nat) (N C : List Int) (a b : Int) (p : Option Addr) (cp : Nat) (xs : List Int) (w : World) (hN : Ints w an N) (hC : Ints w ac C) (hX : Ints w p xs) :
    Calls Try.prog 13 #[.agg #[.int .i64 r, .slice an N.length cn, .slice ac C.length cc], .slice p xs.length cp, .agg #[.int .i64 a, .int .i64 b]] w (WorksP w) := by
  have hx := hX.len
  cases hw : isWhl r N C
  · exact cheap_arg0 _ _ _ _ _ _ _ a b p cp xs w hN hC hx hw
  · obtain ⟨R, rfl, hv⟩ := isWhl_vw hw
    by_cases h0 : a < 1
    · exact cheap_arg1 _ _ _ _ _ _ _ a b p cp xs w hN hC hx hX hw hv h0
    by_cases h1 : b < 1
    · exact cheap_arg2 _ _ _ _ _ _ _ a b p cp xs w hN hC hx hX hw hv h0 h1
    by_cases h2 : 20 < a
    · exact cheap_arg3 _ _ _ _ _ _ _ a b p cp xs w hN hC hx hX hw hv h0 h1 h2
    by_cases h3 : 20 < b
    · exact cheap_arg4 _ _ _ _ _ _ _ a b p cp xs w hN hC hx hX hw hv h0 h1 h2 h3
    by_cases h4 : 20 < a + b
    · exact cheap_arg5 _ _ _ _ _ _ _ a b p cp xs w hN hC hx hX hw hv h0 h1 h2 h3 h4
    by_cases h5 : 40 < (xs.length : Int)
    · exact cheap_arg6 _ _ _ _ _ _ _ a b p cp xs w hN hC hx hX hw hv h0 h1 h2 h3 h4 h5
    cases ho : okP C xs
    · exact cheap_arg7 _ _ _ _ _ _ _ a b p cp xs w hN hC hx hX hw hv h0 h1 h2 h3 h4 h5 ho
    cases h6 : decide (6 < xs.sum)
    · obtain ⟨m, rfl⟩ := Int.eq_ofNat_of_zero_le (show 0 ≤ a by omega)
      obtain ⟨n, rfl⟩ := Int.eq_ofNat_of_zero_le (show 0 ≤ b by omega)
      have h7 : xs.sum ≤ 6 := by simp at h6; omega
      by_cases hz : N ≠ [] ∧ C ≠ []
      · exact cheap_ok R _ _ _ _ _ _ m n p cp xs w hN hC hX hw hv (by omega) (by omega) (by omega) ho h7 hz
      · exact cheap_none R _ _ _ _ _ _ m n p cp xs w hN hC hX hw hv (by omega) (by omega) (by omega) ho h7 (by
          by_cases hN0 : N = []
          · exact .inl hN0
          · exact .inr (by
              by_cases hC0 : C = []
              · exact hC0
              · exact absurd ⟨hN0, hC0⟩ hz))
    · exact cheap_arg8 _ _ _ _ _ _ _ a b p cp xs w hN hC hx hX hw hv h0 h1 h2 h3 h4 h5 ho h6
end Go.Proofs.Ytmkmnedojgigoaa
