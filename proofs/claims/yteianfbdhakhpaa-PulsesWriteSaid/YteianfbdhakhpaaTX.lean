import Derived.Test.YteianfbdhakhpaaTT
/-! Two trains that are equal. -/
namespace Go.Proofs.Yteianfbdhakhpaa
set_option linter.unusedSimpArgs false
set_option linter.unusedVariables false
open Go Go.RowKit
set_option maxRecDepth 100000 in
set_option maxHeartbeats 4000000 in
theorem same_eq (aT : Option Addr) (cT : Nat) (X : Pu) (aQ : Option Addr) (cQ : Nat) (w : World) (hX : Ints w aT X.ts) (hQ : Ints w aQ X.ts) : Calls Try.prog 20 #[.agg #[.int .i64 X.l, .int .i64 X.n, .int .i64 X.pi, .int .i64 X.sl, .int .i64 X.ga, .int .i64 X.pa, .int .i64 X.sp, .slice aT X.ts.length cT], .agg #[.int .i64 X.l, .int .i64 X.n, .int .i64 X.pi, .int .i64 X.sl, .int .i64 X.ga, .int .i64 X.pa, .int .i64 X.sp, .slice aQ X.ts.length cQ]] w fun e w' => e = .returned (.bool true) ∧ Below w.heap.size w w' := by
  obtain ⟨W, hW, hb, _, x0, x1⟩ := boxes2 w #[.int .i64 X.l, .int .i64 X.n, .int .i64 X.pi, .int .i64 X.sl, .int .i64 X.ga, .int .i64 X.pa, .int .i64 X.sp, .slice aT X.ts.length cT] 24 #[.int .i64 X.l, .int .i64 X.n, .int .i64 X.pi, .int .i64 X.sl, .int .i64 X.ga, .int .i64 X.pa, .int .i64 X.sp, .slice aQ X.ts.length cQ] 24
  have hs := SameInts_any aT aQ cT cQ X.ts X.ts W (hX.below hb (Nat.le_refl _)) (hQ.below hb (Nat.le_refl _))
  rw [decide_eq_true (rfl : X.ts = X.ts)] at hs
  generalize X.ts.length = n at *
  clear hX hQ
  obtain ⟨l, nn, pi, sl, ga, pa, sp, ts⟩ := X
  simp only at *
  have q0 : (l == l) = true := by simp
  have q1 : (nn == nn) = true := by simp
  have q2 : (pi == pi) = true := by simp
  have q3 : (sl == sl) = true := by simp
  have q4 : (ga == ga) = true := by simp
  have q5 : (pa == pa) = true := by simp
  have q6 : (sp == sp) = true := by simp
  have c0 := x0.cell 0 rfl; have c1 := x0.cell 1 rfl; have c2 := x0.cell 2 rfl; have c3 := x0.cell 3 rfl; have c4 := x0.cell 4 rfl; have c5 := x0.cell 5 rfl; have c6 := x0.cell 6 rfl; have c7 := x0.cell 7 rfl
  have d0 := x1.cell 0 rfl; have d1 := x1.cell 1 rfl; have d2 := x1.cell 2 rfl; have d3 := x1.cell 3 rfl; have d4 := x1.cell 4 rfl; have d5 := x1.cell 5 rfl; have d6 := x1.cell 6 rfl; have d7 := x1.cell 7 rfl
  go_enter Try.func20, Try.ntmps20
  go_wp2_with fail
  refine hs.mono ?_
  rintro e V ⟨rfl, hb1⟩
  replace hb := hb.trans (hb1.mono hb.size)
  clear hb1 hs hW c0 c1 c2 c3 c4 c5 c6 c7 d0 d1 d2 d3 d4 d5 d6 d7 x0 x1
  go_wp2
  go_ret
  exact ⟨rfl, hb⟩
end Go.Proofs.Yteianfbdhakhpaa
