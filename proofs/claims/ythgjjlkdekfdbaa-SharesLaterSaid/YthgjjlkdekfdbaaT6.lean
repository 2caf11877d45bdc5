import Derived.Test.YthgjjlkdekfdbaaT5
/-! A week is paid, begun, gone on and ended. -/
namespace Go.Proofs.Ythgjjlkdekfdbaa
set_option linter.unusedSimpArgs false
set_option linter.unusedVariables false
open Go Go.RowKit

set_option maxRecDepth 100000 in
set_option maxHeartbeats 2000000 in
theorem pay_0 (u : Wk) (n : Int) (hu : Wb u) (hn : 0 ≤ n ∧ n ≤ 1000000) (w : World) (r : Wk) (hr : r = payOp u n) : Calls Try.prog 56 #[.agg #[.int .i64 u.op, .int .i64 u.ow, .int .i64 u.rp, .int .i64 u.rest, .int .i64 u.owed], .int .i64 n, .int .i64 0] w fun e w' => e = .returned (.agg #[.int .i64 r.op, .int .i64 r.ow, .int .i64 r.rp, .int .i64 r.rest, .int .i64 r.owed]) ∧ Below w.heap.size w w' := by
  obtain ⟨W, hW, hb, _, x0, x1⟩ := boxes2 w #[.int .i64 u.op, .int .i64 u.ow, .int .i64 u.rp, .int .i64 u.rest, .int .i64 u.owed] 70 #[.int .i64 0, .int .i64 0, .int .i64 0, .int .i64 0, .int .i64 0] 70
  have c0 := x0.cell 0 rfl; have c1 := x0.cell 1 rfl; have c2 := x0.cell 2 rfl; have c3 := x0.cell 3 rfl; have c4 := x0.cell 4 rfl
  have f0 := x0.free 0; have f1 := x0.free 1; have f2 := x0.free 2; have f3 := x0.free 3; have f4 := x0.free 4
  have h1 := hu.op; have h2 := hu.ow; have h3 := hu.rp; have h4 := hu.rest; have h5 := hu.owed
  have e0 : IntKind.i64.wrap (u.rest - n) = u.rest - n := IntWalk.i64_in _ (by omega)
  have e1 : IntKind.i64.wrap (u.op + n) = u.op + n := IntWalk.i64_in _ (by omega)
  clear hu hn h1 h2 h3 h4 h5
  go_enter Try.func56, Try.ntmps56
  go_upto_region 2 with fail
  have y0 := x0.put5_3 (.int .i64 (u.rest - n))
  have y1 := x1.other (a := ⟨w.heap.size, 3, none⟩) (by show w.heap.size + 1 ≠ w.heap.size; omega) (.int .i64 (u.rest - n))
  have hb' := hb.setCell (p := ⟨w.heap.size, 3, none⟩) (Nat.le_refl _) (.int .i64 (u.rest - n))
  clear x0 x1 hb c0 c1 c2 c3 c4 f0 f1 f2 f3 f4 hW
  generalize World.setCell _ _ _ = V0 at *
  obtain ⟨x0, x1, hb⟩ := And.intro y0 (And.intro y1 hb')
  clear y0 y1 hb'
  have c0 := x0.cell 0 rfl; have c1 := x0.cell 1 rfl; have c2 := x0.cell 2 rfl; have c3 := x0.cell 3 rfl; have c4 := x0.cell 4 rfl
  have f0 := x0.free 0; have f1 := x0.free 1; have f2 := x0.free 2; have f3 := x0.free 3; have f4 := x0.free 4
  go_upto_region 11 with fail
  have y0 := x0.put5_0 (.int .i64 (u.op + n))
  have y1 := x1.other (a := ⟨w.heap.size, 0, none⟩) (by show w.heap.size + 1 ≠ w.heap.size; omega) (.int .i64 (u.op + n))
  have hb' := hb.setCell (p := ⟨w.heap.size, 0, none⟩) (Nat.le_refl _) (.int .i64 (u.op + n))
  clear x0 x1 hb c0 c1 c2 c3 c4 f0 f1 f2 f3 f4
  generalize World.setCell _ _ _ = V1 at *
  obtain ⟨x0, x1, hb⟩ := And.intro y0 (And.intro y1 hb')
  clear y0 y1 hb'
  have c0 := x0.cell 0 rfl; have c1 := x0.cell 1 rfl; have c2 := x0.cell 2 rfl; have c3 := x0.cell 3 rfl; have c4 := x0.cell 4 rfl
  have f0 := x0.free 0; have f1 := x0.free 1; have f2 := x0.free 2; have f3 := x0.free 3; have f4 := x0.free 4
  have d0 := x1.cell 0 rfl; have d1 := x1.cell 1 rfl; have d2 := x1.cell 2 rfl; have d3 := x1.cell 3 rfl; have d4 := x1.cell 4 rfl
  have g0 := x1.free 0; have g1 := x1.free 1; have g2 := x1.free 2; have g3 := x1.free 3; have g4 := x1.free 4
  have y1 := x1.set5 (.int .i64 (u.op + n)) (.int .i64 (u.ow)) (.int .i64 (u.rp)) (.int .i64 (u.rest - n)) (.int .i64 (u.owed))
  have hb' := below_put5 hb (b := w.heap.size + 1) (by omega) (.int .i64 (u.op + n)) (.int .i64 (u.ow)) (.int .i64 (u.rp)) (.int .i64 (u.rest - n)) (.int .i64 (u.owed))
  have HX := hid (And.intro y1 hb')
  clear y1 hb' x0 x1 hb
  go_wp2_with fail
  obtain ⟨y1, hb⟩ := HX.out
  clear HX
  generalize World.setCell _ _ _ = VV at *
  have k0 := y1.cell 0 rfl; have k1 := y1.cell 1 rfl; have k2 := y1.cell 2 rfl; have k3 := y1.cell 3 rfl; have k4 := y1.cell 4 rfl
  refine bodyPost_ret (v := .agg #[.int .i64 (u.op + n), .int .i64 (u.ow), .int .i64 (u.rp), .int .i64 (u.rest - n), .int .i64 (u.owed)]) ?_ rfl ⟨?_, hb⟩
  · simp [results, Try.results56, go_sem, k0, k1, k2, k3, k4]
  · rw [hr]; rfl
set_option maxRecDepth 100000 in
set_option maxHeartbeats 2000000 in
theorem pay_1 (u : Wk) (n : Int) (hu : Wb u) (hn : 0 ≤ n ∧ n ≤ 1000000) (w : World) (r : Wk) (hr : r = payLe u n) : Calls Try.prog 56 #[.agg #[.int .i64 u.op, .int .i64 u.ow, .int .i64 u.rp, .int .i64 u.rest, .int .i64 u.owed], .int .i64 n, .int .i64 1] w fun e w' => e = .returned (.agg #[.int .i64 r.op, .int .i64 r.ow, .int .i64 r.rp, .int .i64 r.rest, .int .i64 r.owed]) ∧ Below w.heap.size w w' := by
  obtain ⟨W, hW, hb, _, x0, x1⟩ := boxes2 w #[.int .i64 u.op, .int .i64 u.ow, .int .i64 u.rp, .int .i64 u.rest, .int .i64 u.owed] 70 #[.int .i64 0, .int .i64 0, .int .i64 0, .int .i64 0, .int .i64 0] 70
  have c0 := x0.cell 0 rfl; have c1 := x0.cell 1 rfl; have c2 := x0.cell 2 rfl; have c3 := x0.cell 3 rfl; have c4 := x0.cell 4 rfl
  have f0 := x0.free 0; have f1 := x0.free 1; have f2 := x0.free 2; have f3 := x0.free 3; have f4 := x0.free 4
  have h1 := hu.op; have h2 := hu.ow; have h3 := hu.rp; have h4 := hu.rest; have h5 := hu.owed
  have e0 : IntKind.i64.wrap (u.rest - n) = u.rest - n := IntWalk.i64_in _ (by omega)
  have e1 : IntKind.i64.wrap (u.op + n) = u.op + n := IntWalk.i64_in _ (by omega)
  have e2 : IntKind.i64.wrap (u.rp + n) = u.rp + n := IntWalk.i64_in _ (by omega)
  have e3 : IntKind.i64.wrap (u.owed - n) = u.owed - n := IntWalk.i64_in _ (by omega)
  clear hu hn h1 h2 h3 h4 h5
  go_enter Try.func56, Try.ntmps56
  go_upto_region 2 with fail
  have y0 := x0.put5_3 (.int .i64 (u.rest - n))
  have y1 := x1.other (a := ⟨w.heap.size, 3, none⟩) (by show w.heap.size + 1 ≠ w.heap.size; omega) (.int .i64 (u.rest - n))
  have hb' := hb.setCell (p := ⟨w.heap.size, 3, none⟩) (Nat.le_refl _) (.int .i64 (u.rest - n))
  clear x0 x1 hb c0 c1 c2 c3 c4 f0 f1 f2 f3 f4 hW
  generalize World.setCell _ _ _ = V0 at *
  obtain ⟨x0, x1, hb⟩ := And.intro y0 (And.intro y1 hb')
  clear y0 y1 hb'
  have c0 := x0.cell 0 rfl; have c1 := x0.cell 1 rfl; have c2 := x0.cell 2 rfl; have c3 := x0.cell 3 rfl; have c4 := x0.cell 4 rfl
  have f0 := x0.free 0; have f1 := x0.free 1; have f2 := x0.free 2; have f3 := x0.free 3; have f4 := x0.free 4
  go_upto_region 7 with fail
  have y0 := x0.put5_0 (.int .i64 (u.op + n))
  have y1 := x1.other (a := ⟨w.heap.size, 0, none⟩) (by show w.heap.size + 1 ≠ w.heap.size; omega) (.int .i64 (u.op + n))
  have hb' := hb.setCell (p := ⟨w.heap.size, 0, none⟩) (Nat.le_refl _) (.int .i64 (u.op + n))
  clear x0 x1 hb c0 c1 c2 c3 c4 f0 f1 f2 f3 f4
  generalize World.setCell _ _ _ = V1 at *
  obtain ⟨x0, x1, hb⟩ := And.intro y0 (And.intro y1 hb')
  clear y0 y1 hb'
  have c0 := x0.cell 0 rfl; have c1 := x0.cell 1 rfl; have c2 := x0.cell 2 rfl; have c3 := x0.cell 3 rfl; have c4 := x0.cell 4 rfl
  have f0 := x0.free 0; have f1 := x0.free 1; have f2 := x0.free 2; have f3 := x0.free 3; have f4 := x0.free 4
  go_upto_region 8 with fail
  have y0 := x0.put5_2 (.int .i64 (u.rp + n))
  have y1 := x1.other (a := ⟨w.heap.size, 2, none⟩) (by show w.heap.size + 1 ≠ w.heap.size; omega) (.int .i64 (u.rp + n))
  have hb' := hb.setCell (p := ⟨w.heap.size, 2, none⟩) (Nat.le_refl _) (.int .i64 (u.rp + n))
  clear x0 x1 hb c0 c1 c2 c3 c4 f0 f1 f2 f3 f4
  generalize World.setCell _ _ _ = V2 at *
  obtain ⟨x0, x1, hb⟩ := And.intro y0 (And.intro y1 hb')
  clear y0 y1 hb'
  have c0 := x0.cell 0 rfl; have c1 := x0.cell 1 rfl; have c2 := x0.cell 2 rfl; have c3 := x0.cell 3 rfl; have c4 := x0.cell 4 rfl
  have f0 := x0.free 0; have f1 := x0.free 1; have f2 := x0.free 2; have f3 := x0.free 3; have f4 := x0.free 4
  go_upto_region 11 with fail
  have y0 := x0.put5_4 (.int .i64 (u.owed - n))
  have y1 := x1.other (a := ⟨w.heap.size, 4, none⟩) (by show w.heap.size + 1 ≠ w.heap.size; omega) (.int .i64 (u.owed - n))
  have hb' := hb.setCell (p := ⟨w.heap.size, 4, none⟩) (Nat.le_refl _) (.int .i64 (u.owed - n))
  clear x0 x1 hb c0 c1 c2 c3 c4 f0 f1 f2 f3 f4
  generalize World.setCell _ _ _ = V3 at *
  obtain ⟨x0, x1, hb⟩ := And.intro y0 (And.intro y1 hb')
  clear y0 y1 hb'
  have c0 := x0.cell 0 rfl; have c1 := x0.cell 1 rfl; have c2 := x0.cell 2 rfl; have c3 := x0.cell 3 rfl; have c4 := x0.cell 4 rfl
  have f0 := x0.free 0; have f1 := x0.free 1; have f2 := x0.free 2; have f3 := x0.free 3; have f4 := x0.free 4
  have d0 := x1.cell 0 rfl; have d1 := x1.cell 1 rfl; have d2 := x1.cell 2 rfl; have d3 := x1.cell 3 rfl; have d4 := x1.cell 4 rfl
  have g0 := x1.free 0; have g1 := x1.free 1; have g2 := x1.free 2; have g3 := x1.free 3; have g4 := x1.free 4
  have y1 := x1.set5 (.int .i64 (u.op + n)) (.int .i64 (u.ow)) (.int .i64 (u.rp + n)) (.int .i64 (u.rest - n)) (.int .i64 (u.owed - n))
  have hb' := below_put5 hb (b := w.heap.size + 1) (by omega) (.int .i64 (u.op + n)) (.int .i64 (u.ow)) (.int .i64 (u.rp + n)) (.int .i64 (u.rest - n)) (.int .i64 (u.owed - n))
  have HX := hid (And.intro y1 hb')
  clear y1 hb' x0 x1 hb
  go_wp2_with fail
  obtain ⟨y1, hb⟩ := HX.out
  clear HX
  generalize World.setCell _ _ _ = VV at *
  have k0 := y1.cell 0 rfl; have k1 := y1.cell 1 rfl; have k2 := y1.cell 2 rfl; have k3 := y1.cell 3 rfl; have k4 := y1.cell 4 rfl
  refine bodyPost_ret (v := .agg #[.int .i64 (u.op + n), .int .i64 (u.ow), .int .i64 (u.rp + n), .int .i64 (u.rest - n), .int .i64 (u.owed - n)]) ?_ rfl ⟨?_, hb⟩
  · simp [results, Try.results56, go_sem, k0, k1, k2, k3, k4]
  · rw [hr]; rfl
set_option maxRecDepth 100000 in
set_option maxHeartbeats 2000000 in
theorem pay_2 (u : Wk) (n : Int) (hu : Wb u) (hn : 0 ≤ n ∧ n ≤ 1000000) (w : World) (r : Wk) (hr : r = payOw u n) : Calls Try.prog 56 #[.agg #[.int .i64 u.op, .int .i64 u.ow, .int .i64 u.rp, .int .i64 u.rest, .int .i64 u.owed], .int .i64 n, .int .i64 2] w fun e w' => e = .returned (.agg #[.int .i64 r.op, .int .i64 r.ow, .int .i64 r.rp, .int .i64 r.rest, .int .i64 r.owed]) ∧ Below w.heap.size w w' := by
  obtain ⟨W, hW, hb, _, x0, x1⟩ := boxes2 w #[.int .i64 u.op, .int .i64 u.ow, .int .i64 u.rp, .int .i64 u.rest, .int .i64 u.owed] 70 #[.int .i64 0, .int .i64 0, .int .i64 0, .int .i64 0, .int .i64 0] 70
  have c0 := x0.cell 0 rfl; have c1 := x0.cell 1 rfl; have c2 := x0.cell 2 rfl; have c3 := x0.cell 3 rfl; have c4 := x0.cell 4 rfl
  have f0 := x0.free 0; have f1 := x0.free 1; have f2 := x0.free 2; have f3 := x0.free 3; have f4 := x0.free 4
  have h1 := hu.op; have h2 := hu.ow; have h3 := hu.rp; have h4 := hu.rest; have h5 := hu.owed
  have e0 : IntKind.i64.wrap (u.rest - n) = u.rest - n := IntWalk.i64_in _ (by omega)
  have e1 : IntKind.i64.wrap (u.ow + n) = u.ow + n := IntWalk.i64_in _ (by omega)
  clear hu hn h1 h2 h3 h4 h5
  go_enter Try.func56, Try.ntmps56
  go_upto_region 2 with fail
  have y0 := x0.put5_3 (.int .i64 (u.rest - n))
  have y1 := x1.other (a := ⟨w.heap.size, 3, none⟩) (by show w.heap.size + 1 ≠ w.heap.size; omega) (.int .i64 (u.rest - n))
  have hb' := hb.setCell (p := ⟨w.heap.size, 3, none⟩) (Nat.le_refl _) (.int .i64 (u.rest - n))
  clear x0 x1 hb c0 c1 c2 c3 c4 f0 f1 f2 f3 f4 hW
  generalize World.setCell _ _ _ = V0 at *
  obtain ⟨x0, x1, hb⟩ := And.intro y0 (And.intro y1 hb')
  clear y0 y1 hb'
  have c0 := x0.cell 0 rfl; have c1 := x0.cell 1 rfl; have c2 := x0.cell 2 rfl; have c3 := x0.cell 3 rfl; have c4 := x0.cell 4 rfl
  have f0 := x0.free 0; have f1 := x0.free 1; have f2 := x0.free 2; have f3 := x0.free 3; have f4 := x0.free 4
  go_upto_region 11 with fail
  have y0 := x0.put5_1 (.int .i64 (u.ow + n))
  have y1 := x1.other (a := ⟨w.heap.size, 1, none⟩) (by show w.heap.size + 1 ≠ w.heap.size; omega) (.int .i64 (u.ow + n))
  have hb' := hb.setCell (p := ⟨w.heap.size, 1, none⟩) (Nat.le_refl _) (.int .i64 (u.ow + n))
  clear x0 x1 hb c0 c1 c2 c3 c4 f0 f1 f2 f3 f4
  generalize World.setCell _ _ _ = V1 at *
  obtain ⟨x0, x1, hb⟩ := And.intro y0 (And.intro y1 hb')
  clear y0 y1 hb'
  have c0 := x0.cell 0 rfl; have c1 := x0.cell 1 rfl; have c2 := x0.cell 2 rfl; have c3 := x0.cell 3 rfl; have c4 := x0.cell 4 rfl
  have f0 := x0.free 0; have f1 := x0.free 1; have f2 := x0.free 2; have f3 := x0.free 3; have f4 := x0.free 4
  have d0 := x1.cell 0 rfl; have d1 := x1.cell 1 rfl; have d2 := x1.cell 2 rfl; have d3 := x1.cell 3 rfl; have d4 := x1.cell 4 rfl
  have g0 := x1.free 0; have g1 := x1.free 1; have g2 := x1.free 2; have g3 := x1.free 3; have g4 := x1.free 4
  have y1 := x1.set5 (.int .i64 (u.op)) (.int .i64 (u.ow + n)) (.int .i64 (u.rp)) (.int .i64 (u.rest - n)) (.int .i64 (u.owed))
  have hb' := below_put5 hb (b := w.heap.size + 1) (by omega) (.int .i64 (u.op)) (.int .i64 (u.ow + n)) (.int .i64 (u.rp)) (.int .i64 (u.rest - n)) (.int .i64 (u.owed))
  have HX := hid (And.intro y1 hb')
  clear y1 hb' x0 x1 hb
  go_wp2_with fail
  obtain ⟨y1, hb⟩ := HX.out
  clear HX
  generalize World.setCell _ _ _ = VV at *
  have k0 := y1.cell 0 rfl; have k1 := y1.cell 1 rfl; have k2 := y1.cell 2 rfl; have k3 := y1.cell 3 rfl; have k4 := y1.cell 4 rfl
  refine bodyPost_ret (v := .agg #[.int .i64 (u.op), .int .i64 (u.ow + n), .int .i64 (u.rp), .int .i64 (u.rest - n), .int .i64 (u.owed)]) ?_ rfl ⟨?_, hb⟩
  · simp [results, Try.results56, go_sem, k0, k1, k2, k3, k4]
  · rw [hr]; rfl
theorem pay_any (u : Wk) (n t : Int) (ht : t = 0 ∨ t = 1 ∨ t = 2) (hu : Wb u) (hn : 0 ≤ n ∧ n ≤ 1000000) (w : World) (r : Wk) (hr : r = payW u n t) : Calls Try.prog 56 #[.agg #[.int .i64 u.op, .int .i64 u.ow, .int .i64 u.rp, .int .i64 u.rest, .int .i64 u.owed], .int .i64 n, .int .i64 t] w fun e w' => e = .returned (.agg #[.int .i64 r.op, .int .i64 r.ow, .int .i64 r.rp, .int .i64 r.rest, .int .i64 r.owed]) ∧ Below w.heap.size w w' := by
  rcases ht with rfl | rfl | rfl
  · exact pay_0 u n hu hn w r (by rw [hr]; simp [payW])
  · exact pay_1 u n hu hn w r (by rw [hr]; simp [payW])
  · exact pay_2 u n hu hn w r (by rw [hr]; simp [payW])
end Go.Proofs.Ythgjjlkdekfdbaa
