import Derived.Test.YthgjjlkdekfdbaaT3
import Derived.Laws.EntriesVeiled
/-! The table of kinds. -/
namespace Go.Proofs.Ythgjjlkdekfdbaa
set_option linter.unusedSimpArgs false
set_option linter.unusedVariables false
open Go Go.RowKit

theorem Bx.set5 {W : World} {b : Nat} {T : TypeId} {a0 a1 a2 a3 a4 : Value} (h : Bx W b #[a0, a1, a2, a3, a4] T) (v0 v1 v2 v3 v4 : Value) : Bx (((((W.setCell ⟨b, 0, none⟩ v0).setCell ⟨b, 1, none⟩ v1).setCell ⟨b, 2, none⟩ v2).setCell ⟨b, 3, none⟩ v3).setCell ⟨b, 4, none⟩ v4) b #[v0, v1, v2, v3, v4] T := by
  simpa using (((((h.set 0 v0).set 1 v1).set 2 v2).set 3 v3).set 4 v4)
theorem below_put5 {B : Nat} {w W : World} (h : Below B w W) {b : Nat} (hp : B ≤ b) (v0 v1 v2 v3 v4 : Value) : Below B w (((((W.setCell ⟨b, 0, none⟩ v0).setCell ⟨b, 1, none⟩ v1).setCell ⟨b, 2, none⟩ v2).setCell ⟨b, 3, none⟩ v3).setCell ⟨b, 4, none⟩ v4) := (((((h.setCell (p := ⟨b, 0, none⟩) hp v0).setCell (p := ⟨b, 1, none⟩) hp v1).setCell (p := ⟨b, 2, none⟩) hp v2).setCell (p := ⟨b, 3, none⟩) hp v3).setCell (p := ⟨b, 4, none⟩) hp v4)
theorem Bx.oth5 {W : World} {b c : Nat} {T : TypeId} {vs : Array Value} (h : Bx W c vs T) (hne : c ≠ b) (v0 v1 v2 v3 v4 : Value) : Bx (((((W.setCell ⟨b, 0, none⟩ v0).setCell ⟨b, 1, none⟩ v1).setCell ⟨b, 2, none⟩ v2).setCell ⟨b, 3, none⟩ v3).setCell ⟨b, 4, none⟩ v4) c vs T := (((((h.other (a := ⟨b, 0, none⟩) hne v0).other (a := ⟨b, 1, none⟩) hne v1).other (a := ⟨b, 2, none⟩) hne v2).other (a := ⟨b, 3, none⟩) hne v3).other (a := ⟨b, 4, none⟩) hne v4)
theorem Bx.set12 {W : World} {b : Nat} {T : TypeId} {a0 a1 a2 a3 a4 a5 a6 a7 a8 a9 a10 a11 : Value} (h : Bx W b #[a0, a1, a2, a3, a4, a5, a6, a7, a8, a9, a10, a11] T) (v0 v1 v2 v3 v4 v5 v6 v7 v8 v9 v10 v11 : Value) : Bx ((((((((((((W.setCell ⟨b, 0, none⟩ v0).setCell ⟨b, 1, none⟩ v1).setCell ⟨b, 2, none⟩ v2).setCell ⟨b, 3, none⟩ v3).setCell ⟨b, 4, none⟩ v4).setCell ⟨b, 5, none⟩ v5).setCell ⟨b, 6, none⟩ v6).setCell ⟨b, 7, none⟩ v7).setCell ⟨b, 8, none⟩ v8).setCell ⟨b, 9, none⟩ v9).setCell ⟨b, 10, none⟩ v10).setCell ⟨b, 11, none⟩ v11) b #[v0, v1, v2, v3, v4, v5, v6, v7, v8, v9, v10, v11] T := by
  simpa using ((((((((((((h.set 0 v0).set 1 v1).set 2 v2).set 3 v3).set 4 v4).set 5 v5).set 6 v6).set 7 v7).set 8 v8).set 9 v9).set 10 v10).set 11 v11)
theorem below_put12 {B : Nat} {w W : World} (h : Below B w W) {b : Nat} (hp : B ≤ b) (v0 v1 v2 v3 v4 v5 v6 v7 v8 v9 v10 v11 : Value) : Below B w ((((((((((((W.setCell ⟨b, 0, none⟩ v0).setCell ⟨b, 1, none⟩ v1).setCell ⟨b, 2, none⟩ v2).setCell ⟨b, 3, none⟩ v3).setCell ⟨b, 4, none⟩ v4).setCell ⟨b, 5, none⟩ v5).setCell ⟨b, 6, none⟩ v6).setCell ⟨b, 7, none⟩ v7).setCell ⟨b, 8, none⟩ v8).setCell ⟨b, 9, none⟩ v9).setCell ⟨b, 10, none⟩ v10).setCell ⟨b, 11, none⟩ v11) := ((((((((((((h.setCell (p := ⟨b, 0, none⟩) hp v0).setCell (p := ⟨b, 1, none⟩) hp v1).setCell (p := ⟨b, 2, none⟩) hp v2).setCell (p := ⟨b, 3, none⟩) hp v3).setCell (p := ⟨b, 4, none⟩) hp v4).setCell (p := ⟨b, 5, none⟩) hp v5).setCell (p := ⟨b, 6, none⟩) hp v6).setCell (p := ⟨b, 7, none⟩) hp v7).setCell (p := ⟨b, 8, none⟩) hp v8).setCell (p := ⟨b, 9, none⟩) hp v9).setCell (p := ⟨b, 10, none⟩) hp v10).setCell (p := ⟨b, 11, none⟩) hp v11)
theorem Bx.oth12 {W : World} {b c : Nat} {T : TypeId} {vs : Array Value} (h : Bx W c vs T) (hne : c ≠ b) (v0 v1 v2 v3 v4 v5 v6 v7 v8 v9 v10 v11 : Value) : Bx ((((((((((((W.setCell ⟨b, 0, none⟩ v0).setCell ⟨b, 1, none⟩ v1).setCell ⟨b, 2, none⟩ v2).setCell ⟨b, 3, none⟩ v3).setCell ⟨b, 4, none⟩ v4).setCell ⟨b, 5, none⟩ v5).setCell ⟨b, 6, none⟩ v6).setCell ⟨b, 7, none⟩ v7).setCell ⟨b, 8, none⟩ v8).setCell ⟨b, 9, none⟩ v9).setCell ⟨b, 10, none⟩ v10).setCell ⟨b, 11, none⟩ v11) c vs T := ((((((((((((h.other (a := ⟨b, 0, none⟩) hne v0).other (a := ⟨b, 1, none⟩) hne v1).other (a := ⟨b, 2, none⟩) hne v2).other (a := ⟨b, 3, none⟩) hne v3).other (a := ⟨b, 4, none⟩) hne v4).other (a := ⟨b, 5, none⟩) hne v5).other (a := ⟨b, 6, none⟩) hne v6).other (a := ⟨b, 7, none⟩) hne v7).other (a := ⟨b, 8, none⟩) hne v8).other (a := ⟨b, 9, none⟩) hne v9).other (a := ⟨b, 10, none⟩) hne v10).other (a := ⟨b, 11, none⟩) hne v11)
theorem below_put2 {B : Nat} {w W : World} (h : Below B w W) {b : Nat} (hp : B ≤ b) (v0 v1 : Value) : Below B w ((W.setCell ⟨b, 0, none⟩ v0).setCell ⟨b, 1, none⟩ v1) := ((h.setCell (p := ⟨b, 0, none⟩) hp v0).setCell (p := ⟨b, 1, none⟩) hp v1)
theorem Bx.oth2 {W : World} {b c : Nat} {T : TypeId} {vs : Array Value} (h : Bx W c vs T) (hne : c ≠ b) (v0 v1 : Value) : Bx ((W.setCell ⟨b, 0, none⟩ v0).setCell ⟨b, 1, none⟩ v1) c vs T := ((h.other (a := ⟨b, 0, none⟩) hne v0).other (a := ⟨b, 1, none⟩) hne v1)
theorem Bx.put5_0 {W : World} {b : Nat} {T : TypeId} {a0 a1 a2 a3 a4 : Value} (h : Bx W b #[a0, a1, a2, a3, a4] T) (v : Value) : Bx (W.setCell ⟨b, 0, none⟩ v) b #[v, a1, a2, a3, a4] T := by
  simpa using h.set 0 v
theorem Bx.put5_1 {W : World} {b : Nat} {T : TypeId} {a0 a1 a2 a3 a4 : Value} (h : Bx W b #[a0, a1, a2, a3, a4] T) (v : Value) : Bx (W.setCell ⟨b, 1, none⟩ v) b #[a0, v, a2, a3, a4] T := by
  simpa using h.set 1 v
theorem Bx.put5_2 {W : World} {b : Nat} {T : TypeId} {a0 a1 a2 a3 a4 : Value} (h : Bx W b #[a0, a1, a2, a3, a4] T) (v : Value) : Bx (W.setCell ⟨b, 2, none⟩ v) b #[a0, a1, v, a3, a4] T := by
  simpa using h.set 2 v
theorem Bx.put5_3 {W : World} {b : Nat} {T : TypeId} {a0 a1 a2 a3 a4 : Value} (h : Bx W b #[a0, a1, a2, a3, a4] T) (v : Value) : Bx (W.setCell ⟨b, 3, none⟩ v) b #[a0, a1, a2, v, a4] T := by
  simpa using h.set 3 v
theorem Bx.put5_4 {W : World} {b : Nat} {T : TypeId} {a0 a1 a2 a3 a4 : Value} (h : Bx W b #[a0, a1, a2, a3, a4] T) (v : Value) : Bx (W.setCell ⟨b, 4, none⟩ v) b #[a0, a1, a2, a3, v] T := by
  simpa using h.set 4 v

/-- The table of kinds. -/
def rulesA : Array Value := #[.nilFunc, .int .i64 0, .func (.func 74) #[] #[], .int .i64 0, .func (.func 75) #[] #[], .int .i64 1, .func (.func 76) #[] #[], .int .i64 2, .func (.func 77) #[] #[], .int .i64 2, .func (.func 78) #[] #[], .int .i64 2]
set_option maxRecDepth 100000 in
set_option maxHeartbeats 1000000 in
theorem rules_any (w : World) : Calls Try.prog 70 #[] w fun e w' => e = .returned (.agg rulesA) ∧ Below w.heap.size w w' := by
  obtain ⟨W, hW, hb, _, x0⟩ := boxes1 w #[.nilFunc, .int .i64 0, .nilFunc, .int .i64 0, .nilFunc, .int .i64 0, .nilFunc, .int .i64 0, .nilFunc, .int .i64 0, .nilFunc, .int .i64 0] 89
  have c0 := x0.cell 0 rfl; have c1 := x0.cell 1 rfl; have c2 := x0.cell 2 rfl; have c3 := x0.cell 3 rfl; have c4 := x0.cell 4 rfl; have c5 := x0.cell 5 rfl; have c6 := x0.cell 6 rfl; have c7 := x0.cell 7 rfl; have c8 := x0.cell 8 rfl; have c9 := x0.cell 9 rfl; have c10 := x0.cell 10 rfl; have c11 := x0.cell 11 rfl
  have f0 := x0.free 0; have f1 := x0.free 1; have f2 := x0.free 2; have f3 := x0.free 3; have f4 := x0.free 4; have f5 := x0.free 5; have f6 := x0.free 6; have f7 := x0.free 7; have f8 := x0.free 8; have f9 := x0.free 9; have f10 := x0.free 10; have f11 := x0.free 11
  have xg := x0.set12 .nilFunc (.int .i64 0) (.func (.func 74) #[] #[]) (.int .i64 0) (.func (.func 75) #[] #[]) (.int .i64 1) (.func (.func 76) #[] #[]) (.int .i64 2) (.func (.func 77) #[] #[]) (.int .i64 2) (.func (.func 78) #[] #[]) (.int .i64 2)
  have hb2 := below_put12 hb (b := w.heap.size) (Nat.le_refl _) .nilFunc (.int .i64 0) (.func (.func 74) #[] #[]) (.int .i64 0) (.func (.func 75) #[] #[]) (.int .i64 1) (.func (.func 76) #[] #[]) (.int .i64 2) (.func (.func 77) #[] #[]) (.int .i64 2) (.func (.func 78) #[] #[]) (.int .i64 2)
  have HX := hid (And.intro xg hb2)
  clear xg hb2 x0 hb
  go_enter Try.func70, Try.ntmps70
  go_wp2_with fail
  obtain ⟨xg, hb⟩ := HX.out
  clear HX hW c0 c1 c2 c3 c4 c5 c6 c7 c8 c9 c10 c11 f0 f1 f2 f3 f4 f5 f6 f7 f8 f9 f10 f11
  generalize World.setCell _ _ _ = V at *
  have e0 := xg.cell 0 rfl; have e1 := xg.cell 1 rfl; have e2 := xg.cell 2 rfl; have e3 := xg.cell 3 rfl; have e4 := xg.cell 4 rfl; have e5 := xg.cell 5 rfl; have e6 := xg.cell 6 rfl; have e7 := xg.cell 7 rfl; have e8 := xg.cell 8 rfl; have e9 := xg.cell 9 rfl; have e10 := xg.cell 10 rfl; have e11 := xg.cell 11 rfl
  refine bodyPost_ret (v := .agg rulesA) ?_ rfl ⟨rfl, hb⟩
  simp [results, Try.results70, go_sem, e0, e1, e2, e3, e4, e5, e6, e7, e8, e9, e10, e11, rulesA]
theorem under89 : Try.prog.underlying 89 = some (.array 6 88) := by kernel_rfl
theorem under88 : (Try.prog.underlying 88).map (fun d => match d with | .struct fs => (fs[0]?.map (fun f => (f.type, f.offset)), fs[1]?.map (fun f => (f.type, f.offset))) | _ => (none, none)) = some (some (86, 0), some (75, 1)) := by kernel_rfl
theorem info88 : (Try.prog.info? 88).map (fun i => (i.size)) = some 2 := by kernel_rfl

theorem rules_at1 (W : World) : (Instr.index 89 (.agg #[.nilFunc, .int .i64 0, .func (.func 74) #[] #[], .int .i64 0, .func (.func 75) #[] #[], .int .i64 1, .func (.func 76) #[] #[], .int .i64 2, .func (.func 77) #[] #[], .int .i64 2, .func (.func 78) #[] #[], .int .i64 2]) (.int .i64 1)).run Try.prog W = .ok (.agg #[.func (.func 74) #[] #[], .int .i64 0]) W := by
  rcases hi : Try.prog.info? 88 with _ | i
  · have h := info88; rw [hi] at h; cases h
  have hs : i.size = 2 := by have h := info88; rw [hi] at h; simpa using h
  simp [Instr.index, asIntOf, run_underlying under89, go_sem, sizeOf, typeInfo, hi, hs, part]

theorem rules_at2 (W : World) : (Instr.index 89 (.agg #[.nilFunc, .int .i64 0, .func (.func 74) #[] #[], .int .i64 0, .func (.func 75) #[] #[], .int .i64 1, .func (.func 76) #[] #[], .int .i64 2, .func (.func 77) #[] #[], .int .i64 2, .func (.func 78) #[] #[], .int .i64 2]) (.int .i64 2)).run Try.prog W = .ok (.agg #[.func (.func 75) #[] #[], .int .i64 1]) W := by
  rcases hi : Try.prog.info? 88 with _ | i
  · have h := info88; rw [hi] at h; cases h
  have hs : i.size = 2 := by have h := info88; rw [hi] at h; simpa using h
  simp [Instr.index, asIntOf, run_underlying under89, go_sem, sizeOf, typeInfo, hi, hs, part]

theorem rules_at3 (W : World) : (Instr.index 89 (.agg #[.nilFunc, .int .i64 0, .func (.func 74) #[] #[], .int .i64 0, .func (.func 75) #[] #[], .int .i64 1, .func (.func 76) #[] #[], .int .i64 2, .func (.func 77) #[] #[], .int .i64 2, .func (.func 78) #[] #[], .int .i64 2]) (.int .i64 3)).run Try.prog W = .ok (.agg #[.func (.func 76) #[] #[], .int .i64 2]) W := by
  rcases hi : Try.prog.info? 88 with _ | i
  · have h := info88; rw [hi] at h; cases h
  have hs : i.size = 2 := by have h := info88; rw [hi] at h; simpa using h
  simp [Instr.index, asIntOf, run_underlying under89, go_sem, sizeOf, typeInfo, hi, hs, part]

theorem rules_at4 (W : World) : (Instr.index 89 (.agg #[.nilFunc, .int .i64 0, .func (.func 74) #[] #[], .int .i64 0, .func (.func 75) #[] #[], .int .i64 1, .func (.func 76) #[] #[], .int .i64 2, .func (.func 77) #[] #[], .int .i64 2, .func (.func 78) #[] #[], .int .i64 2]) (.int .i64 4)).run Try.prog W = .ok (.agg #[.func (.func 77) #[] #[], .int .i64 2]) W := by
  rcases hi : Try.prog.info? 88 with _ | i
  · have h := info88; rw [hi] at h; cases h
  have hs : i.size = 2 := by have h := info88; rw [hi] at h; simpa using h
  simp [Instr.index, asIntOf, run_underlying under89, go_sem, sizeOf, typeInfo, hi, hs, part]

theorem rules_at5 (W : World) : (Instr.index 89 (.agg #[.nilFunc, .int .i64 0, .func (.func 74) #[] #[], .int .i64 0, .func (.func 75) #[] #[], .int .i64 1, .func (.func 76) #[] #[], .int .i64 2, .func (.func 77) #[] #[], .int .i64 2, .func (.func 78) #[] #[], .int .i64 2]) (.int .i64 5)).run Try.prog W = .ok (.agg #[.func (.func 78) #[] #[], .int .i64 2]) W := by
  rcases hi : Try.prog.info? 88 with _ | i
  · have h := info88; rw [hi] at h; cases h
  have hs : i.size = 2 := by have h := info88; rw [hi] at h; simpa using h
  simp [Instr.index, asIntOf, run_underlying under89, go_sem, sizeOf, typeInfo, hi, hs, part]

theorem rule_f (n : Nat) (b : Int) (W : World) : (Instr.field 88 (.agg #[.func (.func n) #[] #[], .int .i64 b]) 0).run Try.prog W = .ok (.func (.func n) #[] #[]) W ∧ (Instr.field 88 (.agg #[.func (.func n) #[] #[], .int .i64 b]) 1).run Try.prog W = .ok (.int .i64 b) W := by
  have h := under88
  rcases hu : Try.prog.underlying 88 with _ | d
  · rw [hu] at h; cases h
  rw [hu] at h
  cases d with
  | struct fs =>
    simp only [Option.map_some, Option.some.injEq, Prod.mk.injEq] at h
    obtain ⟨h0, h1⟩ := h
    rcases g0 : fs[0]? with _ | f0
    · rw [g0] at h0; cases h0
    rcases g1 : fs[1]? with _ | f1
    · rw [g1] at h1; cases h1
    rw [g0] at h0; rw [g1] at h1
    simp only [Option.map_some, Option.some.injEq, Prod.mk.injEq] at h0 h1
    constructor
    · unfold Instr.field
      simp [go_sem, run_underlying hu, g0, h0.1, h0.2, asAgg, part]
    · unfold Instr.field
      simp [go_sem, run_underlying hu, g1, h1.1, h1.2, asAgg, part]
  | _ => simp at h
end Go.Proofs.Ythgjjlkdekfdbaa
