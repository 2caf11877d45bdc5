import Derived.Test.YtmkmnedojgigoaaC1
import Derived.Maps.OwnSet
import Derived.DeepKeys4
namespace Go.Proofs.Ytmkmnedojgigoaa
open Go.RowKit

theorem laidOut : laidOutB Try.prog = true := by kernel_rfl
theorem law121 : Go.Maps.Keyed Try.prog 121 :=
  Go.Maps.Keyed.of_law (deep_law_laid laidOut (m := 4) (by omega) (of_decide_eq_true (by kernel_rfl)) (by kernel_rfl) (by kernel_rfl))
theorem zero3 (w : World) : (zeroValue 3).run Try.prog w = .ok (.int .i64 0) w := by kernel_rfl
theorem cells121 : Try.prog.cellsOf 121 = 6 := by kernel_rfl
theorem cells92 : Try.prog.cellsOf 92 = 4 := by kernel_rfl
theorem cells26 : Try.prog.cellsOf 26 = 2 := by kernel_rfl
theorem cells3 : Try.prog.cellsOf 3 = 1 := by kernel_rfl
theorem kt121 : Try.prog.keyType 121 = true := by kernel_rfl
theorem tsize : Try.prog.types.size = 177 := by kernel_rfl

theorem wf64 {x : Int} (h : -9223372036854775808 ≤ x ∧ x ≤ 9223372036854775807) : (Lit.int .i64 x).wf = true := WalkArith.wf_i64 (by omega)

theorem key121 (x0 x1 x2 x3 x4 x5 : Nat) (h0 : x0 ≤ 1000000) (h1 : x1 ≤ 1000000) (h2 : x2 ≤ 1000000) (h3 : x3 ≤ 1000000) (h4 : x4 ≤ 1000000) (h5 : x5 ≤ 1000000) :
    ∃ l, keyOf Try.prog 121 (.agg #[.int .i64 x0, .int .i64 x1, .int .i64 x2, .int .i64 x3, .int .i64 x4, .int .i64 x5]) = some l := by
  have w0 := wf64 (x := (x0 : Int)) (by omega)
  have w1 := wf64 (x := (x1 : Int)) (by omega)
  have w2 := wf64 (x := (x2 : Int)) (by omega)
  have w3 := wf64 (x := (x3 : Int)) (by omega)
  have w4 := wf64 (x := (x4 : Int)) (by omega)
  have w5 := wf64 (x := (x5 : Int)) (by omega)
  have k92 : ∀ n : Nat, Try.prog.keyLits (n + 2) 92 [.int .i64 x0, .int .i64 x1, .int .i64 x2, .int .i64 x3] = some [.int .i64 x0, .int .i64 x1, .int .i64 x2, .int .i64 x3] := by
    intro n
    simp [Program.keyLits, Try.underlying92, Try.underlying3, cells92, cells3, List.range_succ, w0, w1, w2, w3]
  have k26 : ∀ n : Nat, Try.prog.keyLits (n + 2) 26 [.int .i64 x4, .int .i64 x5] = some [.int .i64 x4, .int .i64 x5] := by
    intro n
    simp [Program.keyLits, Try.underlying26, Try.underlying3, cells26, cells3, w4, w5]
  unfold keyOf
  simp only [Try.underlying121, kt121, tsize]
  refine ⟨.string (keyBytes [.int .i64 x0, .int .i64 x1, .int .i64 x2, .int .i64 x3, .int .i64 x4, .int .i64 x5]), ?_⟩
  rw [if_pos (by simp [Value.formed, Try.underlying121, cells121])]
  have e : Try.prog.keyLits (177 + 1) 121 (Value.agg #[.int .i64 x0, .int .i64 x1, .int .i64 x2, .int .i64 x3, .int .i64 x4, .int .i64 x5]).cells.toList = some [.int .i64 x0, .int .i64 x1, .int .i64 x2, .int .i64 x3, .int .i64 x4, .int .i64 x5] := by
    unfold Program.keyLits
    simp [Try.underlying121, cells121, cells92, cells26, Value.cells, k92, k26]
  rw [e]
  rfl

end Go.Proofs.Ytmkmnedojgigoaa
