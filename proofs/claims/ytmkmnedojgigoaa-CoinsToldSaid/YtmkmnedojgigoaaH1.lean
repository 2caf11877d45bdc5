import Derived.Test.YtmkmnedojgigoaaG3
import Derived.Test.YtmkmnedojgigoaaE1
import Derived.Test.YtmkmnedojgigoaaD4
namespace Go.Proofs.Ytmkmnedojgigoaa
open Go.RowKit

theorem Ints.of_three {w : World} {b : Nat} {x y z : Int} (h : Bx w b #[.int .i64 x, .int .i64 y, .int .i64 z] 3) (hx : -9223372036854775808 ≤ x ∧ x ≤ 9223372036854775807 ∧ -9223372036854775808 ≤ y ∧ y ≤ 9223372036854775807 ∧ -9223372036854775808 ≤ z ∧ z ≤ 9223372036854775807) : Ints w (some ⟨b, 0, none⟩) [x, y, z] :=
  Ints.of_bx (xs := [x, y, z]) h (by simp) (fun u hu => by simp at hu; omega)

def ExPost (w : World) (e : Ending) (w' : World) : Prop :=
  Below w.heap.size w w' ∧ ∃ (b : Nat), e = .returned (.agg #[.int .i64 50, .slice (some ⟨b, 0, none⟩) 3 3, .slice (some ⟨b + 1, 0, none⟩) 3 3]) ∧ Ints w' (some ⟨b, 0, none⟩) [10, 20, 25] ∧ Ints w' (some ⟨b + 1, 0, none⟩) [5, 10, 25]

set_option maxRecDepth 100000 in
set_option maxHeartbeats 1000000 in
theorem example_any (w : World) : Calls Try.prog 56 #[] w (ExPost w) := by
  go_enter Try.func56, Try.ntmps56
  go_wp2
  obtain ⟨W, hW, hb, hs, x0, x1, x2⟩ := boxes3 w #[.int .i64 50, .slice (some ⟨w.heap.size + 1, 0, none⟩) 3 3, .slice (some ⟨w.heap.size + 1 + 1, 0, none⟩) 3 3] 24 #[.int .i64 10, .int .i64 20, .int .i64 25] 3 #[.int .i64 5, .int .i64 10, .int .i64 25] 3
  rw [hW]
  have c0 := x0.cell 0 rfl; have c1 := x0.cell 1 rfl; have c2 := x0.cell 2 rfl
  refine bodyPost_ret (v := .agg #[.int .i64 50, .slice (some ⟨w.heap.size + 1, 0, none⟩) 3 3, .slice (some ⟨w.heap.size + 1 + 1, 0, none⟩) 3 3]) ?_ rfl ⟨hb, w.heap.size + 1, rfl, Ints.of_three x1 (by omega), Ints.of_three x2 (by omega)⟩
  simp [results, Try.results56, go_sem, c0, c1, c2]

theorem vwE : Vw 50 [10, 20, 25] [5, 10, 25] := ⟨by decide, by decide, by decide, by decide, by decide, by decide⟩
theorem most_E : bst btm 50 [10, 20, 25] [5, 10, 25] ⟨0, 0, 2, 0, 0, 0⟩ = 6 := by kernel_rfl
theorem least_E : bst btf 50 [10, 20, 25] [5, 10, 25] ⟨0, 0, 2, 0, 0, 0⟩ = 3 := by kernel_rfl
theorem run_E : runL 50 [10, 20, 25] [5, 10, 25] ⟨0, 0⟩ 0 [0, -1, 1, -1, 1] = (⟨10, 1⟩, 1) := by kernel_rfl
theorem vwU : Vw 5 [2, 3] [1, 2] := ⟨by decide, by decide, by decide, by decide, by decide, by decide⟩
theorem now_E : srt (bhd 5 (totS [1, 2] [(0, 0), (0, 1)]) (bef 5 [2, 3] [1, 2] [(0, 0), (0, 1)] 5)) = [2] := by
  have : bhd 5 (totS [1, 2] [(0, 0), (0, 1)]) (bef 5 [2, 3] [1, 2] [(0, 0), (0, 1)] 5) = [2] := by kernel_rfl
  rw [this]; simp [srt]
theorem cheap_E : chp 50 [10, 20, 25] [5, 10, 25] 4 = 35 := by kernel_rfl
end Go.Proofs.Ytmkmnedojgigoaa
