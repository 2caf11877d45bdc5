import Derived.Test.YtknaljghpfeikaaT35
namespace Go.Proofs.Ytknaljghpfeikaa
open Go.RowKit

/-- The two trays of the examples. -/
def exT : Tr := ⟨[(100, 90), (120, 80), (60, 70)], 0, true, 5, [(3, 0), (4, 10), (0, 12), (3, 50), (0, 300)]⟩
def exU : Tr := ⟨[(10, 20), (30, 40)], 0, false, 60, [(3, 0)]⟩
theorem exT_plays : (runM exT maxI).plays = [(4, 10), (3, 75), (0, 160), (0, 315)] := by decide +kernel
theorem exT_stand : (runM exT 101).pos = 1 ∧ (runM exT 101).up = false ∧ (runM exT 101).side = 3 := by decide +kernel
theorem exT_wait : servF 0 12 (runM exT maxI).plays 0 = 2 ∧ ((runM exT maxI).plays.getD 2 (0, 0)).2 - 12 = 148 := by decide +kernel
theorem exU_best : (bestM exU maxI).2 = 40 := by decide +kernel
theorem exT_late : ∀ i : Nat, i < 21 → lateP exT 2 20 i = decide (6 ≤ i) := by decide +kernel
theorem exT_valid : trB exT.rcs exT.prs 0 1 5 = true := by decide +kernel
theorem exU_valid : trB exU.rcs exU.prs 0 (-1) 60 = true := by decide +kernel
theorem exT_is : IsTr exT exT.rcs exT.prs 0 1 5 := by
  obtain ⟨T, h1, _⟩ := tr_of exT_valid
  exact ⟨rfl, rfl, rfl, rfl, rfl, by
    have hv := h1.hv
    refine ⟨by decide, by decide, ?_, by decide, by decide, by decide, ?_⟩ <;> decide⟩
theorem exU_is : IsTr exU exU.rcs exU.prs 0 (-1) 60 :=
  ⟨rfl, rfl, rfl, rfl, rfl, ⟨by decide, by decide, by decide, by decide, by decide, by decide, by decide⟩⟩
end Go.Proofs.Ytknaljghpfeikaa
