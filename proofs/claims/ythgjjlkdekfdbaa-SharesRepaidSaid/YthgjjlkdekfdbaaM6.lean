import Derived.Test.YthgjjlkdekfdbaaT10
/-! Enough: mathematics. -/
namespace Go.Proofs.Ythgjjlkdekfdbaa
set_option linter.unusedSimpArgs false
set_option linter.unusedVariables false
open Go.RowKit

theorem first_cases (p : Nat → Bool) (n : Nat) : (∃ k, k < n ∧ firstR (firstA p n) = ((k : Int), 0) ∧ p k = true ∧ ∀ j, j < k → p j = false) ∨ (firstR (firstA p n) = (0, 3) ∧ ∀ j, j < n → p j = false) := by
  rcases h : firstA p n with _ | k
  · refine .inr ⟨rfl, fun j hj => ?_⟩
    unfold firstA at h
    rw [List.find?_range_eq_none] at h
    simpa using h j hj
  · unfold firstA at h
    rw [List.find?_range_eq_some] at h
    refine .inl ⟨k, by simpa using h.2.1, rfl, h.1, fun j hj => by simpa using h.2.2 j hj⟩
/-- What Enough says. -/
theorem en_cases (L : Int) (cs : List Cl) (g : Int) : (∃ k : Nat, k < 10000 ∧ enR L cs g = ((k : Int), 0) ∧ g ≤ (settledW L cs k).ow ∧ ∀ j : Nat, j < k → (settledW L cs j).ow < g) ∨ (enR L cs g = (0, 3) ∧ ∀ j : Nat, j < 10000 → (settledW L cs j).ow < g) := by
  rcases first_cases (enP L cs g) 10000 with ⟨k, h1, h2, h3, h4⟩ | ⟨h1, h2⟩
  · refine .inl ⟨k, h1, h2, by unfold enP at h3; simpa using h3, fun j hj => ?_⟩
    have := h4 j hj
    unfold enP at this
    simpa using this
  · refine .inr ⟨h1, fun j hj => ?_⟩
    have := h2 j hj
    unfold enP at this
    simpa using this
end Go.Proofs.Ythgjjlkdekfdbaa
