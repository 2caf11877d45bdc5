import Derived.Test.YthgjjlkdekfdbaaT20
/-! A clause that gives nothing: mathematics. -/
namespace Go.Proofs.Ythgjjlkdekfdbaa
set_option linter.unusedSimpArgs false
set_option linter.unusedVariables false
open Go.RowKit

theorem step_zero (w : Wk) (x : Cl) (h : givesW w x = 0) : stepW w x = w := by
  unfold stepW
  rw [h]
  obtain ⟨a, b, c, d, e⟩ := w
  unfold payW
  split
  · simp [payOp]
  split
  · simp [payLe]
  · simp [payOw]
/-- A clause that gives nothing can be left out. -/
theorem nothing {cs : List Cl} {L t : Int} {j : Nat} (hj : j < cs.length) (h : givesC L cs t j = 0) : settledW L (lessC cs j) t = settledW L cs t := by
  have hx : cs[j]? = some cs[j] := List.getElem?_eq_getElem hj
  have e : cs = cs.take j ++ cs[j] :: cs.drop (j + 1) := by
    rw [List.getElem_cons_drop hj, List.take_append_drop]
  unfold givesC at h
  rw [List.getD_eq_getElem?_getD, hx] at h
  unfold settledW
  rw [lessC_eq]
  conv => rhs; rw [e]
  rw [behind_app, behind_app]
  show endW (behindW (behindW (beginW L t) (cs.take j)) (cs.drop (j + 1))) = endW (behindW (stepW (behindW (beginW L t) (cs.take j)) cs[j]) (cs.drop (j + 1)))
  have h' : givesW (behindW (beginW L t) (cs.take j)) cs[j] = 0 := h
  rw [step_zero _ _ h']
theorem nothing_parts {cs : List Cl} {L t : Int} {j : Nat} {u v : Wk} (hu : u = settledW L cs t) (hv : v = settledW L (lessC cs j) t) (hj : j < cs.length) (h : givesC L cs t j = 0) : v = u := by
  rw [hu, hv, nothing hj h]
end Go.Proofs.Ythgjjlkdekfdbaa
