import Derived.Test.YtipdohpbilabiaaW2
/-! Lists, and pairs of numbers, that came in. -/
namespace Go.Proofs.Ytipdohpbilabiaa
set_option linter.unusedSimpArgs false
set_option linter.unusedVariables false
open Go Go.RowKit Go.ChangeShapes Go.WideShapes Go.ChangeAt Go.Joins

set_option maxRecDepth 100000 in
theorem lists_open22 {H : Type} {enc : TypeId × Value → H} {W : World} {b0 : Nat} {v : Value} {d : DataW H} {p : List MemPlace} (hv : Value.okWide Try.prog W .any b0 22 v)
    (h : DataW.Trod enc Try.prog W 0 (fun _ => true) true 22 v d p) : ∃ a c LL, v = .slice a LL.length c ∧ Lss W a LL := by
  obtain ⟨a, n, c, rfl⟩ := okWide_slice Try.underlying22 hv
  obtain ⟨_, h⟩ := h
  exact lss_open22 (v := .slice a n c) (y := (d, p)) h
end Go.Proofs.Ytipdohpbilabiaa
