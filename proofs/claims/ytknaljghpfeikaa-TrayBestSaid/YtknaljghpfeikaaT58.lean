import Derived.Test.YtknaljghpfeikaaT39
namespace Go.Proofs.Ytknaljghpfeikaa
open Go.ChangeShapes Go.WideShapes Go.ChangeAt Go.RowKit Go.Joins

set_option maxRecDepth 100000 in
/-- A slice of ints that came in. -/
theorem ints_open0 {H : Type} {enc : TypeId × Value → H} {W : World} {n : Nat} {v : Value} {y : DataW H × List MemPlace} (h : DataW.trod enc Try.prog W 0 (fun _ => true) true n 35 [v] = some y) : ∃ a c xs, v = .slice a xs.length c ∧ Ints W a xs := by
  rcases open_ints Try.underlying35 Try.underlying3 jcells3 h with ⟨hcs, _⟩ | ⟨a, len, cap, zs, hcs, _, hl, hm, hz, _, hcell, hw⟩
  · simp at hcs
    exact ⟨none, 0, [], by rw [hcs]; rfl, by simp, by simp, fun i hi => by simp at hi⟩
  · simp at hcs
    simp only [if_true] at hz
    have hlen : (zs.take len).length = len := by simp; omega
    unfold maxLen at hm
    refine ⟨some a, cap, zs.take len, by rw [hlen, hcs], by omega, fun x hx => ?_, fun i hi => ?_⟩
    · have := hw x (List.mem_of_mem_take hx)
      have h1 : IntKind.i64.min = -9223372036854775808 := rfl
      have h2 : IntKind.i64.max = 9223372036854775807 := rfl
      simp only [Lit.wf, Bool.and_eq_true, decide_eq_true_eq, h1, h2] at this
      omega
    · obtain ⟨b, off, spot⟩ := a
      have hi' : i < zs.length := by simp at hi; omega
      have hspot : spot = none := by simpa [Addr.add] using World.cell?_spot (hcell 0 (by omega))
      subst hspot
      have hc := hcell i hi'
      rw [add_plain] at hc
      have hlt := cell_lt hc
      refine ⟨b, off, rfl, hlt, ?_⟩
      rw [hc]
      simp [List.getD, show i < len by simp at hi; omega]
set_option maxRecDepth 100000 in
/-- A slice of ints that came in, as an argument. -/
theorem ints_open35 {H : Type} {enc : TypeId × Value → H} {W : World} {b0 : Nat} {v : Value} {d : DataW H} {p : List MemPlace} (hv : Value.okWide Try.prog W .any b0 35 v)
    (h : DataW.Trod enc Try.prog W 0 (fun _ => true) true 35 v d p) : ∃ a c xs, v = .slice a xs.length c ∧ Ints W a xs := by
  obtain ⟨a, n, c, rfl⟩ := okWide_slice Try.underlying35 hv
  obtain ⟨_, h⟩ := h
  exact ints_open0 (v := .slice a n c) (y := (d, p)) h
end Go.Proofs.Ytknaljghpfeikaa
