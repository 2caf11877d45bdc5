import Derived.Test.YtipdohpbilabiaaM7
/-! What the statement of more makes of a visit. -/
namespace Go.Proofs.Ytipdohpbilabiaa
set_option linter.unusedSimpArgs false
set_option linter.unusedVariables false
open Go.RowKit

/-- What the statement made of the copy. -/
structure MoreY (X Y : Sw) : Prop where
  m : MoreP X Y
  s : Y.st.length ≤ 1000
  e : Y.er.length ≤ 1000
  k : Y.ks.length ≤ 1000
  r1 : ∀ x ∈ Y.st, -9223372036854775808 ≤ x ∧ x ≤ 9223372036854775807
  r2 : ∀ x ∈ Y.ks, -9223372036854775808 ≤ x.1 ∧ x.1 ≤ 9223372036854775807 ∧ -9223372036854775808 ≤ x.2 ∧ x.2 ≤ 9223372036854775807
theorem moreA {X : Sw} (hok : XOk X) (km : Nat) (yh : Int) (h : 0 ≤ yh) : MoreY X { X with ks := X.ks.take km, ch := X.ch + yh } := by
  refine ⟨⟨rfl, rfl, fun i => Int.le_refl _, fun k i => Int.le_refl _, ⟨km, rfl⟩, by show X.ch ≤ X.ch + yh; omega⟩, by have := hok.t6; show X.st.length ≤ 1000; omega, by have := hok.er1; have := hok.t6; show X.er.length ≤ 1000; omega, by have := hok.k4; show (X.ks.take km).length ≤ 1000; rw [List.length_take]; omega, fun x hx => by have := hok.st9 x hx; omega, fun x hx => ?_⟩
  have := hok.keep x (List.mem_of_mem_take hx)
  have := hok.nb3; have := hok.t6
  omega
theorem moreB {X Y : Sw} (h : MoreY X Y) (t : Nat) (x : Int) (h1 : Y.st.getD t 0 ≤ x) (h2 : -9223372036854775808 ≤ x ∧ x ≤ 9223372036854775807) : MoreY X { Y with st := Y.st.set t x } := by
  refine ⟨⟨h.m.bs, by show (Y.st.set t x).length = _; rw [List.length_set]; exact h.m.stl, fun i => ?_, h.m.er, h.m.ks, h.m.ch⟩, by show (Y.st.set t x).length ≤ 1000; rw [List.length_set]; exact h.s, h.e, h.k, fun y hy => ?_, h.r2⟩
  · have h3 := h.m.st i
    show _ ≤ (Y.st.set t x).getD i 0
    rw [List.getD_eq_getElem?_getD (l := Y.st.set t x), List.getElem?_set]
    split
    · rename_i e
      subst e
      split
      · show X.st.getD t 0 ≤ x; omega
      · rename_i hlt
        rw [List.getD_eq_getElem?_getD (l := Y.st), List.getElem?_eq_none (by omega)] at h3
        exact h3
    · rw [List.getD_eq_getElem?_getD (l := Y.st)] at h3; exact h3
  · rcases List.mem_or_eq_of_mem_set hy with h3 | h3
    · exact h.r1 y h3
    · rw [h3]; exact h2
theorem moreC {X Y : Sw} (h : MoreY X Y) (t j : Nat) (ks : List Int) (x : Int) (ht : Y.er[t]? = some ks) (hj : j < ks.length) (h1 : ks.getD j 0 ≤ x) : MoreY X { Y with er := Y.er.set t (ks.set j x) } := by
  refine ⟨⟨h.m.bs, h.m.stl, h.m.st, fun k i => ?_, h.m.ks, h.m.ch⟩, h.s, by show (Y.er.set t (ks.set j x)).length ≤ 1000; rw [List.length_set]; exact h.e, h.k, h.r1, h.r2⟩
  have h3 := h.m.er k i
  refine Int.le_trans h3 ?_
  show (Y.er.getD i []).getD k 0 ≤ ((Y.er.set t (ks.set j x)).getD i []).getD k 0
  rw [List.getD_eq_getElem?_getD (l := Y.er.set t (ks.set j x)), List.getElem?_set]
  split
  · rename_i e
    subst e
    have htl : t < Y.er.length := (List.getElem?_eq_some_iff.1 ht).1
    rw [if_pos htl, List.getD_eq_getElem?_getD (l := Y.er), ht]
    show ks.getD k 0 ≤ (ks.set j x).getD k 0
    rw [List.getD_eq_getElem?_getD (l := ks.set j x), List.getElem?_set]
    split
    · rename_i e
      subst e
      exact h1
    · rw [List.getD_eq_getElem?_getD]; exact Int.le_refl _
  · rw [List.getD_eq_getElem?_getD (l := Y.er)]
    exact Int.le_refl _
end Go.Proofs.Ytipdohpbilabiaa
