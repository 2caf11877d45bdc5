import Derived.Test.YtipdohpbilabiaaM4
/-! The greatest of the least earnings: what it is at most. -/
namespace Go.Proofs.Ytipdohpbilabiaa
set_option linter.unusedSimpArgs false
set_option linter.unusedVariables false
open Go.RowKit

theorem fold_min_le : ∀ (l : List Int) (a : Int), l.foldl min a ≤ a ∧ ∀ x ∈ l, l.foldl min a ≤ x
  | [], a => ⟨Int.le_refl _, fun x hx => (nomatch hx)⟩
  | y :: l, a => by
    obtain ⟨h1, h2⟩ := fold_min_le l (min a y)
    refine ⟨by simp only [List.foldl_cons]; omega, fun x hx => ?_⟩
    simp only [List.foldl_cons]
    rcases List.mem_cons.1 hx with rfl | hx
    · omega
    · exact h2 x hx
theorem fold_min_mem : ∀ (l : List Int) (a : Int), l.foldl min a = a ∨ l.foldl min a ∈ l
  | [], a => .inl rfl
  | y :: l, a => by
    simp only [List.foldl_cons]
    rcases fold_min_mem l (min a y) with h | h
    · rcases Int.le_total a y with h' | h'
      · left; rw [h]; omega
      · right; rw [h, show min a y = y by omega]; exact List.mem_cons_self
    · right; exact List.mem_cons_of_mem _ h
theorem minL_le {l : List Int} : ∀ x ∈ l, minL l ≤ x := fun x hx => (fold_min_le l (l.getD 0 0)).2 x hx
theorem minL_mem {l : List Int} (h : 1 ≤ l.length) : minL l ∈ l := by
  rcases fold_min_mem l (l.getD 0 0) with h' | h'
  · unfold minL; rw [h']; exact getD_mem' l 0 (by omega)
  · exact h'
theorem sum_ge (m : Int) : ∀ (l : List Int) (a : Int), (∀ x ∈ l, m ≤ x) → a + m * (l.length : Int) ≤ l.foldl (· + ·) a
  | [], a, _ => by simp
  | y :: l, a, h => by
    have h1 := sum_ge m l (a + y) (fun x hx => h x (List.mem_cons_of_mem _ hx))
    have h2 := h y (List.mem_cons_self)
    simp only [List.foldl_cons, List.length_cons]
    have e : m * ((l.length + 1 : Nat) : Int) = m * (l.length : Int) + m := by
      rw [Int.natCast_add, Int.mul_add]; simp
    rw [e]
    omega
theorem earn_bestP {X : Sw} {p : Pl} (hp : p ∈ plansV X.vz) : earn X.vz p ≤ earn X.vz (bestP X.vz) := (best_max X.vz (plansV X.vz)).2.2 p hp

theorem fair_law {X : Sw} (hok : XOk X) : 0 ≤ fairV X.vz ∧ fairV X.vz * (X.bs.length : Int) ≤ earn X.vz (bestP X.vz) := by
  obtain ⟨h0, h1, h2⟩ := fair_max X.vz (plansV X.vz)
  refine ⟨h0, ?_⟩
  have hbe := (earn_le (vz_ok hok) (bestP X.vz)).1
  rcases h2 with h2 | ⟨p, hp, e⟩
  · show fairF X.vz (plansV X.vz) * (X.bs.length : Int) ≤ _
    rw [h2, Int.zero_mul]; exact hbe
  · have hb := earn_bestP hp
    have hs := sum_ge (minL (earL X.vz p X.vz.nb)) (earL X.vz p X.vz.nb) 0 (fun x hx => minL_le x hx)
    rw [earL_len, ← e] at hs
    have e2 : earn X.vz p = (earL X.vz p X.vz.nb).foldl (· + ·) 0 := rfl
    rw [← e2] at hs
    have e3 : fairV X.vz = fairF X.vz (plansV X.vz) := rfl
    have e4 : X.vz.nb = X.bs.length := rfl
    rw [e4] at hs
    rw [e3]
    omega
/-- A plan that fits earns in some box at most Fair. -/
theorem fair_box {X : Sw} (hok : XOk X) {P : List (List Int)} (hpl : plB X P = true) (hf : fitA X.vz (planM P) = true) (h1 : 1 ≤ X.bs.length) : ∃ j, j < X.bs.length ∧ (earL X.vz (planM P) X.bs.length).getD j 0 ≤ fairV X.vz := by
  have h := (fair_max X.vz (plansV X.vz)).2.1 (planM P) (fit_in hok hpl hf)
  have hm := minL_mem (l := earL X.vz (planM P) X.vz.nb) (by rw [earL_len]; exact h1)
  obtain ⟨j, hj, e⟩ := mem_getD 0 hm
  rw [earL_len] at hj
  exact ⟨j, hj, by show (earL X.vz (planM P) X.vz.nb).getD j 0 ≤ _; rw [e]; exact h⟩
end Go.Proofs.Ytipdohpbilabiaa
