import Derived.Test.YtipdohpbilabiaaVD
/-! Plans: what is there now is one of them; the best earns most; the fewest changes for a goal. -/
namespace Go.Proofs.Ytipdohpbilabiaa
set_option linter.unusedSimpArgs false
set_option linter.unusedVariables false
open Go Go.RowKit

/-- What foldl keeps of the fewest changes. -/
def FewOk (V : Vz) (goal : Int) (l : List Pl) (s : Int × Bool) : Prop :=
  (s.2 = true ↔ ∃ p ∈ l, goal ≤ earn V p) ∧ (s.2 = true → (∃ p ∈ l, goal ≤ earn V p ∧ (chT V p : Int) = s.1) ∧ ∀ p ∈ l, goal ≤ earn V p → s.1 ≤ (chT V p : Int))
theorem few_ok (V : Vz) (goal : Int) (l : List Pl) : FewOk V goal l (fewF V goal l) := by
  suffices h : ∀ (n : Nat) (l : List Pl), l.length = n → FewOk V goal l (fewF V goal l) from h _ l rfl
  intro n
  induction n with
  | zero =>
    intro l hl
    have : l = [] := List.length_eq_zero_iff.1 hl
    subst this
    exact ⟨⟨fun h => (nomatch h), fun ⟨p, hp, _⟩ => (nomatch hp)⟩, fun h => (nomatch h)⟩
  | succ n ih =>
    intro l hl
    obtain ⟨l', p, rfl⟩ : ∃ l' p, l = l' ++ [p] := ⟨l.dropLast, l.getLast (by intro e; rw [e] at hl; cases hl), (List.dropLast_concat_getLast _).symm⟩
    have hl' : l'.length = n := by simpa using hl
    obtain ⟨h1, h2⟩ := ih l' hl'
    rw [fewF_snoc]
    generalize fewF V goal l' = s at *
    unfold fewS
    by_cases hp : earn V p < goal
    · rw [if_pos hp]
      refine ⟨h1.trans ⟨fun ⟨q, hq, hg⟩ => ⟨q, List.mem_append_left _ hq, hg⟩, fun ⟨q, hq, hg⟩ => ?_⟩, fun hs => ?_⟩
      · rcases List.mem_append.1 hq with hq | hq
        · exact ⟨q, hq, hg⟩
        · rw [List.mem_singleton.1 hq] at hg; omega
      · obtain ⟨⟨q, hq, hg, he⟩, ha⟩ := h2 hs
        refine ⟨⟨q, List.mem_append_left _ hq, hg, he⟩, fun r hr hgr => ?_⟩
        rcases List.mem_append.1 hr with hr | hr
        · exact ha r hr hgr
        · rw [List.mem_singleton.1 hr] at hgr; omega
    · rw [if_neg hp]
      have hpg : goal ≤ earn V p := by omega
      have hpm : p ∈ l' ++ [p] := by simp
      by_cases hc : s.2 = false ∨ (chT V p : Int) < s.1
      · rw [if_pos hc]
        refine ⟨⟨fun _ => ⟨p, hpm, hpg⟩, fun _ => rfl⟩, fun _ => ⟨⟨p, hpm, hpg, rfl⟩, fun r hr hgr => ?_⟩⟩
        rcases List.mem_append.1 hr with hr | hr
        · have hs : s.2 = true := h1.2 ⟨r, hr, hgr⟩
          rcases hc with hc | hc
          · rw [hs] at hc; cases hc
          · have := (h2 hs).2 r hr hgr
            show (chT V p : Int) ≤ _
            omega
        · rw [List.mem_singleton.1 hr]
          exact Int.le_refl _
      · rw [if_neg hc]
        have hs : s.2 = true := by
          cases h : s.2
          · exact absurd (Or.inl h) hc
          · rfl
        have hle : s.1 ≤ (chT V p : Int) := by
          have : ¬ (chT V p : Int) < s.1 := fun h => hc (.inr h)
          omega
        obtain ⟨⟨q, hq, hg, he⟩, ha⟩ := h2 hs
        refine ⟨⟨fun _ => ⟨p, hpm, hpg⟩, fun _ => hs⟩, fun _ => ⟨⟨q, List.mem_append_left _ hq, hg, he⟩, fun r hr hgr => ?_⟩⟩
        rcases List.mem_append.1 hr with hr | hr
        · exact ha r hr hgr
        · rw [List.mem_singleton.1 hr]; exact hle
/-- The best earns most. -/
theorem best_max (V : Vz) (l : List Pl) : (bestF V l = V.now ∨ bestF V l ∈ l) ∧ earn V V.now ≤ earn V (bestF V l) ∧ ∀ p ∈ l, earn V p ≤ earn V (bestF V l) := by
  suffices h : ∀ (n : Nat) (l : List Pl), l.length = n → (bestF V l = V.now ∨ bestF V l ∈ l) ∧ earn V V.now ≤ earn V (bestF V l) ∧ ∀ p ∈ l, earn V p ≤ earn V (bestF V l) from h _ l rfl
  intro n
  induction n with
  | zero =>
    intro l hl
    have : l = [] := List.length_eq_zero_iff.1 hl
    subst this
    exact ⟨.inl rfl, Int.le_refl _, fun p hp => by cases hp⟩
  | succ n ih =>
    intro l hl
    obtain ⟨l', p, rfl⟩ : ∃ l' p, l = l' ++ [p] := ⟨l.dropLast, l.getLast (by intro e; rw [e] at hl; cases hl), (List.dropLast_concat_getLast _).symm⟩
    have hl' : l'.length = n := by simpa using hl
    obtain ⟨h0, h1, h2⟩ := ih l' hl'
    rw [bestF_snoc]
    split
    · rename_i hlt
      refine ⟨.inr (by simp), by omega, fun q hq => ?_⟩
      rcases List.mem_append.1 hq with hq | hq
      · have := h2 q hq; omega
      · rw [List.mem_singleton.1 hq]; exact Int.le_refl _
    · rename_i hlt
      refine ⟨h0.imp id (List.mem_append_left _), h1, fun q hq => ?_⟩
      rcases List.mem_append.1 hq with hq | hq
      · exact h2 q hq
      · rw [List.mem_singleton.1 hq]; omega
end Go.Proofs.Ytipdohpbilabiaa
