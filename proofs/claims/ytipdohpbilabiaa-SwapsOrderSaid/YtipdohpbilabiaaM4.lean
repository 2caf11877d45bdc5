import Derived.Test.YtipdohpbilabiaaM3
/-! A plan that fits is among all plans; the fairest is the greatest of the least. -/
namespace Go.Proofs.Ytipdohpbilabiaa
set_option linter.unusedSimpArgs false
set_option linter.unusedVariables false
open Go Go.RowKit

theorem fit_in {X : Sw} (hok : XOk X) {P : List (List Int)} (hpl : plB X P = true) (hf : fitA X.vz (planM P) = true) : planM P ∈ plansV X.vz := by
  obtain ⟨hl, hp⟩ := plB_parts hpl
  have hn3 := hok.nb3
  have h6 : ntI X < 6 := by unfold ntI; have := hok.t6; omega
  have htl : ∀ l ∈ P, ∀ x ∈ l, 0 ≤ x ∧ x < (X.st.length : Int) := fun l hl' x hx => by
    obtain ⟨k, hk, rfl⟩ := mem_getD [] hl'
    have h := ris_mem (hp k hk).2 x hx
    unfold ntI at h
    omega
  have hget : ∀ k, k < X.bs.length → (planM P).get k = mask (P.getD k []) := fun k hk => now_get P (by omega) (by omega)
  have hms : ∀ k, k < X.bs.length → mask (P.getD k []) < 2 ^ X.st.length := fun k hk => by
    rw [← hget k hk]
    exact (planM_ok htl).get k
  unfold fitA at hf
  simp only [Bool.and_eq_true, List.all_eq_true, List.mem_range] at hf
  obtain ⟨hfb, hC⟩ := hf
  suffices h : ∀ (r box : Nat), box + r = X.bs.length → planM P ∈ plansF X.vz r (planL P box) box by
    have h0 := h X.bs.length 0 (by omega)
    exact h0
  intro r
  induction r with
  | zero =>
    intro box hb
    have e : planL P box = planM P := by rw [show box = P.length by omega]; rfl
    rw [e]
    unfold plansF
    rw [if_pos hC]
    exact List.mem_singleton.2 rfl
  | succ r ih =>
    intro box hb
    have hbox : box < X.bs.length := by omega
    have hb3 : box < 3 := by omega
    unfold plansF
    rw [List.mem_flatMap]
    have hg : X.vz.now.get box = mask (X.bs.getD box []) := now_get X.bs hbox hn3
    refine ⟨mask (P.getD box []), List.mem_range.2 (hms box hbox), ?_⟩
    have hcnt : (cnt (mask (P.getD box [])) == cnt (mask (X.bs.getD box []))) = true := by
      rw [beq_iff_eq]
      obtain ⟨h3, hr⟩ := hok.b3 box hbox
      obtain ⟨hlen, hr'⟩ := hp box (by omega)
      unfold cnt
      rw [bits_mask hr h6 h3, bits_mask hr' h6 (by omega), List.length_map, List.length_map]
      exact hlen
    have hfit : fitB X.vz ((planL P box).set box (mask (P.getD box []))) box = true := by
      have h := hfb box hbox
      unfold fitB chO at h ⊢
      rw [Pl.get_set hb3]
      rw [hget box hbox] at h
      exact h
    rw [hg, hcnt, hfit, Bool.and_true, if_pos rfl, ← planL_succ P hb3]
    exact ih (box + 1) (by omega)
theorem fair_max (V : Vz) (l : List Pl) : 0 ≤ fairF V l ∧ (∀ p ∈ l, minL (earL V p V.nb) ≤ fairF V l) ∧ (fairF V l = 0 ∨ ∃ p ∈ l, fairF V l = minL (earL V p V.nb)) := by
  suffices h : ∀ (n : Nat) (l : List Pl), l.length = n → 0 ≤ fairF V l ∧ (∀ p ∈ l, minL (earL V p V.nb) ≤ fairF V l) ∧ (fairF V l = 0 ∨ ∃ p ∈ l, fairF V l = minL (earL V p V.nb)) from h _ l rfl
  intro n
  induction n with
  | zero =>
    intro l hl
    have : l = [] := List.length_eq_zero_iff.1 hl
    subst this
    exact ⟨Int.le_refl _, fun p hp => (nomatch hp), .inl rfl⟩
  | succ n ih =>
    intro l hl
    obtain ⟨l', p, rfl⟩ : ∃ l' p, l = l' ++ [p] := ⟨l.dropLast, l.getLast (by intro e; rw [e] at hl; cases hl), (List.dropLast_concat_getLast _).symm⟩
    have hl' : l'.length = n := by simpa using hl
    obtain ⟨h0, h1, h2⟩ := ih l' hl'
    rw [fairF_snoc]
    generalize fairF V l' = s at *
    obtain ⟨y, hy⟩ : ∃ y, y = minL (earL V p V.nb) := ⟨_, rfl⟩
    rw [← hy]
    refine ⟨by omega, fun q hq => ?_, ?_⟩
    · rcases List.mem_append.1 hq with hq | hq
      · have := h1 q hq; omega
      · rw [List.mem_singleton.1 hq, ← hy]; omega
    · by_cases hsy : s ≤ y
      · exact .inr ⟨p, by simp, by rw [← hy]; omega⟩
      · rcases h2 with h2 | ⟨q, hq, e⟩
        · exact .inl (by omega)
        · exact .inr ⟨q, List.mem_append_left _ hq, by rw [← e]; omega⟩
end Go.Proofs.Ytipdohpbilabiaa
