import Derived.Test.YthgjjlkdekfdbaaT31
import Derived.Test.YthgjjlkdekfdbaaM6
/-! The loan, week after week. -/
namespace Go.Proofs.Ythgjjlkdekfdbaa
set_option linter.unusedSimpArgs false
set_option linter.unusedVariables false
open Go Go.RowKit

theorem wkO_rep (cs : List Cl) (L t : Int) : ∀ k : Nat, wkO cs L (List.replicate k t) = loanK L cs t k
  | 0 => rfl
  | k + 1 => by rw [List.replicate_succ', wkO_app, wkO_rep cs L t k]; rfl
theorem loanK_down {cs : List Cl} {L t : Int} (h : Ok cs L t) (k : Nat) : loanK L cs t (k + 1) ≤ loanK L cs t k := by
  have ho := loanK_ok h k
  have hf := ho.fin
  have e1 := hf.loan; have e3 := hf.rp
  show (settledW (loanK L cs t k) cs t).owed ≤ loanK L cs t k
  omega
theorem loanK_zero {cs : List Cl} {L t : Int} (h : Ok cs L t) {n : Nat} (hn : loanK L cs t n = 0) : ∀ k, n ≤ k → loanK L cs t k = 0
  | 0, hk => by rw [show n = 0 by omega] at hn; exact hn
  | k + 1, hk => by
    rcases Nat.lt_or_ge n (k + 1) with h1 | h1
    · have := loanK_zero h hn k (by omega)
      have h2 := loanK_down h k
      have h3 := (loanK_rng h (k + 1)).1
      omega
    · rw [show k + 1 = n by omega]; exact hn
/-- When the loan is paid back, as the law asks. -/
theorem rep_cases {cs : List Cl} {L t : Int} (h : Ok cs L t) : (∃ N : Nat, N < 1001 ∧ repR L cs t = ((N : Int), 0) ∧ (N = 0 ↔ L = 0) ∧ ∀ i : Nat, (loanK L cs t (i + 1) = 0 ∧ N ≤ i + 1) ∨ (loanK L cs t (i + 1) ≠ 0 ∧ i + 1 < N)) ∨ (repR L cs t = (0, 3) ∧ ∀ i : Nat, i < 6 → loanK L cs t (i + 1) ≠ 0) := by
  rcases first_cases (repP L cs t) 1001 with ⟨N, h1, h2, h3, h4⟩ | ⟨h1, h2⟩
  · left
    have hN : loanK L cs t N = 0 := by simpa [repP] using h3
    refine ⟨N, h1, h2, ⟨fun e => by rw [e] at hN; exact hN, fun e => ?_⟩, fun i => ?_⟩
    · rcases Nat.eq_zero_or_pos N with h5 | h5
      · exact h5
      · have := h4 0 h5
        simp [repP, loanK, e] at this
    · rcases Nat.lt_or_ge (i + 1) N with h5 | h5
      · right
        refine ⟨fun e => ?_, h5⟩
        have := h4 (i + 1) h5
        simp [repP, e] at this
      · exact .inl ⟨loanK_zero h hN _ h5, h5⟩
  · right
    refine ⟨h1, fun i hi e => ?_⟩
    have := h2 (i + 1) (by omega)
    simp [repP, e] at this
theorem wkE_rep {cs : List Cl} {L t : Int} (h : shB cs L = true) (ht : cenB t = true) {k : Nat} (hk : k ≤ 6) : wkE cs L (List.replicate k t) = 0 := by
  refine wkE_zero.2 ⟨h, by rw [List.length_replicate]; exact hk, ?_⟩
  rw [List.all_eq_true]
  intro x hx
  rw [(List.mem_replicate.1 hx).2]; exact ht
theorem rep_map (t : Int) (i : Nat) : (List.replicate i t).map (Value.int .i64) ++ [.int .i64 t] = (List.replicate (i + 1) t).map (Value.int .i64) := by
  rw [List.replicate_succ', List.map_append]; rfl
/-- Weeks of the same takings. -/
theorem Weeks_rep {cs : List Cl} {L t : Int} (h : shB cs L = true) (ht : cenB t = true) {k : Nat} (hk : k ≤ 6) (ac : Option Addr) (cc : Nat) (a : Option Addr) (c : Nat) (V : World) (hX : Clz V ac cs) (hI : Ints V a (List.replicate k t)) :
    Calls Try.prog 28 #[.agg #[.slice ac cs.length cc, .int .i64 L], .slice a k c] V fun e w' => ∃ (a2 : Option Addr) (c2 : Nat), e = .returned (.tuple #[.slice a2 k c2, .int .i64 (loanK L cs t k), .int .i64 0]) ∧ Below V.heap.size V w' := by
  have := Weeks_ok ac cc cs L a c (List.replicate k t) V hX hI (wkE_rep h ht hk)
  rw [wkL_len, List.length_replicate, wkO_rep] at this
  exact this.mono fun e w' ⟨a2, c2, h1, _, _, _, h2⟩ => ⟨a2, c2, h1, h2⟩
end Go.Proofs.Ythgjjlkdekfdbaa
