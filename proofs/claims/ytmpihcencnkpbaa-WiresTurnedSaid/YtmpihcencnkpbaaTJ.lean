import Derived.Test.YtmpihcencnkpbaaTH
/-! As HeadAt.rg (Q5), with one fact on all that has been made; what is true of the first press that cannot be explained. -/
namespace Go.Proofs.Ytmpihcencnkpbaa
set_option linter.unusedSimpArgs false
set_option linter.unusedVariables false
open Go Go.RowKit
section
variable {P : Program} {S : World → Prop} {Q : Exit → Act → World → Prop}
theorem HeadAt.rg3 {l : List Oper} {n f0 : Nat} {s0 : Array Bool} (idx : List Nat) (k : Nat) (A : (Nat → Value) → Act) (I : Array Bool → (Nat → Value) → World → Prop) (u0 : Nat → Value)
    (hb : chkRg l.toArray n idx (idx.foldl (fun s i => s.setIfInBounds i true) s0) k s0 = true)
    (hstep : ∀ i, i ∈ idx → ∀ o, l.toArray[i]? = some o → ∀ (s : Array Bool) (u : Nat → Value) (w : World), S w → I s u w →
      wpList P l.toArray (Upto (fun a' w' => ∃ v, a' = A (updU u i v) ∧ S w' ∧ I (s.setIfInBounds i true) (updU u i v) w') (NoPanic Q)) [o] (A u) w)
    (hdone : ∀ (u : Nat → Value) (w : World), S w → I (idx.foldl (fun s i => s.setIfInBounds i true) s0) u w → HeadAt P l Q S n f0 (idx.foldl (fun s i => s.setIfInBounds i true) s0) (A u) w)
    {w : World} (hw : S w) (hI : I s0 u0 w) : HeadAt P l Q S n (f0 + k) s0 (A u0) w := by
  generalize idx.foldl (fun s i => s.setIfInBounds i true) s0 = s1 at *
  suffices h : ∀ (k : Nat) (s : Array Bool) (u : Nat → Value) (w : World), chkRg l.toArray n idx s1 k s = true → S w → I s u w → HeadAt P l Q S n (f0 + k) s (A u) w from h k s0 u0 w hb hw hI
  intro k
  induction k with
  | zero =>
    intro s u w hc hSw hFs
    have e : s = s1 := by simpa [chkRg] using hc
    subst e
    exact hdone u w hSw hFs
  | succ k ih =>
    intro s u w hc hSw hFs
    unfold chkRg at hc
    simp only [Bool.and_eq_true, Bool.not_eq_true', List.all_eq_true, decide_eq_true_eq] at hc
    obtain ⟨hne, hall⟩ := hc
    intro inv
    refine ⟨fun e => by rw [e] at hne; simp at hne, fun i hi => ?_⟩
    obtain ⟨hin, hid, hck⟩ := hall i hi
    have hid' : i ∈ idx := by simpa using hid
    obtain ⟨hun, oi, hoi, hpre⟩ := mem_ready.1 hi
    refine ⟨hin, wpOp_mono (fun a' w' h' => ?_) (wpOp_of_list hoi (hstep i hid' oi hoi s u w hSw hFs))⟩
    obtain ⟨v, rfl, hSw', hI'⟩ := h'
    exact ⟨hSw', ih _ _ _ hck hSw' hI' (inv.set hi hin)⟩
end
theorem sd_of {s : Array Bool} {i j : Nat} (h : i ≠ j) (k : (s.setIfInBounds i true).getD j false = true) : s.getD j false = true := by
  rw [getD_set_ne false h] at k; exact k

theorem vB_take {L N F : Int} {P : List F3} (h : vB L N P F = true) (k : Nat) : vB L N (P.take k) F = true := by
  unfold vB sizB presB at h ⊢
  simp only [Bool.and_eq_true, decide_eq_true_eq, List.all_eq_true] at h ⊢
  obtain ⟨⟨⟨⟨h1, h2⟩, h3⟩, h4⟩, h5⟩ := h
  exact ⟨⟨⟨⟨h1, h2⟩, by rw [List.length_take]; omega⟩, fun p hp => h4 p (List.mem_of_mem_take hp)⟩, h5⟩
theorem akE_some {L N F : Int} {Q : List F3} (h : vB L N Q F = true) : akE L N Q F true = if exSome N (setsL L N F.toNat) Q then 0 else 3 := by
  have hc : chE L N Q F true = 0 := by unfold chE; rw [h]; rfl
  unfold akE truL
  rw [if_pos hc]
  cases he : exSome N (setsL L N F.toNat) Q
  · rw [if_pos, if_neg (by simp)]
    rw [List.filter_eq_nil_iff]
    intro s hs
    unfold exSome at he
    rw [List.any_eq_false] at he
    exact he s hs
  · rw [if_neg, if_pos rfl]
    intro e
    rw [List.filter_eq_nil_iff] at e
    unfold exSome at he
    obtain ⟨s, hs, h2⟩ := List.any_eq_true.1 he
    exact e s hs h2
theorem exSome_nil {L N : Int} (hL : 1 ≤ L ∧ L ≤ 5) (hN : 1 ≤ N ∧ N ≤ 5) (m : Nat) : exSome N (setsL L N m) [] = true := by
  unfold exSome
  rw [List.any_eq_true]
  exact ⟨[], (setsL_mem hL hN).2 ⟨rfl, Nat.zero_le _⟩, rfl⟩
theorem exSome_take {N : Int} {S : List (List F3)} {P : List F3} (k : Nat) (h : exSome N S P = true) : exSome N S (P.take k) = true := by
  unfold exSome at h ⊢
  rw [List.any_eq_true] at h ⊢
  obtain ⟨s, hs, h2⟩ := h
  exact ⟨s, hs, exB_take h2 k⟩
/-- What is true of the first press that cannot be explained. -/
theorem first_law {L N F : Int} {P : List F3} (hr : rdB L N P F = true) :
    (fiE L N P F = 3 ∧ akE L N P F true = 0) ∨ (fiE L N P F = 0 ∧ akE L N P F true = 3 ∧ fiR L N P F < P.length ∧ akE L N (P.take (fiR L N P F)) F true = 0 ∧ akE L N (P.take (fiR L N P F + 1)) F true = 3) := by
  have hv := (rdB_ok hr).1
  obtain ⟨hL, hN, _⟩ := vB_siz hv
  have hc : chE L N P F true = 0 := by unfold chE; rw [hv]; rfl
  have hn := exSome_nil hL hN F.toNat
  rw [akE_some hv, akE_some (vB_take hv _), akE_some (vB_take hv _)]
  cases hf : fiF N (setsL L N F.toNat) P with
  | none =>
    left
    refine ⟨(fi_none hc hf).1, ?_⟩
    rw [if_pos]
    unfold fiF at hf
    rw [List.find?_range_eq_none] at hf
    cases P with
    | nil => exact hn
    | cons p P =>
      have := hf P.length (by simp)
      rw [List.take_of_length_le (by simp)] at this
      simpa using this
  | some i =>
    right
    obtain ⟨h1, h2⟩ := fi_some hc hf
    unfold fiF at hf
    rw [List.find?_range_eq_some] at hf
    obtain ⟨h3, h4, h5⟩ := hf
    have h4 : i < P.length := by simpa using h4
    have h3 : exSome N (setsL L N F.toNat) (P.take (i + 1)) = false := by simpa using h3
    rw [h2]
    refine ⟨h1, ?_, h4, ?_, ?_⟩
    · rw [if_neg]
      intro e
      rw [exSome_take _ e] at h3; cases h3
    · rw [if_pos]
      cases i with
      | zero => exact hn
      | succ j => simpa using h5 j (by omega)
    · rw [if_neg (by rw [h3]; simp)]
end Go.Proofs.Ytmpihcencnkpbaa
