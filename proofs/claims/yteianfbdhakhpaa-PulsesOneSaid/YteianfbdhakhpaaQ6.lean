import Derived.Test.YteianfbdhakhpaaQ5
/-! As HeadAt.rg (Q5), where what an operation makes is said together with what those before it made. -/
namespace Go.Proofs.Yteianfbdhakhpaa
open Go Go.RowKit
section
variable {P : Program} {S : World → Prop} {Q : Exit → Act → World → Prop}

/-- i comes before j, by at most f + 1 steps. -/
def ancB (ops : Array Oper) : Nat → Nat → Nat → Bool
  | 0, i, j => predB ops i j
  | f + 1, i, j => predB ops i j || (List.range ops.size).any fun k => predB ops k j && ancB ops f i k
theorem anc_done {ops : Array Oper} {n : Nat} {s : Array Bool} (inv : HeadInv .any ops n s) : ∀ (f i j : Nat), ancB ops f i j = true → s.getD j false = true → s.getD i false = true := by
  have one : ∀ i j, predB ops i j = true → s.getD j false = true → s.getD i false = true := fun i j hp hj => by
    unfold predB at hp
    cases ho : ops[j]? with
    | none => rw [ho] at hp; cases hp
    | some o =>
      rw [ho] at hp
      simp only [List.any_eq_true, Bool.and_eq_true, beq_iff_eq] at hp
      obtain ⟨e, he, h1, h2⟩ := hp
      rw [← h2]
      exact inv.closed j o ho hj e (by simpa using he) h1
  intro f
  induction f with
  | zero => intro i j h hj; exact one i j h hj
  | succ f ih =>
    intro i j h hj
    unfold ancB at h
    rw [Bool.or_eq_true] at h
    rcases h with h | h
    · exact one i j h hj
    · simp only [List.any_eq_true, Bool.and_eq_true] at h
      obtain ⟨k, _, h1, h2⟩ := h
      exact ih i k h2 (one k j h1 hj)
theorem anc_ready {ops : Array Oper} {n : Nat} {s : Array Bool} (inv : HeadInv .any ops n s) {i : Nat} (hi : i ∈ Region.ready .any ops s) : ∀ (f k : Nat), ancB ops f k i = true → s.getD k false = true := by
  obtain ⟨_, oi, hoi, hpre⟩ := mem_ready.1 hi
  have one : ∀ k, predB ops k i = true → s.getD k false = true := fun k hp => by
    unfold predB at hp
    rw [hoi] at hp
    simp only [List.any_eq_true, Bool.and_eq_true, beq_iff_eq] at hp
    obtain ⟨e, he, h1, h2⟩ := hp
    rw [← h2]
    exact hpre e (by simpa using he) h1
  intro f
  cases f with
  | zero => intro k h; exact one k h
  | succ f =>
    intro k h
    unfold ancB at h
    rw [Bool.or_eq_true] at h
    rcases h with h | h
    · exact one k h
    · simp only [List.any_eq_true, Bool.and_eq_true] at h
      obtain ⟨m, _, h1, h2⟩ := h
      exact anc_done inv f k m h2 (one m h1)

theorem HeadAt.rg2 {l : List Oper} {n f0 : Nat} {s0 : Array Bool} (idx : List Nat) (k d : Nat) (A : (Nat → Value) → Act) (F : Nat → (Nat → Value) → World → Prop) (u0 : Nat → Value)
    (hb : (chkRg l.toArray n idx (idx.foldl (fun s i => s.setIfInBounds i true) s0) k s0 && (idx.all fun j => (idx.foldl (fun s i => s.setIfInBounds i true) s0).getD j false) && (idx.all fun j => !s0.getD j false)) = true)
    (hS : ∀ w w', S w → Below w.heap.size w w' → S w') (hF : ∀ j u w w', F j u w → Below w.heap.size w w' → F j u w')
    (hU : ∀ i j, i ∈ idx → j ∈ idx → i ≠ j → ancB l.toArray d i j = false → ∀ u v w, F j u w → F j (updU u i v) w)
    (hstep : ∀ i, i ∈ idx → ∀ o, l.toArray[i]? = some o → ∀ (u : Nat → Value) (w : World), S w → (∀ j, j ∈ idx → ancB l.toArray d j i = true → F j u w) →
      wpList P l.toArray (Upto (fun a' w' => ∃ v, a' = A (updU u i v) ∧ Below w.heap.size w w' ∧ F i (updU u i v) w') (NoPanic Q)) [o] (A u) w)
    (hdone : ∀ (u : Nat → Value) (w : World), S w → (∀ j, j ∈ idx → F j u w) → HeadAt P l Q S n f0 (idx.foldl (fun s i => s.setIfInBounds i true) s0) (A u) w)
    {w : World} (hw : S w) : HeadAt P l Q S n (f0 + k) s0 (A u0) w := by
  simp only [Bool.and_eq_true] at hb
  obtain ⟨⟨hb, hall1⟩, hall0⟩ := hb
  generalize idx.foldl (fun s i => s.setIfInBounds i true) s0 = s1 at *
  suffices h : ∀ (k : Nat) (s : Array Bool) (u : Nat → Value) (w : World), chkRg l.toArray n idx s1 k s = true → S w → (∀ j, j ∈ idx → s.getD j false = true → F j u w) → HeadAt P l Q S n (f0 + k) s (A u) w from
    h k s0 u0 w hb hw (fun j hj hs => by
      have := List.all_eq_true.1 hall0 j hj
      rw [hs] at this; cases this)
  intro k
  induction k with
  | zero =>
    intro s u w hc hSw hFs
    have e : s = s1 := by simpa [chkRg] using hc
    subst e
    exact hdone u w hSw (fun j hj => hFs j hj (List.all_eq_true.1 hall1 j hj))
  | succ k ih =>
    intro s u w hc hSw hFs
    unfold chkRg at hc
    simp only [Bool.and_eq_true, Bool.not_eq_true', List.all_eq_true, decide_eq_true_eq] at hc
    obtain ⟨hne, hall⟩ := hc
    intro inv
    refine ⟨fun e => by rw [e] at hne; simp at hne, fun i hi => ?_⟩
    obtain ⟨hin, hid, hck⟩ := hall i hi
    have hid' : i ∈ idx := by simpa using hid
    obtain ⟨hun, oi, hoi, hpre⟩ := mem_ready.1 hi
    refine ⟨hin, wpOp_mono (fun a' w' h' => ?_) (wpOp_of_list hoi (hstep i hid' oi hoi u w hSw (fun j hj hp => hFs j hj (anc_ready inv hi d j hp))))⟩
    obtain ⟨v, rfl, hbl, hFi⟩ := h'
    have hSw' := hS _ _ hSw hbl
    refine ⟨hSw', ih _ _ _ hck hSw' (fun j hj hsj => ?_) (inv.set hi hin)⟩
    by_cases e : j = i
    · rw [e]; exact hFi
    · rw [getD_set_ne false (Ne.symm e)] at hsj
      refine hU i j hid' hj (Ne.symm e) ?_ _ _ _ (hF _ _ _ _ (hFs j hj hsj) hbl)
      cases ha : ancB l.toArray d i j with
      | false => rfl
      | true =>
        have := anc_done inv d i j ha hsj
        rw [getD_both hun] at this
        cases this
end
end Go.Proofs.Yteianfbdhakhpaa
