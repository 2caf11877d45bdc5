import Derived.Test.YtknaljghpfeikaaM2
namespace Go.Proofs.Ytknaljghpfeikaa

/-- Trays whose presses are the same but for their order. -/
structure SameT (T T' : Tr) : Prop where
  r : T'.rcs = T.rcs
  a : T'.at0 = T.at0
  u : T'.up0 = T.up0
  s : T'.step = T.step
  p : ∀ x, x ∈ T'.prs ↔ x ∈ T.prs
theorem any_same {α : Type} {l l' : List α} (h : ∀ x, x ∈ l' ↔ x ∈ l) (f : α → Bool) : l'.any f = l.any f := by
  rw [Bool.eq_iff_iff, List.any_eq_true, List.any_eq_true]
  exact ⟨fun ⟨x, h1, h2⟩ => ⟨x, (h x).1 h1, h2⟩, fun ⟨x, h1, h2⟩ => ⟨x, (h x).2 h1, h2⟩⟩
theorem hear_same {l l' : List (Int × Int)} (h : ∀ x, x ∈ l' ↔ x ∈ l) (a t : Int) (s : Nat → Bool) : hearS l' a t s = hearS l a t s := by
  funext i
  rw [hear_at, hear_at, any_same h]
theorem next_same {l l' : List (Int × Int)} (h : ∀ x, x ∈ l' ↔ x ∈ l) (t : Int) : nextP l' t = nextP l t := by
  have key : ∀ l l' : List (Int × Int), (∀ x, x ∈ l' ↔ x ∈ l) → nextP l' t ≤ nextP l t := fun l l' h => by
    unfold nextP
    rcases next_is t l maxI with e | ⟨p, hp, h1, h2⟩
    · rw [e]; exact (next_le t l' maxI).1
    · rw [h2]; exact (next_le t l' maxI).2 p ((h p).2 hp) h1
  exact Int.le_antisymm (key l l' h) (key l' l fun x => (h x).symm)
theorem secs_same {T T' : Tr} (h : T'.rcs = T.rcs) (k : Nat) : secs T' k = secs T k := by unfold secs; rw [h]
theorem leave_same {T T' : Tr} (h : SameT T T') (c : Car) : leaveC T' c = leaveC T c := by unfold leaveC; rw [h.r, h.s]
theorem step_same {T T' : Tr} (h : SameT T T') (c : Car) : stepC T' c = stepC T c := by
  have e : hearC T' c = hearC T c := by unfold hearC; rw [hear_same h.p]
  unfold stepC
  rw [e]
  generalize hearC T c = d
  unfold actC playC
  rw [leave_same h, leave_same h, next_same h.p, secs_same h.r]
theorem goTo_same {T T' : Tr} (h : SameT T T') (b : Int) : ∀ (f : Nat) (c : Car), goTo T' b f c = goTo T b f c
  | 0, _ => rfl
  | f + 1, c => by
    unfold goTo
    rw [step_same h, goTo_same h b f]
theorem start_same {T T' : Tr} (h : SameT T T') : startC T' = startC T := by unfold startC; rw [h.a, h.u]
theorem runM_same {T T' : Tr} (h : SameT T T') (b : Int) : runM T' b = runM T b := by
  unfold runM
  rw [start_same h, goTo_same h]

/-- The presses in another order. -/
def srcO (by' : Nat) (back : Bool) (m i : Nat) : Nat := if back then m - 1 - (i + by') % m else (i + by') % m
theorem srcO_lt {by' m i : Nat} {back : Bool} (hm : 0 < m) : srcO by' back m i < m := by
  have := Nat.mod_lt (i + by') hm
  unfold srcO
  split <;> omega
def ordrP (ps : List (Int × Int)) (by' : Nat) (back : Bool) : List (Int × Int) := (List.range ps.length).map fun i => ps.getD (srcO by' back ps.length i) (0, 0)
theorem ordrP_len (ps : List (Int × Int)) (by' : Nat) (back : Bool) : (ordrP ps by' back).length = ps.length := by simp [ordrP]
theorem ordrP_at {ps : List (Int × Int)} {by' : Nat} {back : Bool} {i : Nat} (hi : i < ps.length) : (ordrP ps by' back)[i]? = ps[srcO by' back ps.length i]? := by
  have h := srcO_lt (by' := by') (i := i) (back := back) (show 0 < ps.length by omega)
  simp [ordrP, hi, List.getD_eq_getElem?_getD, h]
theorem rot_all {by' m : Nat} (hm : 0 < m) {j : Nat} (hj : j < m) : ∃ i, i < m ∧ (i + by') % m = j := by
  refine ⟨(j + (m - by' % m)) % m, Nat.mod_lt _ hm, ?_⟩
  have h1 := Nat.mod_lt by' hm
  rw [Nat.mod_add_mod, Nat.add_assoc, ← Nat.add_mod_mod, ← Nat.add_mod_mod (m - by' % m) by' m]
  have e : (m - by' % m + by' % m) = m := by omega
  rw [e, Nat.mod_self, Nat.add_zero, Nat.mod_eq_of_lt hj]
theorem srcO_all {by' m : Nat} {back : Bool} (hm : 0 < m) {j : Nat} (hj : j < m) : ∃ i, i < m ∧ srcO by' back m i = j := by
  unfold srcO
  cases back
  · exact rot_all hm hj
  · obtain ⟨i, h1, h2⟩ := rot_all (by' := by') hm (show m - 1 - j < m by omega)
    exact ⟨i, h1, by rw [if_pos rfl, h2]; omega⟩
theorem ordrP_mem (ps : List (Int × Int)) (by' : Nat) (back : Bool) : ∀ x, x ∈ ordrP ps by' back ↔ x ∈ ps := fun x => by
  constructor
  · intro hx
    obtain ⟨i, hi⟩ := List.mem_iff_getElem?.1 hx
    have hl : i < ps.length := by
      rcases Nat.lt_or_ge i ps.length with h | h
      · exact h
      · rw [List.getElem?_eq_none (by rw [ordrP_len]; exact h)] at hi; cases hi
    rw [ordrP_at hl] at hi
    exact List.mem_of_getElem? hi
  · intro hx
    obtain ⟨j, hj⟩ := List.mem_iff_getElem?.1 hx
    have hl : j < ps.length := by
      rcases Nat.lt_or_ge j ps.length with h | h
      · exact h
      · rw [List.getElem?_eq_none h] at hj; cases hj
    obtain ⟨i, hi, he⟩ := srcO_all (by' := by') (back := back) (show 0 < ps.length by omega) hl
    have := ordrP_at (by' := by') (back := back) hi
    rw [he, hj] at this
    exact List.mem_of_getElem? this
end Go.Proofs.Ytknaljghpfeikaa
