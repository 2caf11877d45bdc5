import Derived.Test.YtknaljghpfeikaaM16
namespace Go.Proofs.Ytknaljghpfeikaa

def most (T : Tr) : Int := sumR T.rcs + T.step * (2 * ((T.rcs.length : Int) - 1))
/-- What a press gets: the number of the play, and when that begins. -/
theorem serv_wait {T : Tr} (hv : VT T) {x y : Int} (hm : (x, y) ∈ T.prs) : ∃ (j : Nat) (t : Int), servF x y (runM T maxI).plays 0 = (j : Nat) ∧ (runM T maxI).plays[j]? = some (x, t) ∧ y ≤ t ∧ t ≤ y + most T := by
  have hpr := hv.pr _ hm
  dsimp only at hpr
  obtain ⟨A, q, B, e, h1, h2, _, h3, hb⟩ := beg_facts hv hm
  obtain ⟨k, rfl⟩ : ∃ k : Nat, x = (k : Int) := ⟨x.toNat, by omega⟩
  obtain ⟨s, s1, s2, s3⟩ := wait_most hv hm
  have h4 := beg_least hv hm s1 s2
  rw [hb] at h4
  refine ⟨A.length, q.2, h3, ?_, h2, by unfold most; omega⟩
  rw [e, List.getElem?_append_right (Nat.le_refl _), Nat.sub_self, ← h1]
  rfl
/-- The end is that of the last play. -/
structure FinP (T : Tr) (c : Car) : Prop where
  f : ∀ A q, c.plays = A ++ [q] → c.fin = q.2 + secs T q.1.toNat
theorem fin_step {T : Tr} {c : Car} (h : FinP T c) : FinP T (stepC T c) := by
  have h1 : FinP T (hearC T c) := ⟨h.f⟩
  unfold stepC
  generalize hearC T c = d at h1
  have keep : ∀ d', d'.plays = d.plays → d'.fin = d.fin → FinP T d' := fun d' e1 e2 => ⟨fun A q e => by rw [e2]; exact h1.f A q (by rw [← e1]; exact e)⟩
  have lv : ∀ d', d'.plays = d.plays → d'.fin = d.fin → FinP T (leaveC T d') := fun d' e1 e2 => by
    refine keep _ ?_ ?_
    · rw [(leave_plays T d').1]; exact e1
    · unfold leaveC; split <;> exact e2
  unfold actC
  split
  · exact keep _ rfl rfl
  · split
    · exact lv _ rfl rfl
    · split
      · exact keep _ rfl rfl
      · split
        · refine ⟨fun A q e => ?_⟩
          have e' : d.plays ++ [(((sideAt d.up d.pos : Nat) : Int), d.time)] = A ++ [q] := e
          have e1 := List.append_inj' e' rfl
          injection e1.2 with e2
          rw [← e2]
          show d.time + secs T (sideAt d.up d.pos) = d.time + secs T (((sideAt d.up d.pos : Nat) : Int)).toNat
          rw [Int.toNat_natCast]
        · exact lv _ rfl rfl
theorem fin_run {T : Tr} (hv : VT T) : FinP T (runM T maxI) := by
  obtain ⟨K, hK⟩ := run_ex hv (Int.le_refl maxI)
  rw [runM_is hK]
  have key : ∀ j, FinP T (iterC T j (startC T)) := by
    intro j
    induction j with
    | zero => exact ⟨fun A q e => by have := congrArg List.length e; simp [startC, iterC] at this⟩
    | succ j ih => exact fin_step ih
  exact key K
/-- There are plays just if there are presses. -/
theorem plays_none {T : Tr} (hv : VT T) : (runM T maxI).plays.length = 0 ↔ T.prs.length = 0 := by
  constructor
  · intro h
    rcases Nat.eq_zero_or_pos T.prs.length with h0 | h0
    · exact h0
    · obtain ⟨j, t, _, h2, _⟩ := serv_wait hv (x := (T.prs[0]).1) (y := (T.prs[0]).2) (List.getElem_mem h0)
      rw [List.length_eq_zero_iff.1 h] at h2
      cases h2
  · intro h
    rcases Nat.eq_zero_or_pos (runM T maxI).plays.length with h0 | h0
    · exact h0
    · obtain ⟨p, hp, _⟩ := play_serves hv h0
      rw [List.length_eq_zero_iff.1 h] at hp
      cases hp
theorem sumR_snoc (rs : List (Int × Int)) (r : Int × Int) : sumR (rs ++ [r]) = sumR rs + (r.1 + r.2) := by
  unfold sumR; rw [List.foldl_append]; rfl
end Go.Proofs.Ytknaljghpfeikaa
