import Derived.Test.YtknaljghpfeikaaM6
namespace Go.Proofs.Ytknaljghpfeikaa

/-- The time of a carriage that has made j rounds. -/
structure Tm (T : Tr) (c : Car) (j : Nat) : Prop where
  t : c.time ≤ 9999 + 999 * (c.plays.length : Int) + 60 * (j : Int) ∨ c.time = maxI
  p : ∀ q ∈ c.plays, q.2 ≤ 9999 + 999 * (c.plays.length : Int) + 60 * (j : Int)
theorem tm_step {T : Tr} (hv : VT T) {c : Car} {j : Nat} (hi : Inv T c) (h : Tm T c j) (hl : c.time < maxI) : Tm T (stepC T c) (j + 1) := by
  have hst := hv.st
  have ht : c.time ≤ 9999 + 999 * (c.plays.length : Int) + 60 * (j : Int) := by
    rcases h.t with h | h
    · exact h
    · omega
  have hp := h.p
  have hi2 := hear_inv hv hi
  have e1 : (hearC T c).time = c.time := rfl
  have e2 : (hearC T c).plays = c.plays := rfl
  unfold stepC
  generalize hearC T c = d at *
  have hlv : ∀ f : Car, f.time = d.time → f.plays = d.plays → Tm T (leaveC T f) (j + 1) := fun f h1 h2 => by
    unfold leaveC
    split
    · exact ⟨.inl (by show f.time + T.step ≤ _ + 999 * (f.plays.length : Int) + _; rw [h1, h2, e2]; omega), fun q hq => by
        have := hp q (by rw [← e2, ← h2]; exact hq)
        show q.2 ≤ 9999 + 999 * (f.plays.length : Int) + _
        rw [h2, e2]; omega⟩
    · exact ⟨.inl (by show f.time ≤ _ + 999 * (f.plays.length : Int) + _; rw [h1, h2, e2]; omega), fun q hq => by
        have := hp q (by rw [← e2, ← h2]; exact hq)
        show q.2 ≤ 9999 + 999 * (f.plays.length : Int) + _
        rw [h2, e2]; omega⟩
  have hsame : ∀ q ∈ d.plays, q.2 ≤ 9999 + 999 * (d.plays.length : Int) + 60 * ((j + 1 : Nat) : Int) := fun q hq => by
    have := hp q (by rw [← e2]; exact hq)
    rw [e2]; omega
  unfold actC
  split
  · exact ⟨.inl (by show d.time ≤ 9999 + 999 * (d.plays.length : Int) + _; rw [e1, e2]; omega), hsame⟩
  · split
    · exact hlv { d with side := -1 } rfl rfl
    · split
      · refine ⟨?_, hsame⟩
        show nextP T.prs d.time ≤ 9999 + 999 * (d.plays.length : Int) + _ ∨ nextP T.prs d.time = maxI
        rcases next_is d.time T.prs maxI with h | ⟨p, hpm, h1, h2⟩
        · right; exact h
        · left
          have := (hv.pr p hpm).2.2.2
          unfold nextP
          rw [h2]
          omega
      · split
        · have hs := secs_le hv (side_lt (up := d.up) hi2.pos)
          refine ⟨.inl ?_, fun q hq => ?_⟩
          · show d.time + secs T (sideAt d.up d.pos) ≤ 9999 + 999 * ((d.plays ++ [_]).length : Int) + _
            rw [List.length_append, List.length_singleton, e2, e1]
            omega
          · show q.2 ≤ 9999 + 999 * ((d.plays ++ [_]).length : Int) + _
            rw [List.length_append, List.length_singleton]
            rcases List.mem_append.1 (show q ∈ d.plays ++ [(((sideAt d.up d.pos : Nat) : Int), d.time)] from hq) with h | h
            · have := hsame q h
              omega
            · rw [List.mem_singleton.1 h]
              show d.time ≤ _
              rw [e1, e2]
              omega
        · exact hlv d rfl rfl
theorem plays_time {T : Tr} (hv : VT T) : ∀ q ∈ (runM T maxI).plays, q.2 ≤ 1000000 := by
  obtain ⟨K, hK⟩ := run_ex hv (Int.le_refl maxI)
  have hc := (cn_run hv (Int.le_refl maxI)).n
  rw [runM_is hK] at hc ⊢
  have key : ∀ j, j ≤ K → Tm T (iterC T j (startC T)) j := by
    intro j
    induction j with
    | zero => intro _; exact ⟨.inl (by show (0 : Int) ≤ 9999 + 999 * ((0 : Nat) : Int) + 60 * ((0 : Nat) : Int); omega), fun q hq => by cases hq⟩
    | succ j ih => intro hj; exact tm_step hv (hK.rng j (by omega)).inv (ih (by omega)) (hK.lo j (by omega))
  intro q hq
  have h1 := (key K (Nat.le_refl _)).p q hq
  have h2 := hK.kb
  have h3 := hv.p13
  omega

/-- What plays, and what has ended. -/
structure Nw (T : Tr) (c : Car) : Prop where
  a : c.side = -1 → ∀ p ∈ c.plays, p.2 + secs T p.1.toNat ≤ c.heard
  b : c.side ≠ -1 → ∃ A t, c.plays = A ++ [(c.side, t)] ∧ c.time = t + secs T c.side.toNat ∧ c.side = (sideAt c.up c.pos : Nat) ∧ t = c.heard ∧ ∀ p ∈ A, p.2 + secs T p.1.toNat ≤ c.heard
theorem nw_leave {T : Tr} {c : Car} (hs : c.side = -1) (h : ∀ p ∈ c.plays, p.2 + secs T p.1.toNat ≤ c.heard) : Nw T (leaveC T c) := by
  unfold leaveC
  split
  · exact ⟨fun _ => h, fun h1 => absurd hs h1⟩
  · exact ⟨fun _ => h, fun h1 => absurd hs h1⟩
theorem nw_step {T : Tr} {c : Car} (hi : Inv T c) (h : Nw T c) : Nw T (stepC T c) := by
  have hh := hi.he.1
  have hg := hi.go
  have ha := h.a
  have hb := h.b
  unfold stepC
  have e1 : (hearC T c).time = c.time := rfl
  have e2 : (hearC T c).plays = c.plays := rfl
  have e3 : (hearC T c).heard = c.time := rfl
  have e4 : (hearC T c).side = c.side := rfl
  have e5 : (hearC T c).going = c.going := rfl
  generalize hearC T c = d at *
  unfold actC
  by_cases h1 : d.going = true
  · rw [if_pos h1]
    have hs := (hg (by rw [← e5]; exact h1)).2
    refine ⟨fun _ p hp => ?_, fun h2 => absurd (show d.side = -1 by rw [e4]; exact hs) h2⟩
    have := ha hs p (by rw [← e2]; exact hp)
    show _ ≤ d.heard
    omega
  · rw [if_neg h1]
    by_cases h2 : d.side ≠ -1
    · rw [if_pos h2]
      obtain ⟨A, t, h3, h4, h5, h6, h7⟩ := hb (by rw [← e4]; exact h2)
      refine nw_leave (c := { d with side := -1 }) rfl fun p hp => ?_
      show _ ≤ d.heard
      have hp' : p ∈ A ++ [(c.side, t)] := by rw [← h3, ← e2]; exact hp
      rcases List.mem_append.1 hp' with h | h
      · have := h7 p h; omega
      · rw [List.mem_singleton.1 h]; dsimp only; omega
    · rw [if_neg h2]
      have hs : c.side = -1 := by omega
      have hall : ∀ p ∈ d.plays, p.2 + secs T p.1.toNat ≤ d.heard := fun p hp => by
        have := ha hs p (by rw [← e2]; exact hp)
        omega
      by_cases h3 : noneSet d.pins = true
      · rw [if_pos h3]
        exact ⟨fun _ => hall, fun h4 => absurd (show d.side = -1 by omega) h4⟩
      · rw [if_neg h3]
        by_cases h4 : d.pins (sideAt d.up d.pos) = true
        · rw [if_pos h4]
          refine ⟨fun h5 => ?_, fun _ => ⟨d.plays, d.time, rfl, ?_, rfl, by show d.time = d.heard; omega, hall⟩⟩
          · have h6 : ((sideAt d.up d.pos : Nat) : Int) = -1 := h5
            omega
          · show d.time + secs T (sideAt d.up d.pos) = d.time + secs T ((sideAt d.up d.pos : Nat) : Int).toNat
            rw [Int.toNat_natCast]
        · rw [if_neg h4]
          exact nw_leave (by omega) hall
/-- The side that plays at a time. -/
def wantF (T : Tr) (time : Int) (acc : Int) (p : Int × Int) : Int := if p.2 ≤ time ∧ time < p.2 + secs T p.1.toNat then p.1 else acc
theorem want_none {T : Tr} {time : Int} : ∀ (L : List (Int × Int)) (acc : Int), (∀ p ∈ L, ¬ (p.2 ≤ time ∧ time < p.2 + secs T p.1.toNat)) → L.foldl (wantF T time) acc = acc
  | [], _, _ => rfl
  | p :: L, acc, h => by
    rw [List.foldl_cons]
    have : wantF T time acc p = acc := by unfold wantF; rw [if_neg (h p (by simp))]
    rw [this]
    exact want_none L acc fun q hq => h q (by simp [hq])
theorem shown {T : Tr} (hv : VT T) {time : Int} (h0 : 0 ≤ time ∧ time ≤ 9999) : (runM T maxI).plays.foldl (wantF T time) (-1) = (runM T (time + 1)).side ∧ ((runM T (time + 1)).side = -1 ∨ (0 ≤ (runM T (time + 1)).side ∧ (runM T (time + 1)).side = (sideAt (runM T (time + 1)).up (runM T (time + 1)).pos : Nat))) := by
  obtain ⟨K, hK⟩ := run_ex hv (b := time + 1) (by unfold maxI; omega)
  obtain ⟨M, hM⟩ := run_ex hv (Int.le_refl maxI)
  have hKM : K ≤ M := by
    rcases Nat.lt_or_ge M K with h | h
    · have := hK.lo M h; have := hM.out; unfold maxI at this; omega
    · exact h
  obtain ⟨-, R, e1, e2⟩ := plays_behind hM hKM hK.out M hKM (Nat.le_refl _)
  have key : ∀ j, j ≤ K → Nw T (iterC T j (startC T)) := by
    intro j
    induction j with
    | zero => intro _; exact ⟨fun _ p hp => (by cases hp), fun h => absurd rfl h⟩
    | succ j ih => intro hj; exact nw_step (hK.rng j (by omega)).inv (ih (by omega))
  have hn := key K (Nat.le_refl _)
  have hhe : (iterC T K (startC T)).heard ≤ time := by
    cases K with
    | zero => show (-1 : Int) ≤ time; omega
    | succ j =>
      have h1 := (step_plays T (iterC T j (startC T))).1
      have h2 := hK.lo j (by omega)
      show (stepC T (iterC T j (startC T))).heard ≤ time
      rw [h1]; omega
  have hout := hK.out
  rw [runM_is hM, runM_is hK, e1, List.foldl_append]
  generalize iterC T K (startC T) = c at *
  have hR : ∀ (acc : Int), R.foldl (wantF T time) acc = acc := fun acc => want_none R acc fun p hp => by have := e2 p hp; omega
  rw [hR]
  by_cases hs : c.side = -1
  · rw [hs]
    exact ⟨want_none _ _ fun p hp => by have := hn.a hs p hp; omega, .inl rfl⟩
  · obtain ⟨A, t, h3, h4, h5, h6, h7⟩ := hn.b hs
    refine ⟨?_, .inr ⟨by rw [h5]; omega, h5⟩⟩
    rw [h3, List.foldl_append, want_none A _ fun p hp => by have := h7 p hp; omega]
    show wantF T time (-1) (c.side, t) = c.side
    unfold wantF
    rw [if_pos ⟨by dsimp only; omega, by dsimp only; omega⟩]
end Go.Proofs.Ytknaljghpfeikaa
