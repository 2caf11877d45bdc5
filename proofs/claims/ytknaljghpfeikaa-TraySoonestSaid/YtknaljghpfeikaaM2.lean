import Derived.Test.YtknaljghpfeikaaM1
namespace Go.Proofs.Ytknaljghpfeikaa

theorem next_le (t : Int) : ∀ (prs : List (Int × Int)) (m : Int), prs.foldl (next1 t) m ≤ m ∧ ∀ p ∈ prs, t < p.2 → prs.foldl (next1 t) m ≤ p.2
  | [], m => ⟨Int.le_refl _, fun p hp => by simp at hp⟩
  | q :: prs, m => by
    rw [List.foldl_cons]
    obtain ⟨h1, h2⟩ := next_le t prs (next1 t m q)
    have hm : next1 t m q ≤ m ∧ (t < q.2 → next1 t m q ≤ q.2) := by
      unfold next1
      by_cases h : t < q.2
      · rw [if_pos h]; exact ⟨by omega, fun _ => by omega⟩
      · rw [if_neg h]; exact ⟨Int.le_refl _, fun hh => absurd hh h⟩
    refine ⟨by omega, fun p hp ht => ?_⟩
    rcases List.mem_cons.1 hp with rfl | hp
    · have := hm.2 ht; omega
    · exact h2 p hp ht
/-- Each press that was heard is set, or was played behind it. -/
def Sv (T : Tr) (c : Car) : Prop := ∀ p ∈ T.prs, p.2 ≤ c.heard → c.pins p.1.toNat = true ∨ ∃ q ∈ c.plays, q.1 = p.1 ∧ p.2 ≤ q.2
theorem sv_hear {T : Tr} {c : Car} (h : Sv T c) : Sv T (hearC T c) := fun p hp ht => by
  have e : (hearC T c).pins p.1.toNat = (c.pins p.1.toNat || T.prs.any fun q => decide (c.heard < q.2) && decide (q.2 ≤ c.time) && decide (p.1.toNat = q.1.toNat)) := hear_at _ _ _ _ _
  by_cases ho : p.2 ≤ c.heard
  · rcases h p hp ho with h1 | h1
    · left; rw [e, h1]; rfl
    · exact .inr h1
  · left
    rw [e]
    have ha : (T.prs.any fun q => decide (c.heard < q.2) && decide (q.2 ≤ c.time) && decide (p.1.toNat = q.1.toNat)) = true := by
      rw [List.any_eq_true]
      refine ⟨p, hp, ?_⟩
      have h1 : c.heard < p.2 := by omega
      have h2 : p.2 ≤ c.time := ht
      simp [h1, h2]
    rw [ha]; simp
theorem sv_leave {T : Tr} {c : Car} (h : Sv T c) : Sv T (leaveC T c) := by
  unfold leaveC; split <;> exact h
theorem sv_act {T : Tr} (hv : VT T) {c : Car} (h : Sv T c) (hh : c.heard ≤ c.time) : Sv T (actC T c) := by
  unfold actC
  split
  · exact h
  · split
    · exact sv_leave (c := { c with side := -1 }) h
    · split
      · exact h
      · split
        · intro p hp ht
          have ht' : p.2 ≤ c.heard := ht
          rcases h p hp ht' with h1 | ⟨q, hq, h2⟩
          · by_cases hk : p.1.toNat = sideAt c.up c.pos
            · right
              refine ⟨(((sideAt c.up c.pos : Nat) : Int), c.time), ?_, ?_, ?_⟩
              · show _ ∈ c.plays ++ [_]
                simp
              · show ((sideAt c.up c.pos : Nat) : Int) = p.1
                have := (hv.pr p hp).1
                omega
              · show p.2 ≤ c.time; omega
            · left
              show (c.pins p.1.toNat && !decide (p.1.toNat = sideAt c.up c.pos)) = true
              rw [h1, decide_eq_false hk]; rfl
          · right
            exact ⟨q, by show q ∈ c.plays ++ [_]; simp [hq], h2⟩
        · exact sv_leave h
theorem sv_iter {T : Tr} (hv : VT T) {b : Int} {K : Nat} (hK : RunK T b K) : ∀ j, j ≤ K → Sv T (iterC T j (startC T))
  | 0, _ => fun p hp ht => by
    have := (hv.pr p hp).2.2.1
    have ht' : p.2 ≤ -1 := ht
    omega
  | j + 1, hj => sv_act hv (sv_hear (sv_iter hv hK j (by omega))) (Int.le_refl _)
/-- All is heard and nothing is set when the carriage stands still for ever. -/
theorem run_end {T : Tr} (hv : VT T) : ∃ d : Car, Sv T d ∧ noneSet d.pins = true ∧ nextP T.prs d.time = maxI ∧ d.heard = d.time ∧ runM T maxI = { d with time := maxI } ∧ d.going = false ∧ d.side = -1 ∧ Inv T d := by
  obtain ⟨K, hK⟩ := run_ex hv (Int.le_refl maxI)
  rw [runM_is hK]
  cases K with
  | zero =>
    have := hK.out
    have e : (iterC T 0 (startC T)).time = 0 := rfl
    rw [e] at this
    unfold maxI at this; omega
  | succ j =>
    have hr := hK.rng j (by omega)
    have hlo := hK.lo j (by omega)
    have hout := hK.out
    have hsv := sv_hear (sv_iter hv hK j (by omega))
    have hkb := hK.kb
    have htb : (iterC T j (startC T)).time ≤ 9999 + 999 * (j : Int) := by
      rcases hr.tb with h | h
      · exact h
      · omega
    have hinv := hear_inv hv hr.inv
    have e : iterC T (j + 1) (startC T) = actC T (hearC T (iterC T j (startC T))) := rfl
    rw [e] at hout ⊢
    have e1 : (hearC T (iterC T j (startC T))).time = (iterC T j (startC T)).time := rfl
    have e2 : (hearC T (iterC T j (startC T))).heard = (iterC T j (startC T)).time := rfl
    generalize hearC T (iterC T j (startC T)) = d at *
    have hmx : maxI = 9223372036854775807 := rfl
    refine ⟨d, hsv, ?_⟩
    have hst := hv.st
    have hlv : ∀ f : Car, f.time = d.time → (leaveC T f).time ≤ d.time + 60 := fun f h => by
      unfold leaveC
      split
      · show f.time + T.step ≤ _; omega
      · show f.time ≤ _; omega
    unfold actC at hout ⊢
    by_cases hg : d.going = true
    · rw [if_pos hg] at hout
      have : maxI ≤ d.time := hout
      omega
    · rw [if_neg hg] at hout ⊢
      by_cases hs : d.side ≠ -1
      · rw [if_pos hs] at hout
        have := hlv { d with side := -1 } rfl
        omega
      · rw [if_neg hs] at hout ⊢
        by_cases hn : noneSet d.pins = true
        · rw [if_pos hn] at hout ⊢
          have ho : maxI ≤ nextP T.prs d.time := hout
          have hle := (next_le d.time T.prs maxI).1
          have hnm : nextP T.prs d.time = maxI := by unfold nextP at ho ⊢; omega
          exact ⟨hn, hnm, by rw [e1, e2], by rw [hnm], by simpa using hg, by omega, hinv⟩
        · rw [if_neg hn] at hout
          by_cases hp : d.pins (sideAt d.up d.pos) = true
          · rw [if_pos hp] at hout
            have hsec := secs_le hv (side_lt (up := d.up) hinv.pos)
            have : maxI ≤ d.time + secs T (sideAt d.up d.pos) := hout
            omega
          · rw [if_neg hp] at hout
            have := hlv d rfl
            omega
/-- Each press is served. -/
theorem all_served {T : Tr} (hv : VT T) : ∀ p ∈ T.prs, ∃ q ∈ (runM T maxI).plays, q.1 = p.1 ∧ p.2 ≤ q.2 := fun p hp => by
  obtain ⟨d, h1, h2, h3, h4, h5, _⟩ := run_end hv
  have hpr := hv.pr p hp
  have hn6 := hv.n6
  have hph : p.2 ≤ d.heard := by
    rcases Int.lt_or_le d.time p.2 with h | h
    · have := (next_le d.time T.prs maxI).2 p hp h
      have e : nextP T.prs d.time ≤ p.2 := this
      rw [h3] at e
      unfold maxI at e; omega
    · omega
  have hpl : (runM T maxI).plays = d.plays := by rw [h5]
  rw [hpl]
  rcases h1 p hp hph with h | h
  · have := (none_iff _).1 h2 p.1.toNat (by omega)
    rw [h] at this; cases this
  · exact h
end Go.Proofs.Ytknaljghpfeikaa
