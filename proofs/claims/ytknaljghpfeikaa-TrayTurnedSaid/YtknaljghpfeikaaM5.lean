import Derived.Test.YtknaljghpfeikaaM4
namespace Go.Proofs.Ytknaljghpfeikaa

/-- The tray with one more press. -/
def plusT (T : Tr) (x y : Int) : Tr := { T with prs := T.prs ++ [(x, y)] }
theorem hear_before {T : Tr} {c : Car} {x y : Int} (h : c.time < y) : hearC (plusT T x y) c = hearC T c := by
  have e : hearS (T.prs ++ [(x, y)]) c.heard c.time c.pins = hearS T.prs c.heard c.time c.pins := by
    unfold hearS
    rw [List.foldl_append]
    show hear1 c.heard c.time (hearS T.prs c.heard c.time c.pins) (x, y) = hearS T.prs c.heard c.time c.pins
    unfold hear1
    rw [if_neg (fun hh => by have := hh.2; dsimp only at this; omega)]
  unfold hearC plusT
  rw [e]
/-- A round before the press: the same but for the time that the carriage waits for. -/
theorem step_before {T : Tr} {c : Car} {x y : Int} (h : c.time < y) : stepC (plusT T x y) c = stepC T c ∨ (y < (stepC T c).time ∧ stepC (plusT T x y) c = { stepC T c with time := y }) := by
  unfold stepC
  rw [hear_before h]
  have ht : (hearC T c).time = c.time := rfl
  generalize hearC T c = d at *
  unfold actC
  by_cases h1 : d.going = true
  · rw [if_pos h1, if_pos h1]; exact .inl rfl
  · rw [if_neg h1, if_neg h1]
    by_cases h2 : d.side ≠ -1
    · rw [if_pos h2, if_pos h2]; exact .inl rfl
    · rw [if_neg h2, if_neg h2]
      by_cases h3 : noneSet d.pins = true
      · rw [if_pos h3, if_pos h3]
        have e : nextP (plusT T x y).prs d.time = min (nextP T.prs d.time) y := by
          show nextP (T.prs ++ [(x, y)]) d.time = _
          rw [next_snoc, if_pos (by omega)]
        rw [e]
        by_cases h4 : nextP T.prs d.time ≤ y
        · left; rw [Int.min_eq_left h4]
        · right
          rw [Int.min_eq_right (by omega)]
          exact ⟨by show y < nextP T.prs d.time; omega, rfl⟩
      · rw [if_neg h3, if_neg h3]
        by_cases h4 : d.pins (sideAt d.up d.pos) = true
        · rw [if_pos h4, if_pos h4]; exact .inl rfl
        · rw [if_neg h4, if_neg h4]; exact .inl rfl
/-- The same but for the time. -/
def SameB (c c' : Car) : Prop := c'.pos = c.pos ∧ c'.up = c.up ∧ c'.side = c.side ∧ c'.plays = c.plays
theorem run_before {T : Tr} {b x y : Int} {K : Nat} (hby : b ≤ y) (hK : RunK T b K) : (∀ j, j < K → iterC (plusT T x y) j (startC T) = iterC T j (startC T)) ∧ SameB (iterC T K (startC T)) (iterC (plusT T x y) K (startC T)) ∧ b ≤ (iterC (plusT T x y) K (startC T)).time := by
  have key : ∀ j, j < K → iterC (plusT T x y) j (startC T) = iterC T j (startC T) := by
    intro j
    induction j with
    | zero => intro _; rfl
    | succ j ih =>
      intro hj
      show stepC _ (iterC _ j (startC T)) = stepC T (iterC T j (startC T))
      rw [ih (by omega)]
      have h1 := hK.lo j (by omega)
      have h2 : (stepC T (iterC T j (startC T))).time < b := hK.lo (j + 1) hj
      rcases step_before (T := T) (x := x) (y := y) (c := iterC T j (startC T)) (by omega) with h | h
      · exact h
      · have := h.1; omega
  refine ⟨key, ?_⟩
  cases K with
  | zero => exact ⟨⟨rfl, rfl, rfl, rfl⟩, hK.out⟩
  | succ j =>
    have h1 := hK.lo j (by omega)
    have h2 : b ≤ (stepC T (iterC T j (startC T))).time := hK.out
    show SameB (stepC T (iterC T j (startC T))) (stepC (plusT T x y) (iterC (plusT T x y) j (startC T))) ∧ b ≤ (stepC (plusT T x y) (iterC (plusT T x y) j (startC T))).time
    rw [key j (by omega)]
    rcases step_before (T := T) (x := x) (y := y) (c := iterC T j (startC T)) (by omega) with h | h
    · rw [h]; exact ⟨⟨rfl, rfl, rfl, rfl⟩, h2⟩
    · rw [h.2]; exact ⟨⟨rfl, rfl, rfl, rfl⟩, hby⟩
theorem runM_before {T : Tr} (hv : VT T) {b x y : Int} (hbm : b ≤ maxI) (hby : b ≤ y) : SameB (runM T b) (runM (plusT T x y) b) := by
  obtain ⟨K, hK⟩ := run_ex hv hbm
  obtain ⟨h1, h2, h3⟩ := run_before (x := x) hby hK
  have e : runM (plusT T x y) b = iterC (plusT T x y) K (startC T) := by
    unfold runM
    exact goTo_is K 2700 (startC T) hK.kb (fun j hj => by rw [h1 j hj]; exact hK.lo j hj) h3
  rw [e, runM_is hK]
  exact h2
/-- What is played behind a time that was reached. -/
theorem plays_behind {T : Tr} {b y : Int} {K M : Nat} (hM : RunK T b M) (hKM : K ≤ M) (hy : y ≤ (iterC T K (startC T)).time) : ∀ j, K ≤ j → j ≤ M → y ≤ (iterC T j (startC T)).time ∧ ∃ R, (iterC T j (startC T)).plays = (iterC T K (startC T)).plays ++ R ∧ ∀ r ∈ R, y ≤ r.2 := by
  intro j
  induction j with
  | zero =>
    intro h1 _
    obtain rfl : K = 0 := by omega
    exact ⟨hy, [], by simp, fun r hr => by cases hr⟩
  | succ j ih =>
    intro h1 h2
    by_cases e : K = j + 1
    · subst e
      exact ⟨hy, [], by simp, fun r hr => by cases hr⟩
    · obtain ⟨h3, R, h4, h5⟩ := ih (by omega) (by omega)
      have hi := (hM.rng (j + 1) h2).inv.he
      have hp := step_plays T (iterC T j (startC T))
      have e1 : (iterC T (j + 1) (startC T)).heard = (iterC T j (startC T)).time := hp.1
      rw [e1] at hi
      refine ⟨by omega, ?_⟩
      show ∃ R, (stepC T (iterC T j (startC T))).plays = _ ∧ _
      rcases hp.2 with h6 | ⟨k, h6⟩
      · exact ⟨R, by rw [h6, h4], h5⟩
      · refine ⟨R ++ [((k : Int), (iterC T j (startC T)).time)], by rw [h6, h4, List.append_assoc], fun r hr => ?_⟩
        rcases List.mem_append.1 hr with h | h
        · exact h5 r h
        · rw [List.mem_singleton.1 h]; exact h3
/-- The plays of both trays: the same ones before the press. -/
theorem plays_before {T : Tr} (hv : VT T) {x y : Int} (hv' : VT (plusT T x y)) (_hy0 : 0 < y) (hym : y ≤ maxI) :
    ∃ P R R', (runM T maxI).plays = P ++ R ∧ (runM (plusT T x y) maxI).plays = P ++ R' ∧ (∀ r ∈ R, y ≤ r.2) ∧ (∀ r ∈ R', y ≤ r.2) := by
  obtain ⟨K, hK⟩ := run_ex hv hym
  obtain ⟨M, hM⟩ := run_ex hv (Int.le_refl maxI)
  obtain ⟨M', hM'⟩ := run_ex hv' (Int.le_refl maxI)
  obtain ⟨h1, h2, h3⟩ := run_before (x := x) (Int.le_refl y) hK
  have hKM : K ≤ M := by
    rcases Nat.lt_or_ge M K with h | h
    · have := hK.lo M h; have := hM.out; omega
    · exact h
  have hs : startC (plusT T x y) = startC T := rfl
  have hKM' : K ≤ M' := by
    rcases Nat.lt_or_ge M' K with h | h
    · have a := hM'.out
      rw [hs, h1 M' h] at a
      have := hK.lo M' h; omega
    · exact h
  obtain ⟨-, R, e1, e2⟩ := plays_behind hM hKM hK.out M hKM (Nat.le_refl _)
  obtain ⟨-, R', e3, e4⟩ := plays_behind hM' hKM' (by rw [hs]; exact h3) M' hKM' (Nat.le_refl _)
  rw [hs] at e3
  refine ⟨(iterC T K (startC T)).plays, R, R', by rw [runM_is hM]; exact e1, ?_, e2, e4⟩
  rw [runM_is hM', hs, e3, h2.2.2.2]
end Go.Proofs.Ytknaljghpfeikaa
