import Derived.Test.YtknaljghpfeikaaM3
namespace Go.Proofs.Ytknaljghpfeikaa

theorem leave_plays (T : Tr) (c : Car) : (leaveC T c).plays = c.plays ∧ (leaveC T c).heard = c.heard ∧ (leaveC T c).pins = c.pins := by
  unfold leaveC; split <;> exact ⟨rfl, rfl, rfl⟩
/-- A round adds at most one play, at the time of the round. -/
theorem act_plays (T : Tr) (c : Car) : (actC T c).heard = c.heard ∧ ((actC T c).plays = c.plays ∨ (actC T c).plays = c.plays ++ [(((sideAt c.up c.pos : Nat) : Int), c.time)]) := by
  unfold actC
  split
  · exact ⟨rfl, .inl rfl⟩
  · split
    · have := leave_plays T { c with side := -1 }
      exact ⟨this.2.1, .inl this.1⟩
    · split
      · exact ⟨rfl, .inl rfl⟩
      · split
        · exact ⟨rfl, .inr rfl⟩
        · have := leave_plays T c
          exact ⟨this.2.1, .inl this.1⟩
theorem step_plays (T : Tr) (c : Car) : (stepC T c).heard = c.time ∧ ((stepC T c).plays = c.plays ∨ ∃ k : Nat, (stepC T c).plays = c.plays ++ [((k : Int), c.time)]) := by
  have h := act_plays T (hearC T c)
  refine ⟨h.1, ?_⟩
  rcases h.2 with e | e
  · exact .inl e
  · exact .inr ⟨_, e⟩
theorem step_prefix (T : Tr) (c : Car) : c.plays <+: (stepC T c).plays := by
  rcases (step_plays T c).2 with e | ⟨k, e⟩
  · rw [e]; exact List.prefix_rfl
  · rw [e]; exact List.prefix_append _ _
theorem iter_prefix (T : Tr) (c : Car) (i : Nat) : ∀ j, i ≤ j → (iterC T i c).plays <+: (iterC T j c).plays
  | 0, h => by obtain rfl : i = 0 := by omega
               exact List.prefix_rfl
  | j + 1, h => by
    by_cases e : i = j + 1
    · subst e; exact List.prefix_rfl
    · exact (iter_prefix T c i j (by omega)).trans (step_prefix T _)
/-- What holds of a carriage on its way. -/
structure Way (T : Tr) (L : List (Int × Int)) (c : Car) : Prop where
  sv : Sv T c
  he : c.heard ≤ c.time
  ph : ∀ q ∈ c.plays, q.2 ≤ c.heard
  pf : c.plays <+: L
theorem way_iter {T : Tr} (hv : VT T) {b : Int} {K : Nat} (hK : RunK T b K) : ∀ j, j ≤ K → Way T (iterC T K (startC T)).plays (iterC T j (startC T)) := by
  intro j
  induction j with
  | zero =>
    intro _
    exact ⟨sv_iter hv hK 0 (Nat.zero_le _), (by show (-1 : Int) ≤ 0; omega), fun q hq => (by cases hq), iter_prefix T _ 0 K (Nat.zero_le _)⟩
  | succ j ih =>
    intro hj
    have h := ih (by omega)
    have hi := (hK.rng (j + 1) hj).inv.he
    refine ⟨sv_iter hv hK (j + 1) hj, hi.1, fun q hq => ?_, iter_prefix T _ (j + 1) K hj⟩
    have hp := step_plays T (iterC T j (startC T))
    have e1 : (iterC T (j + 1) (startC T)).heard = (iterC T j (startC T)).time := hp.1
    rw [e1]
    have hq' : q ∈ (stepC T (iterC T j (startC T))).plays := hq
    rcases hp.2 with e | ⟨k, e⟩
    · rw [e] at hq'
      have := h.ph q hq'
      have := h.he
      omega
    · rw [e] at hq'
      rcases List.mem_append.1 hq' with h1 | h1
      · have := h.ph q h1
        have := h.he
        omega
      · rw [List.mem_singleton.1 h1]
        exact Int.le_refl _
/-- The first play that serves a press. -/
def FirstP (L : List (Int × Int)) (x y : Int) (q : Int × Int) : Prop := ∃ A B, L = A ++ q :: B ∧ q.1 = x ∧ y ≤ q.2 ∧ ∀ r ∈ A, ¬ (r.1 = x ∧ y ≤ r.2)
theorem first_in {L : List (Int × Int)} {x y : Int} {q r : Int × Int} {P : List (Int × Int)} (h : FirstP L x y q) (hp : P <+: L) (hr : r ∈ P) (h1 : r.1 = x ∧ y ≤ r.2) : q ∈ P := by
  obtain ⟨A, B, rfl, hx, hy, hA⟩ := h
  obtain ⟨Q, e⟩ := hp
  rcases List.append_eq_append_iff.1 e with ⟨M, e1, e2⟩ | ⟨M, e1, e2⟩
  · exact absurd h1 (hA r (by rw [e1]; exact List.mem_append_left _ hr))
  · cases M with
    | nil =>
      rw [List.append_nil] at e1
      subst e1
      exact absurd h1 (hA r hr)
    | cons m M =>
      rw [List.cons_append] at e2
      injection e2 with e3 e4
      rw [e1, e3]
      simp
/-- One more press of a side between a press of it and the beginning of the play that serves this one. -/
theorem hear_twice {T : Tr} {L : List (Int × Int)} {c : Car} (hw : Way T L c) {x y y' : Int} (hm : (x, y) ∈ T.prs) (_h0 : 0 ≤ x) (hy : y ≤ y') {q : Int × Int} (hq : FirstP L x y q) (hyq : y' ≤ q.2) : hearC { T with prs := T.prs ++ [(x, y')] } c = hearC T c := by
  have e : hearS (T.prs ++ [(x, y')]) c.heard c.time c.pins = hearS T.prs c.heard c.time c.pins := by
    unfold hearS
    rw [List.foldl_append]
    show hear1 c.heard c.time (hearS T.prs c.heard c.time c.pins) (x, y') = hearS T.prs c.heard c.time c.pins
    unfold hear1
    by_cases h : c.heard < y' ∧ y' ≤ c.time
    · rw [if_pos h]
      have hs := sv_hear hw.sv (x, y) hm (by show y ≤ c.time; omega)
      rcases hs with hs | ⟨r, hr, h1, h2⟩
      · have hs' : hearS T.prs c.heard c.time c.pins x.toNat = true := hs
        funext i
        by_cases hi : i = x.toNat
        · rw [hi, hs']; simp
        · simp [hi]
      · have hqc := first_in hq hw.pf hr ⟨h1, h2⟩
        have := hw.ph q hqc
        omega
    · rw [if_neg h]
  unfold hearC
  rw [e]
theorem next_snoc (prs : List (Int × Int)) (x y t : Int) : nextP (prs ++ [(x, y)]) t = if t < y then min (nextP prs t) y else nextP prs t := by
  unfold nextP
  rw [List.foldl_append]
  rfl
theorem step_twice {T : Tr} {L : List (Int × Int)} {c : Car} (hw : Way T L c) {x y y' : Int} (hm : (x, y) ∈ T.prs) (h0 : 0 ≤ x ∧ x < 12) (hy : y ≤ y') {q : Int × Int} (hq : FirstP L x y q) (hyq : y' ≤ q.2) : stepC { T with prs := T.prs ++ [(x, y')] } c = stepC T c := by
  unfold stepC
  rw [hear_twice hw hm h0.1 hy hq hyq]
  have hs := sv_hear hw.sv (x, y) hm
  have hh : (hearC T c).heard = (hearC T c).time := rfl
  have hp : (hearC T c).plays = c.plays := rfl
  have ht : (hearC T c).time = c.time := rfl
  have hph := hw.ph
  have hpf := hw.pf
  have hhe := hw.he
  generalize hearC T c = d at *
  unfold actC
  by_cases h1 : d.going = true
  · rw [if_pos h1, if_pos h1]
  · rw [if_neg h1, if_neg h1]
    by_cases h2 : d.side ≠ -1
    · rw [if_pos h2, if_pos h2]; rfl
    · rw [if_neg h2, if_neg h2]
      by_cases h3 : noneSet d.pins = true
      · rw [if_pos h3, if_pos h3]
        have e : nextP (T.prs ++ [(x, y')]) d.time = nextP T.prs d.time := by
          rw [next_snoc]
          by_cases h4 : d.time < y'
          · rw [if_pos h4]
            have h5 : d.time < y := by
              rcases Int.lt_or_le d.time y with h | h
              · exact h
              · rcases hs (by show y ≤ d.heard; omega) with h6 | ⟨r, hr, h7, h8⟩
                · rw [(none_iff _).1 h3 x.toNat (by omega)] at h6
                  cases h6
                · rw [hp] at hr
                  have hqc := first_in hq hpf hr ⟨h7, h8⟩
                  have := hph q hqc
                  omega
            have := (next_le d.time T.prs maxI).2 (x, y) hm h5
            have e2 : nextP T.prs d.time ≤ y := this
            omega
          · rw [if_neg h4]
        show ({ d with time := nextP (T.prs ++ [(x, y')]) d.time } : Car) = _
        rw [e]
      · rw [if_neg h3, if_neg h3]
        by_cases h4 : d.pins (sideAt d.up d.pos) = true
        · rw [if_pos h4, if_pos h4]; rfl
        · rw [if_neg h4, if_neg h4]; rfl
theorem run_twice {T : Tr} (hv : VT T) {x y y' : Int} (hm : (x, y) ∈ T.prs) (hy : y ≤ y') {q : Int × Int} (hq : FirstP (runM T maxI).plays x y q) (hyq : y' ≤ q.2) : runM { T with prs := T.prs ++ [(x, y')] } maxI = runM T maxI := by
  obtain ⟨K, hK⟩ := run_ex hv (Int.le_refl maxI)
  have hx := hv.pr (x, y) hm
  have hn6 := hv.n6
  rw [runM_is hK] at hq
  have key : ∀ j, j ≤ K → iterC { T with prs := T.prs ++ [(x, y')] } j (startC T) = iterC T j (startC T) := by
    intro j
    induction j with
    | zero => intro _; rfl
    | succ j ih =>
      intro hj
      show stepC _ (iterC _ j (startC T)) = stepC T (iterC T j (startC T))
      rw [ih (by omega)]
      exact step_twice (way_iter hv hK j (by omega)) hm (by dsimp only at hx; omega) hy hq hyq
  have e : runM { T with prs := T.prs ++ [(x, y')] } maxI = iterC { T with prs := T.prs ++ [(x, y')] } K (startC T) := by
    unfold runM
    refine goTo_is K 2700 (startC T) hK.kb (fun j hj => ?_) ?_
    · rw [key j (by omega)]; exact hK.lo j hj
    · rw [key K (Nat.le_refl _)]; exact hK.out
  rw [e, key K (Nat.le_refl _), runM_is hK]
end Go.Proofs.Ytknaljghpfeikaa
