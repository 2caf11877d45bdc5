import Derived.Test.YtknaljghpfeikaaM14
namespace Go.Proofs.Ytknaljghpfeikaa

/-- What is in both runs, from when one press more is heard: the first one's carriage is ahead. -/
theorem mono_ahead {T : Tr} {x : Nat} {y1 y2 : Int} (hv1 : VT (plusT T x y1)) (hv2 : VT (plusT T x y2)) {K1 K2 : Nat} (hK1 : RunK (plusT T x y1) maxI K1) (hK2 : RunK (plusT T x y2) maxI K2) (hx : x < 12) (S0 : Nat → Bool) (T0 : Int) :
    ∀ (f2 D f1 j1 j2 : Nat) (c1 c2 : Car), RelR (plusT T x y1) K1 f1 j1 c1 → RelR (plusT T x y2) K2 f2 j2 c2 → c1.pos = c2.pos → c1.up = c2.up → c1.time ≤ c2.time → T0 ≤ c1.time →
    D < 2 * T.rcs.length → pathS T.rcs.length (c1.up, c1.pos) D = x → (hearC (plusT T x y1) c1).pins x = true →
    (∀ i, i < D → (hearC (plusT T x y1) c1).pins (pathS T.rcs.length (c1.up, c1.pos) i) = true → S0 (pathS T.rcs.length (c1.up, c1.pos) i) = true ∨ ∃ t, (((pathS T.rcs.length (c1.up, c1.pos) i : Nat) : Int), t) ∈ T.prs ∧ T0 < t ∧ t ≤ c1.time) →
    (∀ i, i < D → (S0 (pathS T.rcs.length (c1.up, c1.pos) i) = true ∨ ∃ t, (((pathS T.rcs.length (c1.up, c1.pos) i : Nat) : Int), t) ∈ T.prs ∧ T0 < t ∧ t ≤ c2.time) → (hearC (plusT T x y2) c2).pins (pathS T.rcs.length (c1.up, c1.pos) i) = true) →
    ∀ s, ((x : Int), s) ∈ playsE (refRun (plusT T x y2) f2 c2) → ∃ s1, ((x : Int), s1) ∈ playsE (refRun (plusT T x y1) f1 c1) ∧ c1.time ≤ s1 ∧ s1 ≤ s := by
  have hr1 : (plusT T x y1).rcs = T.rcs := rfl
  have hr2 : (plusT T x y2).rcs = T.rcs := rfl
  have hn6 := hv1.n6
  rw [hr1] at hn6
  intro f2
  induction f2 with
  | zero => intro D f1 j1 j2 c1 c2 _ _ _ _ _ _ _ _ _ _ _ s hs; cases hs
  | succ f2 ih =>
    intro D f1 j1 j2 c1 c2 h1 h2 hpos hup htt hT0 hD hDx hpx I1 I2 s hs
    have hb1 := h1.bounds hK1
    have hb2 := h2.bounds hK2
    rw [hr1] at hb1; rw [hr2] at hb2
    obtain ⟨g1, hf1, _, hgo1⟩ := rel_next hv1 hK1 h1
    subst hf1
    have hn1 := pin_some hx hpx
    obtain ⟨r1, r2, r3, r4, r5, r6⟩ := rround_nx (plusT T x y1) (hearC (plusT T x y1) c1)
    have e1 : ((hearC (plusT T x y1) c1).up, (hearC (plusT T x y1) c1).pos) = (c1.up, c1.pos) := rfl
    cases D with
    | zero =>
      have hD0 : sideAt (hearC (plusT T x y1) c1).up (hearC (plusT T x y1) c1).pos = x := hDx
      rw [hD0, if_pos hpx] at r6
      refine ⟨c1.time, ?_, Int.le_refl _, ?_⟩
      · rw [refRun_round hn1, r6]
        exact List.mem_append_left _ (by simp; rfl)
      · have := playsE_fr (ref_ge hv2 _ c2 (by rw [hr2]; exact hb2.2.2)) _ hs
        dsimp only at this
        omega
    | succ D =>
      obtain ⟨g2, hf2, hidle2, hgo2⟩ := rel_next hv2 hK2 h2
      obtain rfl : g2 = f2 := by omega
      by_cases hn2 : noneSet (hearC (plusT T x y2) c2).pins = true
      · rw [refRun_idle hn2] at hs
        by_cases hnm : nextP (plusT T x y2).prs c2.time = maxI
        · rw [if_pos hnm] at hs; cases hs
        · rw [if_neg hnm] at hs
          obtain ⟨j2', h2'⟩ := hidle2 hn2 hnm
          have hge : c2.time ≤ nextP (plusT T x y2).prs c2.time := by
            rcases next_is c2.time (plusT T x y2).prs maxI with h | ⟨p, _, h3, h4⟩
            · exact absurd h hnm
            · unfold nextP; rw [h4]; omega
          refine ih (D + 1) (g1 + 1) j1 j2' c1 _ h1 h2' hpos hup (Int.le_trans htt hge) hT0 hD hDx hpx I1 (fun i hi h => ?_) s hs
          rcases h with h | ⟨t, ht, ht0, ht1⟩
          · exact hear_keep (I2 i hi (.inl h))
          · by_cases htc : t ≤ c2.time
            · exact hear_keep (I2 i hi (.inr ⟨t, ht, ht0, htc⟩))
            · exact hear_press (c := { hearC (plusT T x y2) c2 with time := nextP (plusT T x y2).prs c2.time }) (List.mem_append_left _ ht) (by show c2.time < t; omega) ht1
      · have hn2' : noneSet (hearC (plusT T x y2) c2).pins = false := by simpa using hn2
        rw [refRun_round hn2'] at hs
        obtain ⟨j1', h1'⟩ := hgo1 hn1
        obtain ⟨j2', h2'⟩ := hgo2 hn2'
        obtain ⟨q1, q2, q3, q4, q5, q6⟩ := rround_nx (plusT T x y2) (hearC (plusT T x y2) c2)
        have e2 : ((hearC (plusT T x y2) c2).up, (hearC (plusT T x y2) c2).pos) = (c1.up, c1.pos) := by rw [hup, hpos]; rfl
        have es1 : sideAt (hearC (plusT T x y1) c1).up (hearC (plusT T x y1) c1).pos = pathS T.rcs.length (c1.up, c1.pos) 0 := rfl
        have es2 : sideAt (hearC (plusT T x y2) c2).up (hearC (plusT T x y2) c2).pos = pathS T.rcs.length (c1.up, c1.pos) 0 := by rw [hup, hpos]; rfl
        rw [e1, hr1] at r1
        rw [e2, hr2] at q1
        rw [es1] at r2 r3
        rw [es2] at q2 q3 q6
        have hne0 : pathS T.rcs.length (c1.up, c1.pos) 0 ≠ x := by
          rw [← hDx]
          exact path_apart _ (by omega) _ hb1.2.2 c1.up (D + 1) hD 0 (by omega)
        have hnei : ∀ i, i < D + 1 → pathS T.rcs.length (c1.up, c1.pos) (i + 1) ≠ pathS T.rcs.length (c1.up, c1.pos) 0 := fun i hi => Ne.symm (path_apart _ (by omega) _ hb1.2.2 c1.up (i + 1) (by omega) 0 (by omega))
        have hnxi : ∀ i, i < D → pathS T.rcs.length (c1.up, c1.pos) (i + 1) ≠ x := fun i hi => by
          rw [← hDx]
          exact path_apart _ (by omega) _ hb1.2.2 c1.up (D + 1) hD (i + 1) (by omega)
        have hs' : ((x : Int), s) ∈ playsE (refRun (plusT T x y2) g2 (rround (plusT T x y2) (hearC (plusT T x y2) c2)).2) := by
          rcases List.mem_append.1 hs with h | h
          · rw [q6] at h
            split at h
            · simp only [List.mem_singleton, Prod.mk.injEq] at h
              exact absurd (by omega) hne0
            · cases h
          · exact h
        have hm1 : mcost (plusT T x y1) (c1.up, c1.pos) = mcost (plusT T x y2) (c1.up, c1.pos) := rfl
        have hsc : secs (plusT T x y1) (pathS T.rcs.length (c1.up, c1.pos) 0) = secs (plusT T x y2) (pathS T.rcs.length (c1.up, c1.pos) 0) := rfl
        have hsec := secs_le hv2 (k := pathS T.rcs.length (c1.up, c1.pos) 0) (side_lt (up := c1.up) hb1.2.2)
        have ht1 : (hearC (plusT T x y1) c1).time = c1.time := rfl
        have ht2 : (hearC (plusT T x y2) c2).time = c2.time := rfl
        have hpp : (hearC (plusT T x y1) c1).pins (pathS T.rcs.length (c1.up, c1.pos) 0) = true → (hearC (plusT T x y2) c2).pins (pathS T.rcs.length (c1.up, c1.pos) 0) = true := fun h => by
          rcases I1 0 (by omega) h with h | ⟨t, ht, ht0, ht1⟩
          · exact I2 0 (by omega) (.inl h)
          · exact I2 0 (by omega) (.inr ⟨t, ht, ht0, by omega⟩)
        have htle : (rround (plusT T x y1) (hearC (plusT T x y1) c1)).2.time ≤ (rround (plusT T x y2) (hearC (plusT T x y2) c2)).2.time := by
          rw [r2, q2, ht1, ht2, e1, e2, hm1, hsc]
          by_cases h : (hearC (plusT T x y1) c1).pins (pathS T.rcs.length (c1.up, c1.pos) 0) = true
          · rw [if_pos h, if_pos (hpp h)]; omega
          · rw [if_neg h]
            split <;> omega
        have hge2 : c2.time ≤ (rround (plusT T x y2) (hearC (plusT T x y2) c2)).2.time := (rround_pos hv2 (d := hearC (plusT T x y2) c2) (by rw [hr2]; exact hb2.2.2)).2.1
        have hge1 : c1.time ≤ (rround (plusT T x y1) (hearC (plusT T x y1) c1)).2.time := (rround_pos hv1 (d := hearC (plusT T x y1) c1) (by rw [hr1]; exact hb1.2.2)).2.1
        have hpn : ∀ i, pathS T.rcs.length ((rround (plusT T x y1) (hearC (plusT T x y1) c1)).2.up, (rround (plusT T x y1) (hearC (plusT T x y1) c1)).2.pos) i = pathS T.rcs.length (c1.up, c1.pos) (i + 1) := fun i => by rw [r1]; rfl
        obtain ⟨s1, a1, a2, a3⟩ := ih D g1 j1' j2' _ _ h1' h2'
          (by have := r1.trans q1.symm; injection this) (by have := r1.trans q1.symm; injection this) htle (by omega) (by omega) (by rw [hpn]; exact hDx) (hear_keep (by rw [r3 x (fun e => hne0 e.symm)]; exact hpx))
          (fun i hi h => by
            rw [hpn] at h ⊢
            have h' : hearS (plusT T x y1).prs (rround (plusT T x y1) (hearC (plusT T x y1) c1)).2.heard (rround (plusT T x y1) (hearC (plusT T x y1) c1)).2.time (rround (plusT T x y1) (hearC (plusT T x y1) c1)).2.pins (pathS T.rcs.length (c1.up, c1.pos) (i + 1)) = true := h
            rw [hear_at, Bool.or_eq_true, List.any_eq_true, r3 _ (hnei i (by omega))] at h'
            rcases h' with h' | ⟨p, hp, hh⟩
            · rcases I1 (i + 1) (by omega) h' with h2 | ⟨t, ht, ht0, ht1⟩
              · exact .inl h2
              · exact .inr ⟨t, ht, ht0, by omega⟩
            · rw [Bool.and_eq_true, Bool.and_eq_true, decide_eq_true_eq, decide_eq_true_eq, decide_eq_true_eq, r5] at hh
              have hh1 : c1.time < p.2 := hh.1.1
              have hpr := hv1.pr p hp
              rcases List.mem_append.1 (show p ∈ T.prs ++ [((x : Int), y1)] from hp) with hp' | hp'
              · right
                exact ⟨p.2, by rw [show ((pathS T.rcs.length (c1.up, c1.pos) (i + 1) : Nat) : Int) = p.1 by omega]; exact hp', by omega, hh.1.2⟩
              · simp only [List.mem_singleton] at hp'
                rw [hp'] at hh
                exact absurd (show pathS T.rcs.length (c1.up, c1.pos) (i + 1) = x by have := hh.2; dsimp only at this; omega) (hnxi i hi))
          (fun i hi h => by
            rw [hpn] at h ⊢
            rcases h with h | ⟨t, ht, ht0, ht1⟩
            · exact hear_keep (by rw [q3 _ (hnei i (by omega))]; exact I2 (i + 1) (by omega) (.inl h))
            · by_cases htc : t ≤ c2.time
              · exact hear_keep (by rw [q3 _ (hnei i (by omega))]; exact I2 (i + 1) (by omega) (.inr ⟨t, ht, ht0, htc⟩))
              · exact hear_press (List.mem_append_left _ ht) (by rw [q5]; show c2.time < t; omega) ht1)
          s hs'
        exact ⟨s1, by rw [refRun_round hn1]; exact List.mem_append_right _ a1, by omega, a3⟩
/-- A press that is made earlier is not served later. -/
theorem mono_runs {T : Tr} {x : Nat} {y1 y2 : Int} (hv1 : VT (plusT T x y1)) (hv2 : VT (plusT T x y2)) {K1 K2 : Nat} (hK1 : RunK (plusT T x y1) maxI K1) (hK2 : RunK (plusT T x y2) maxI K2) (hx : x < 2 * T.rcs.length) (hy : y1 ≤ y2) (hy2 : y2 ≤ 9999) :
    ∀ (f2 f1 j1 j2 : Nat) (c : Car), RelR (plusT T x y1) K1 f1 j1 c → RelR (plusT T x y2) K2 f2 j2 c → c.time < y1 →
    ∀ s, ((x : Int), s) ∈ playsE (refRun (plusT T x y2) f2 c) → y2 ≤ s → ∃ s1, ((x : Int), s1) ∈ playsE (refRun (plusT T x y1) f1 c) ∧ y1 ≤ s1 ∧ s1 ≤ s := by
  have hr1 : (plusT T x y1).rcs = T.rcs := rfl
  have hr2 : (plusT T x y2).rcs = T.rcs := rfl
  have hn6 := hv1.n6
  rw [hr1] at hn6
  have hm1 : ((x : Int), y1) ∈ (plusT T x y1).prs := List.mem_append_right _ (by simp)
  intro f2
  induction f2 with
  | zero => intro f1 j1 j2 c _ _ _ s hs; cases hs
  | succ f2 ih =>
    intro f1 j1 j2 c h1 h2 hlt s hs hys
    have hb := h1.bounds hK1
    rw [hr1] at hb
    obtain ⟨g1, hf1, hidle1, hgo1⟩ := rel_next hv1 hK1 h1
    obtain ⟨g2, hf2, hidle2, hgo2⟩ := rel_next hv2 hK2 h2
    subst hf1
    obtain rfl : g2 = f2 := by omega
    have hd1 : hearC (plusT T x y1) c = hearC T c := hear_before hlt
    have hd2 : hearC (plusT T x y2) c = hearC T c := hear_before (by omega)
    by_cases hn : noneSet (hearC T c).pins = true
    · have hn1 : noneSet (hearC (plusT T x y1) c).pins = true := by rw [hd1]; exact hn
      have hn2 : noneSet (hearC (plusT T x y2) c).pins = true := by rw [hd2]; exact hn
      have e1 : nextP (plusT T x y1).prs c.time = min (nextP T.prs c.time) y1 := by
        show nextP (T.prs ++ [((x : Int), y1)]) c.time = _
        rw [next_snoc, if_pos hlt]
      have e2 : nextP (plusT T x y2).prs c.time = min (nextP T.prs c.time) y2 := by
        show nextP (T.prs ++ [((x : Int), y2)]) c.time = _
        rw [next_snoc, if_pos (by omega)]
      have hmx : maxI = 9223372036854775807 := rfl
      have hnm1 : nextP (plusT T x y1).prs c.time ≠ maxI := by rw [e1]; omega
      have hnm2 : nextP (plusT T x y2).prs c.time ≠ maxI := by rw [e2]; omega
      obtain ⟨j1', h1'⟩ := hidle1 hn1 hnm1
      obtain ⟨j2', h2'⟩ := hidle2 hn2 hnm2
      rw [refRun_idle hn2, if_neg hnm2] at hs
      rw [refRun_idle hn1, if_neg hnm1]
      have hgt : c.time < nextP T.prs c.time := by
        rcases next_is c.time T.prs maxI with h | ⟨p, _, h3, h4⟩
        · unfold nextP; rw [h]; omega
        · unfold nextP; rw [h4]; exact h3
      rw [hd1, e1] at h1'
      rw [hd2, e2] at h2' hs
      rw [hd1, e1]
      by_cases hnx : nextP T.prs c.time < y1
      · rw [show min (nextP T.prs c.time) y1 = nextP T.prs c.time by omega] at h1' ⊢
        rw [show min (nextP T.prs c.time) y2 = nextP T.prs c.time by omega] at h2' hs
        exact ih g1 j1' j2' _ h1' h2' hnx s hs hys
      · rw [show min (nextP T.prs c.time) y1 = y1 by omega] at h1' ⊢
        obtain ⟨D, hD1, hD2⟩ := path_find _ (by omega) _ hb.2.2 c.up x hx
        have hpx : (hearC (plusT T x y1) { hearC T c with time := y1 }).pins x = true := hear_press hm1 hlt (Int.le_refl _)
        have hap := fun i (hi : i < D) => path_apart _ (by omega) _ hb.2.2 c.up D hD1 i hi
        obtain ⟨s1, a1, a2, a3⟩ := mono_ahead hv1 hv2 hK1 hK2 (by omega) (hearC T c).pins c.time g2 D g1 j1' j2' _ _ h1' h2' rfl rfl (by show y1 ≤ min _ y2; omega) (by show c.time ≤ y1; omega) hD1 hD2 hpx
          (fun i hi h => by
            have h' : hearS (plusT T x y1).prs c.time y1 (hearC T c).pins (pathS T.rcs.length (c.up, c.pos) i) = true := h
            rw [hear_at, Bool.or_eq_true, List.any_eq_true] at h'
            rcases h' with h' | ⟨p, hp, hh⟩
            · exact .inl h'
            · rw [Bool.and_eq_true, Bool.and_eq_true, decide_eq_true_eq, decide_eq_true_eq, decide_eq_true_eq] at hh
              have hpr := hv1.pr p hp
              rcases List.mem_append.1 (show p ∈ T.prs ++ [((x : Int), y1)] from hp) with hp' | hp'
              · exact .inr ⟨p.2, by show (((pathS T.rcs.length (c.up, c.pos) i : Nat) : Int), p.2) ∈ T.prs; rw [show ((pathS T.rcs.length (c.up, c.pos) i : Nat) : Int) = p.1 by omega]; exact hp', hh.1.1, hh.1.2⟩
              · simp only [List.mem_singleton] at hp'
                rw [hp'] at hh
                exact absurd (show pathS T.rcs.length (c.up, c.pos) i = pathS T.rcs.length (c.up, c.pos) D by rw [hD2]; have := hh.2; dsimp only at this; omega) (hap i hi))
          (fun i hi h => by
            rcases h with h | ⟨t, ht, ht0, ht1⟩
            · exact hear_keep h
            · exact hear_press (c := { hearC T c with time := min (nextP T.prs c.time) y2 }) (List.mem_append_left _ ht) ht0 ht1)
          s hs
        exact ⟨s1, a1, a2, a3⟩
    · have hnf : noneSet (hearC T c).pins = false := by simpa using hn
      have hn1 : noneSet (hearC (plusT T x y1) c).pins = false := by rw [hd1]; exact hnf
      have hn2 : noneSet (hearC (plusT T x y2) c).pins = false := by rw [hd2]; exact hnf
      obtain ⟨j1', h1'⟩ := hgo1 hn1
      obtain ⟨j2', h2'⟩ := hgo2 hn2
      have hro1 : rround (plusT T x y1) (hearC T c) = rround T (hearC T c) := rfl
      have hro2 : rround (plusT T x y2) (hearC T c) = rround T (hearC T c) := rfl
      rw [refRun_round hn2, hd2, hro2] at hs
      rw [refRun_round hn1, hd1, hro1]
      rw [hd1, hro1] at h1'
      rw [hd2, hro2] at h2'
      obtain ⟨r1, r2, r3, r4, r5, r6⟩ := rround_nx T (hearC T c)
      have hs' : ((x : Int), s) ∈ playsE (refRun (plusT T x y2) g2 (rround T (hearC T c)).2) := by
        rcases List.mem_append.1 hs with h | h
        · rw [r6] at h
          split at h
          · simp only [List.mem_singleton, Prod.mk.injEq] at h
            have : (hearC T c).time = c.time := rfl
            omega
          · cases h
        · exact h
      by_cases hlt' : (rround T (hearC T c)).2.time < y1
      · obtain ⟨s1, a1, a2⟩ := ih g1 j1' j2' _ h1' h2' hlt' s hs' hys
        exact ⟨s1, List.mem_append_right _ a1, a2⟩
      · have hb' := h1'.bounds hK1
        rw [hr1] at hb'
        obtain ⟨D, hD1, hD2⟩ := path_find _ (by omega) _ hb'.2.2 (rround T (hearC T c)).2.up x hx
        have hap := fun i (hi : i < D) => path_apart _ (by omega) _ hb'.2.2 (rround T (hearC T c)).2.up D hD1 i hi
        have hpx : (hearC (plusT T x y1) (rround T (hearC T c)).2).pins x = true := hear_press hm1 (by rw [r5]; show c.time < y1; exact hlt) (by omega)
        have hge : c.time ≤ (rround T (hearC T c)).2.time := by
          have hv : (hearC T c).pos < T.rcs.length := hb.2.2
          have := (rround_pos hv1 (d := hearC T c) hv).2.1
          exact this
        obtain ⟨s1, a1, a2, a3⟩ := mono_ahead hv1 hv2 hK1 hK2 (by omega) (rround T (hearC T c)).2.pins c.time g2 D g1 j1' j2' _ _ h1' h2' rfl rfl (Int.le_refl _) hge hD1 hD2 hpx
          (fun i hi h => by
            have h' : hearS (plusT T x y1).prs (rround T (hearC T c)).2.heard (rround T (hearC T c)).2.time (rround T (hearC T c)).2.pins (pathS T.rcs.length ((rround T (hearC T c)).2.up, (rround T (hearC T c)).2.pos) i) = true := h
            rw [hear_at, Bool.or_eq_true, List.any_eq_true, r5] at h'
            rcases h' with h' | ⟨p, hp, hh⟩
            · exact .inl h'
            · rw [Bool.and_eq_true, Bool.and_eq_true, decide_eq_true_eq, decide_eq_true_eq, decide_eq_true_eq] at hh
              have hpr := hv1.pr p hp
              rcases List.mem_append.1 (show p ∈ T.prs ++ [((x : Int), y1)] from hp) with hp' | hp'
              · exact .inr ⟨p.2, by rw [show ((pathS T.rcs.length ((rround T (hearC T c)).2.up, (rround T (hearC T c)).2.pos) i : Nat) : Int) = p.1 by omega]; exact hp', hh.1.1, hh.1.2⟩
              · simp only [List.mem_singleton] at hp'
                rw [hp'] at hh
                exact absurd (show pathS T.rcs.length ((rround T (hearC T c)).2.up, (rround T (hearC T c)).2.pos) i = pathS T.rcs.length ((rround T (hearC T c)).2.up, (rround T (hearC T c)).2.pos) D by rw [hD2]; have := hh.2; dsimp only at this; omega) (hap i hi))
          (fun i hi h => by
            rcases h with h | ⟨t, ht, ht0, ht1⟩
            · exact hear_keep h
            · exact hear_press (List.mem_append_left _ ht) (by rw [r5]; exact ht0) ht1)
          s hs'
        exact ⟨s1, List.mem_append_right _ a1, by omega, a3⟩
/-- A press that is made earlier is not served later: in the plays. -/
theorem mono_plays {T : Tr} {x : Nat} {y1 y2 : Int} (hv1 : VT (plusT T x y1)) (hv2 : VT (plusT T x y2)) (hx : x < 2 * T.rcs.length) (h0 : 0 ≤ y1) (hy : y1 ≤ y2) (hy2 : y2 ≤ 9999) {s : Int} (hs : ((x : Int), s) ∈ (runM (plusT T x y2) maxI).plays) (hys : y2 ≤ s) :
    ∃ s1, ((x : Int), s1) ∈ (runM (plusT T x y1) maxI).plays ∧ y1 ≤ s1 ∧ s1 ≤ s := by
  obtain ⟨K1, hK1⟩ := run_ex hv1 (Int.le_refl maxI)
  obtain ⟨K2, hK2⟩ := run_ex hv2 (Int.le_refl maxI)
  rw [(ref_start hv2 (Nat.le_refl 2700)).1] at hs
  rw [(ref_start hv1 (Nat.le_refl 2700)).1]
  have r1 := rel_start (T := plusT T x y1) hK1 (Nat.le_refl 2700)
  have r2 := rel_start (T := plusT T x y2) hK2 (Nat.le_refl 2700)
  have es : startC (plusT T x y2) = startC (plusT T x y1) := rfl
  rw [es] at r2 hs
  have et : (startC (plusT T x y1)).time = 0 := rfl
  by_cases hy1 : 0 < y1
  · exact mono_runs hv1 hv2 hK1 hK2 hx hy hy2 2700 2700 0 0 _ r1 r2 (by rw [et]; exact hy1) s hs hys
  · have hn6 := hv1.n6
    have hr1 : (plusT T x y1).rcs = T.rcs := rfl
    rw [hr1] at hn6
    have hat : T.at0 < T.rcs.length := hv1.at0
    obtain ⟨D, hD1, hD2⟩ := path_find _ (by omega) _ hat T.up0 x hx
    have hap := fun i (hi : i < D) => path_apart _ (by omega) _ hat T.up0 D hD1 i hi
    have hm1 : ((x : Int), y1) ∈ (plusT T x y1).prs := List.mem_append_right _ (by simp)
    have hpx : (hearC (plusT T x y1) (startC (plusT T x y1))).pins x = true := hear_press hm1 (by show (-1 : Int) < y1; omega) (by rw [et]; omega)
    obtain ⟨s1, a1, a2, a3⟩ := mono_ahead hv1 hv2 hK1 hK2 (by omega) (fun _ => false) (-1) 2700 D 2700 0 0 _ _ r1 r2 rfl rfl (Int.le_refl _) (by rw [et]; omega) hD1 hD2 hpx
      (fun i hi h => by
        have h' : hearS (plusT T x y1).prs (-1) 0 (fun _ => false) (pathS T.rcs.length (T.up0, T.at0) i) = true := h
        rw [hear_at, Bool.false_or, List.any_eq_true] at h'
        obtain ⟨p, hp, hh⟩ := h'
        rw [Bool.and_eq_true, Bool.and_eq_true, decide_eq_true_eq, decide_eq_true_eq, decide_eq_true_eq] at hh
        have hpr := hv1.pr p hp
        rcases List.mem_append.1 (show p ∈ T.prs ++ [((x : Int), y1)] from hp) with hp' | hp'
        · exact .inr ⟨p.2, by show (((pathS T.rcs.length (T.up0, T.at0) i : Nat) : Int), p.2) ∈ T.prs; rw [show ((pathS T.rcs.length (T.up0, T.at0) i : Nat) : Int) = p.1 by omega]; exact hp', hh.1.1, hh.1.2⟩
        · simp only [List.mem_singleton] at hp'
          rw [hp'] at hh
          exact absurd (show pathS T.rcs.length (T.up0, T.at0) i = pathS T.rcs.length (T.up0, T.at0) D by rw [hD2]; have := hh.2; dsimp only at this; omega) (hap i hi))
      (fun i hi h => by
        rcases h with h | ⟨t, ht, ht0, ht1⟩
        · cases h
        · exact hear_press (List.mem_append_left _ ht) ht0 ht1)
      s hs
    exact ⟨s1, a1, by rw [et] at a2; omega, a3⟩
/-- A sum over sides. -/
def msum (f : Nat → Int) : List Nat → Int
  | [] => 0
  | k :: l => f k + msum f l
theorem msum_perm {f : Nat → Int} {l l' : List Nat} (h : l.Perm l') : msum f l = msum f l' := by
  induction h with
  | nil => rfl
  | cons x _ ih => show f x + _ = f x + _; rw [ih]
  | swap x y l => show f y + (f x + msum f l) = f x + (f y + msum f l); omega
  | trans _ _ h1 h2 => rw [h1, h2]
theorem msum_app (f : Nat → Int) : ∀ (l l' : List Nat), msum f (l ++ l') = msum f l + msum f l'
  | [], l' => by show msum f l' = 0 + _; omega
  | k :: l, l' => by
    show f k + msum f (l ++ l') = f k + msum f l + msum f l'
    rw [msum_app f l l']; omega
theorem cost_is (T : Tr) : ∀ (D : Nat) (q : Bool × Nat), cost T D q = msum (secs T) ((List.range D).map (pathS T.rcs.length q)) + T.step * ((List.range D).countP (fun i => hasNext T.rcs.length (nxs T.rcs.length i q).1 (nxs T.rcs.length i q).2) : Nat)
  | 0, q => by simp [cost, msum]
  | D + 1, q => by
    have ih := cost_is T D (nx T.rcs.length q)
    have hp : ∀ i, pathS T.rcs.length q (i + 1) = pathS T.rcs.length (nx T.rcs.length q) i := fun _ => rfl
    have hx : ∀ i, nxs T.rcs.length (i + 1) q = nxs T.rcs.length i (nx T.rcs.length q) := fun _ => rfl
    unfold cost mcost
    rw [ih, List.range_succ_eq_map, List.map_cons, List.map_map, List.countP_cons, List.countP_map]
    have h1 : ((pathS T.rcs.length q) ∘ Nat.succ) = pathS T.rcs.length (nx T.rcs.length q) := funext fun i => hp i
    have h2 : ((fun i => hasNext T.rcs.length (nxs T.rcs.length i q).1 (nxs T.rcs.length i q).2) ∘ Nat.succ) = fun i => hasNext T.rcs.length (nxs T.rcs.length i (nx T.rcs.length q)).1 (nxs T.rcs.length i (nx T.rcs.length q)).2 := funext fun i => by show hasNext _ (nxs _ (i + 1) q).1 (nxs _ (i + 1) q).2 = _; rw [hx]
    rw [h1, h2]
    have h3 : nxs T.rcs.length 0 q = q := rfl
    rw [h3]
    show secs T (sideAt q.1 q.2) + _ + _ = secs T (sideAt q.1 q.2) + msum _ _ + _
    by_cases h : hasNext T.rcs.length q.1 q.2 = true
    · rw [if_pos h, if_pos h, Int.natCast_add, Int.mul_add]; omega
    · rw [if_neg h, if_neg h]; simp; omega
def sumR (rs : List (Int × Int)) : Int := rs.foldl (fun a r => a + (r.1 + r.2)) 0
theorem sumR_fold : ∀ (rs : List (Int × Int)) (a : Int), rs.foldl (fun a r => a + (r.1 + r.2)) a = a + sumR rs
  | [], a => by simp [sumR]
  | r :: rs, a => by
    unfold sumR
    rw [List.foldl_cons, List.foldl_cons, sumR_fold rs, sumR_fold rs (0 + _)]
    omega
theorem sum_sides (T : Tr) : ∀ k, k ≤ T.rcs.length → msum (secs T) (List.range (2 * k)) = sumR (T.rcs.take k)
  | 0, _ => by simp [msum, sumR]
  | k + 1, h => by
    have ih := sum_sides T k (by omega)
    have hk : k < T.rcs.length := by omega
    have e1 : List.range (2 * (k + 1)) = List.range (2 * k) ++ [2 * k, 2 * k + 1] := by
      rw [show 2 * (k + 1) = 2 * k + 1 + 1 by omega, List.range_succ, List.range_succ]
      simp
    have e2 : T.rcs.take (k + 1) = T.rcs.take k ++ [T.rcs[k]] := by
      rw [List.take_add_one, List.getElem?_eq_getElem hk]; rfl
    rw [e1, msum_app, ih, e2]
    unfold sumR
    rw [List.foldl_append]
    have g : T.rcs.getD k (0, 0) = T.rcs[k] := by rw [List.getD_eq_getElem?_getD, List.getElem?_eq_getElem hk]; rfl
    have s1 : secs T (2 * k) = T.rcs[k].1 := by
      unfold secs; rw [if_pos (by omega), show 2 * k / 2 = k by omega, g]
    have s2 : secs T (2 * k + 1) = T.rcs[k].2 := by
      unfold secs; rw [if_neg (by omega), show (2 * k + 1) / 2 = k by omega, g]
    show _ + (secs T (2 * k) + (secs T (2 * k + 1) + 0)) = _ + _
    rw [s1, s2]
    omega
theorem cost_all {T : Tr} (hv : VT T) (q : Bool × Nat) (hq : q.2 < T.rcs.length) : cost T (2 * T.rcs.length) q = sumR T.rcs + T.step * (2 * ((T.rcs.length : Int) - 1)) := by
  obtain ⟨up, pos⟩ := q
  have hn1 := hv.n1
  obtain ⟨p1, p2⟩ := path_perm T.rcs.length (by have := hv.n6; omega) pos hq up
  rw [cost_is, p2, msum_perm (List.isPerm_iff.1 p1), sum_sides T _ (Nat.le_refl _), List.take_length]
  congr 2
  omega
/-- Each press waits at the most as long as all sides last, and two ways along the tray. -/
theorem wait_most {T : Tr} (hv : VT T) {x : Nat} {y : Int} (hm : ((x : Int), y) ∈ T.prs) : ∃ s, ((x : Int), s) ∈ (runM T maxI).plays ∧ y ≤ s ∧ s ≤ y + (sumR T.rcs + T.step * (2 * ((T.rcs.length : Int) - 1))) := by
  obtain ⟨K, hK⟩ := run_ex hv (Int.le_refl maxI)
  rw [(ref_start hv (Nat.le_refl 2700)).1]
  have r1 := rel_start (T := T) hK (Nat.le_refl 2700)
  have et : (startC T).time = 0 := rfl
  have hpr := hv.pr _ hm
  dsimp only at hpr
  have hn6 := hv.n6
  by_cases hy1 : 0 < y
  · exact reach0 hv hK x y hm _ (fun q hq => Int.le_of_eq (cost_all hv q hq)) 2700 0 _ r1 (by rw [et]; exact hy1)
  · have hat := hv.at0
    obtain ⟨D, hD1, hD2⟩ := path_find _ (by omega) _ hat T.up0 x (by omega)
    obtain ⟨s, s1, s2, s3⟩ := reach hv hK x (by omega) D 2700 0 _ r1 hD2 (fun i hi => by rw [← hD2]; exact path_apart _ (by omega) _ hat T.up0 D hD1 i hi) (hear_press hm (by show (-1 : Int) < y; omega) (by rw [et]; omega))
    have hc := cost_mono hv D (2 * T.rcs.length) (T.up0, T.at0) hat (by omega)
    rw [cost_all hv (T.up0, T.at0) hat] at hc
    have s3' : s ≤ 0 + cost T D (T.up0, T.at0) := s3
    rw [et] at s2
    exact ⟨s, s1, by omega, by omega⟩
end Go.Proofs.Ytknaljghpfeikaa
