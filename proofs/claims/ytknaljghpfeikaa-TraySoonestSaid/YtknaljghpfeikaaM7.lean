import Derived.Test.YtknaljghpfeikaaM3
namespace Go.Proofs.Ytknaljghpfeikaa

theorem leave_plays (T : Tr) (c : Car) : (leaveC T c).plays = c.plays ∧ (leaveC T c).heard = c.heard ∧ (leaveC T c).pins = c.pins := by
  unfold leaveC; split <;> exact ⟨rfl, rfl, rfl⟩
/-- A round adds at most one play, at the time of the round. -/
theorem act_plays (T : Tr) (c : Car) : (actC T c).heard = c.heard ∧ ((actC T c).plays = c.plays ∨ (actC T c).plays = c.plays ++ [(((sideAt c.up c.pos : Nat) : Int), c.time)]) := by
  unfold actC
  split
  · exact ⟨rfl, .inl rfl⟩
  · split
    · have := leave_plays T { c with side := -1 }
      exact ⟨this.2.1, .inl this.1⟩
    · split
      · exact ⟨rfl, .inl rfl⟩
      · split
        · exact ⟨rfl, .inr rfl⟩
        · have := leave_plays T c
          exact ⟨this.2.1, .inl this.1⟩
theorem step_plays (T : Tr) (c : Car) : (stepC T c).heard = c.time ∧ ((stepC T c).plays = c.plays ∨ ∃ k : Nat, (stepC T c).plays = c.plays ++ [((k : Int), c.time)]) := by
  have h := act_plays T (hearC T c)
  refine ⟨h.1, ?_⟩
  rcases h.2 with e | e
  · exact .inl e
  · exact .inr ⟨_, e⟩
theorem step_prefix (T : Tr) (c : Car) : c.plays <+: (stepC T c).plays := by
  rcases (step_plays T c).2 with e | ⟨k, e⟩
  · rw [e]; exact List.prefix_rfl
  · rw [e]; exact List.prefix_append _ _
theorem iter_prefix (T : Tr) (c : Car) (i : Nat) : ∀ j, i ≤ j → (iterC T i c).plays <+: (iterC T j c).plays
  | 0, h => by obtain rfl : i = 0 := by omega
               exact List.prefix_rfl
  | j + 1, h => by
    by_cases e : i = j + 1
    · subst e; exact List.prefix_rfl
    · exact (iter_prefix T c i j (by omega)).trans (step_prefix T _)
/-- What holds of a carriage on its way. -/
structure Way (T : Tr) (L : List (Int × Int)) (c : Car) : Prop where
  sv : Sv T c
  he : c.heard ≤ c.time
  ph : ∀ q ∈ c.plays, q.2 ≤ c.heard
  pf : c.plays <+: L
theorem way_iter {T : Tr} (hv : VT T) {b : Int} {K : Nat} (hK : RunK T b K) : ∀ j, j ≤ K → Way T (iterC T K (startC T)).plays (iterC T j (startC T)) := by
  intro j
  induction j with
  | zero =>
    intro _
    exact ⟨sv_iter hv hK 0 (Nat.zero_le _), (by show (-1 : Int) ≤ 0; omega), fun q hq => (by cases hq), iter_prefix T _ 0 K (Nat.zero_le _)⟩
  | succ j ih =>
    intro hj
    have h := ih (by omega)
    have hi := (hK.rng (j + 1) hj).inv.he
    refine ⟨sv_iter hv hK (j + 1) hj, hi.1, fun q hq => ?_, iter_prefix T _ (j + 1) K hj⟩
    have hp := step_plays T (iterC T j (startC T))
    have e1 : (iterC T (j + 1) (startC T)).heard = (iterC T j (startC T)).time := hp.1
    rw [e1]
    have hq' : q ∈ (stepC T (iterC T j (startC T))).plays := hq
    rcases hp.2 with e | ⟨k, e⟩
    · rw [e] at hq'
      have := h.ph q hq'
      have := h.he
      omega
    · rw [e] at hq'
      rcases List.mem_append.1 hq' with h1 | h1
      · have := h.ph q h1
        have := h.he
        omega
      · rw [List.mem_singleton.1 h1]
        exact Int.le_refl _
/-- The first play that serves a press. -/
def FirstP (L : List (Int × Int)) (x y : Int) (q : Int × Int) : Prop := ∃ A B, L = A ++ q :: B ∧ q.1 = x ∧ y ≤ q.2 ∧ ∀ r ∈ A, ¬ (r.1 = x ∧ y ≤ r.2)
theorem first_in {L : List (Int × Int)} {x y : Int} {q r : Int × Int} {P : List (Int × Int)} (h : FirstP L x y q) (hp : P <+: L) (hr : r ∈ P) (h1 : r.1 = x ∧ y ≤ r.2) : q ∈ P := by
  obtain ⟨A, B, rfl, hx, hy, hA⟩ := h
  obtain ⟨Q, e⟩ := hp
  rcases List.append_eq_append_iff.1 e with ⟨M, e1, e2⟩ | ⟨M, e1, e2⟩
  · exact absurd h1 (hA r (by rw [e1]; exact List.mem_append_left _ hr))
  · cases M with
    | nil =>
      rw [List.append_nil] at e1
      subst e1
      exact absurd h1 (hA r hr)
    | cons m M =>
      rw [List.cons_append] at e2
      injection e2 with e3 e4
      rw [e1, e3]
      simp
/-- One more press of a side between a press of it and the beginning of the play that serves this one. -/
theorem hear_twice {T : Tr} {L : List (Int × Int)} {c : Car} (hw : Way T L c) {x y y' : Int} (hm : (x, y) ∈ T.prs) (_h0 : 0 ≤ x) (hy : y ≤ y') {q : Int × Int} (hq : FirstP L x y q) (hyq : y' ≤ q.2) : hearC { T with prs := T.prs ++ [(x, y')] } c = hearC T c := by
  have e : hearS (T.prs ++ [(x, y')]) c.heard c.time c.pins = hearS T.prs c.heard c.time c.pins := by
    unfold hearS
    rw [List.foldl_append]
    show hear1 c.heard c.time (hearS T.prs c.heard c.time c.pins) (x, y') = hearS T.prs c.heard c.time c.pins
    unfold hear1
    by_cases h : c.heard < y' ∧ y' ≤ c.time
    · rw [if_pos h]
      have hs := sv_hear hw.sv (x, y) hm (by show y ≤ c.time; omega)
      rcases hs with hs | ⟨r, hr, h1, h2⟩
      · have hs' : hearS T.prs c.heard c.time c.pins x.toNat = true := hs
        funext i
        by_cases hi : i = x.toNat
        · rw [hi, hs']; simp
        · simp [hi]
      · have hqc := first_in hq hw.pf hr ⟨h1, h2⟩
        have := hw.ph q hqc
        omega
    · rw [if_neg h]
  unfold hearC
  rw [e]
theorem next_snoc (prs : List (Int × Int)) (x y t : Int) : nextP (prs ++ [(x, y)]) t = if t < y then min (nextP prs t) y else nextP prs t := by
  unfold nextP
  rw [List.foldl_append]
  rfl
theorem step_twice {T : Tr} {L : List (Int × Int)} {c : Car} (hw : Way T L c) {x y y' : Int} (hm : (x, y) ∈ T.prs) (h0 : 0 ≤ x ∧ x < 12) (hy : y ≤ y') {q : Int × Int} (hq : FirstP L x y q) (hyq : y' ≤ q.2) : stepC { T with prs := T.prs ++ [(x, y')] } c = stepC T c := by
  unfold stepC
  rw [hear_twice hw hm h0.1 hy hq hyq]
  have hs := sv_hear hw.sv (x, y) hm
  have hh : (hearC T c).heard = (hearC T c).time := rfl
  have hp : (hearC T c).plays = c.plays := rfl
  have ht : (hearC T c).time = c.time := rfl
  have hph := hw.ph
  have hpf := hw.pf
  have hhe := hw.he
  generalize hearC T c = d at *
  unfold actC
  by_cases h1 : d.going = true
  · rw [if_pos h1, if_pos h1]
  · rw [if_neg h1, if_neg h1]
    by_cases h2 : d.side ≠ -1
    · rw [if_pos h2, if_pos h2]; rfl
    · rw [if_neg h2, if_neg h2]
      by_cases h3 : noneSet d.pins = true
      · rw [if_pos h3, if_pos h3]
        have e : nextP (T.prs ++ [(x, y')]) d.time = nextP T.prs d.time := by
          rw [next_snoc]
          by_cases h4 : d.time < y'
          · rw [if_pos h4]
            have h5 : d.time < y := by
              rcases Int.lt_or_le d.time y with h | h
              · exact h
              · rcases hs (by show y ≤ d.heard; omega) with h6 | ⟨r, hr, h7, h8⟩
                · rw [(none_iff _).1 h3 x.toNat (by omega)] at h6
                  cases h6
                · rw [hp] at hr
                  have hqc := first_in hq hpf hr ⟨h7, h8⟩
                  have := hph q hqc
                  omega
            have := (next_le d.time T.prs maxI).2 (x, y) hm h5
            have e2 : nextP T.prs d.time ≤ y := this
            omega
          · rw [if_neg h4]
        show ({ d with time := nextP (T.prs ++ [(x, y')]) d.time } : Car) = _
        rw [e]
      · rw [if_neg h3, if_neg h3]
        by_cases h4 : d.pins (sideAt d.up d.pos) = true
        · rw [if_pos h4, if_pos h4]; rfl
        · rw [if_neg h4, if_neg h4]; rfl
theorem run_twice {T : Tr} (hv : VT T) {x y y' : Int} (hm : (x, y) ∈ T.prs) (hy : y ≤ y') {q : Int × Int} (hq : FirstP (runM T maxI).plays x y q) (hyq : y' ≤ q.2) : runM { T with prs := T.prs ++ [(x, y')] } maxI = runM T maxI := by
  obtain ⟨K, hK⟩ := run_ex hv (Int.le_refl maxI)
  have hx := hv.pr (x, y) hm
  have hn6 := hv.n6
  rw [runM_is hK] at hq
  have key : ∀ j, j ≤ K → iterC { T with prs := T.prs ++ [(x, y')] } j (startC T) = iterC T j (startC T) := by
    intro j
    induction j with
    | zero => intro _; rfl
    | succ j ih =>
      intro hj
      show stepC _ (iterC _ j (startC T)) = stepC T (iterC T j (startC T))
      rw [ih (by omega)]
      exact step_twice (way_iter hv hK j (by omega)) hm (by dsimp only at hx; omega) hy hq hyq
  have e : runM { T with prs := T.prs ++ [(x, y')] } maxI = iterC { T with prs := T.prs ++ [(x, y')] } K (startC T) := by
    unfold runM
    refine goTo_is K 2700 (startC T) hK.kb (fun j hj => ?_) ?_
    · rw [key j (by omega)]; exact hK.lo j hj
    · rw [key K (Nat.le_refl _)]; exact hK.out
  rw [e, key K (Nat.le_refl _), runM_is hK]
end Go.Proofs.Ytknaljghpfeikaa
namespace Go.Proofs.Ytknaljghpfeikaa

/-- The tray with one more press. -/
def plusT (T : Tr) (x y : Int) : Tr := { T with prs := T.prs ++ [(x, y)] }
theorem hear_before {T : Tr} {c : Car} {x y : Int} (h : c.time < y) : hearC (plusT T x y) c = hearC T c := by
  have e : hearS (T.prs ++ [(x, y)]) c.heard c.time c.pins = hearS T.prs c.heard c.time c.pins := by
    unfold hearS
    rw [List.foldl_append]
    show hear1 c.heard c.time (hearS T.prs c.heard c.time c.pins) (x, y) = hearS T.prs c.heard c.time c.pins
    unfold hear1
    rw [if_neg (fun hh => by have := hh.2; dsimp only at this; omega)]
  unfold hearC plusT
  rw [e]
/-- A round before the press: the same but for the time that the carriage waits for. -/
theorem step_before {T : Tr} {c : Car} {x y : Int} (h : c.time < y) : stepC (plusT T x y) c = stepC T c ∨ (y < (stepC T c).time ∧ stepC (plusT T x y) c = { stepC T c with time := y }) := by
  unfold stepC
  rw [hear_before h]
  have ht : (hearC T c).time = c.time := rfl
  generalize hearC T c = d at *
  unfold actC
  by_cases h1 : d.going = true
  · rw [if_pos h1, if_pos h1]; exact .inl rfl
  · rw [if_neg h1, if_neg h1]
    by_cases h2 : d.side ≠ -1
    · rw [if_pos h2, if_pos h2]; exact .inl rfl
    · rw [if_neg h2, if_neg h2]
      by_cases h3 : noneSet d.pins = true
      · rw [if_pos h3, if_pos h3]
        have e : nextP (plusT T x y).prs d.time = min (nextP T.prs d.time) y := by
          show nextP (T.prs ++ [(x, y)]) d.time = _
          rw [next_snoc, if_pos (by omega)]
        rw [e]
        by_cases h4 : nextP T.prs d.time ≤ y
        · left; rw [Int.min_eq_left h4]
        · right
          rw [Int.min_eq_right (by omega)]
          exact ⟨by show y < nextP T.prs d.time; omega, rfl⟩
      · rw [if_neg h3, if_neg h3]
        by_cases h4 : d.pins (sideAt d.up d.pos) = true
        · rw [if_pos h4, if_pos h4]; exact .inl rfl
        · rw [if_neg h4, if_neg h4]; exact .inl rfl
/-- The same but for the time. -/
def SameB (c c' : Car) : Prop := c'.pos = c.pos ∧ c'.up = c.up ∧ c'.side = c.side ∧ c'.plays = c.plays
theorem run_before {T : Tr} {b x y : Int} {K : Nat} (hby : b ≤ y) (hK : RunK T b K) : (∀ j, j < K → iterC (plusT T x y) j (startC T) = iterC T j (startC T)) ∧ SameB (iterC T K (startC T)) (iterC (plusT T x y) K (startC T)) ∧ b ≤ (iterC (plusT T x y) K (startC T)).time := by
  have key : ∀ j, j < K → iterC (plusT T x y) j (startC T) = iterC T j (startC T) := by
    intro j
    induction j with
    | zero => intro _; rfl
    | succ j ih =>
      intro hj
      show stepC _ (iterC _ j (startC T)) = stepC T (iterC T j (startC T))
      rw [ih (by omega)]
      have h1 := hK.lo j (by omega)
      have h2 : (stepC T (iterC T j (startC T))).time < b := hK.lo (j + 1) hj
      rcases step_before (T := T) (x := x) (y := y) (c := iterC T j (startC T)) (by omega) with h | h
      · exact h
      · have := h.1; omega
  refine ⟨key, ?_⟩
  cases K with
  | zero => exact ⟨⟨rfl, rfl, rfl, rfl⟩, hK.out⟩
  | succ j =>
    have h1 := hK.lo j (by omega)
    have h2 : b ≤ (stepC T (iterC T j (startC T))).time := hK.out
    show SameB (stepC T (iterC T j (startC T))) (stepC (plusT T x y) (iterC (plusT T x y) j (startC T))) ∧ b ≤ (stepC (plusT T x y) (iterC (plusT T x y) j (startC T))).time
    rw [key j (by omega)]
    rcases step_before (T := T) (x := x) (y := y) (c := iterC T j (startC T)) (by omega) with h | h
    · rw [h]; exact ⟨⟨rfl, rfl, rfl, rfl⟩, h2⟩
    · rw [h.2]; exact ⟨⟨rfl, rfl, rfl, rfl⟩, hby⟩
theorem runM_before {T : Tr} (hv : VT T) {b x y : Int} (hbm : b ≤ maxI) (hby : b ≤ y) : SameB (runM T b) (runM (plusT T x y) b) := by
  obtain ⟨K, hK⟩ := run_ex hv hbm
  obtain ⟨h1, h2, h3⟩ := run_before (x := x) hby hK
  have e : runM (plusT T x y) b = iterC (plusT T x y) K (startC T) := by
    unfold runM
    exact goTo_is K 2700 (startC T) hK.kb (fun j hj => by rw [h1 j hj]; exact hK.lo j hj) h3
  rw [e, runM_is hK]
  exact h2
/-- What is played behind a time that was reached. -/
theorem plays_behind {T : Tr} {b y : Int} {K M : Nat} (hM : RunK T b M) (hKM : K ≤ M) (hy : y ≤ (iterC T K (startC T)).time) : ∀ j, K ≤ j → j ≤ M → y ≤ (iterC T j (startC T)).time ∧ ∃ R, (iterC T j (startC T)).plays = (iterC T K (startC T)).plays ++ R ∧ ∀ r ∈ R, y ≤ r.2 := by
  intro j
  induction j with
  | zero =>
    intro h1 _
    obtain rfl : K = 0 := by omega
    exact ⟨hy, [], by simp, fun r hr => by cases hr⟩
  | succ j ih =>
    intro h1 h2
    by_cases e : K = j + 1
    · subst e
      exact ⟨hy, [], by simp, fun r hr => by cases hr⟩
    · obtain ⟨h3, R, h4, h5⟩ := ih (by omega) (by omega)
      have hi := (hM.rng (j + 1) h2).inv.he
      have hp := step_plays T (iterC T j (startC T))
      have e1 : (iterC T (j + 1) (startC T)).heard = (iterC T j (startC T)).time := hp.1
      rw [e1] at hi
      refine ⟨by omega, ?_⟩
      show ∃ R, (stepC T (iterC T j (startC T))).plays = _ ∧ _
      rcases hp.2 with h6 | ⟨k, h6⟩
      · exact ⟨R, by rw [h6, h4], h5⟩
      · refine ⟨R ++ [((k : Int), (iterC T j (startC T)).time)], by rw [h6, h4, List.append_assoc], fun r hr => ?_⟩
        rcases List.mem_append.1 hr with h | h
        · exact h5 r h
        · rw [List.mem_singleton.1 h]; exact h3
/-- The plays of both trays: the same ones before the press. -/
theorem plays_before {T : Tr} (hv : VT T) {x y : Int} (hv' : VT (plusT T x y)) (_hy0 : 0 < y) (hym : y ≤ maxI) :
    ∃ P R R', (runM T maxI).plays = P ++ R ∧ (runM (plusT T x y) maxI).plays = P ++ R' ∧ (∀ r ∈ R, y ≤ r.2) ∧ (∀ r ∈ R', y ≤ r.2) := by
  obtain ⟨K, hK⟩ := run_ex hv hym
  obtain ⟨M, hM⟩ := run_ex hv (Int.le_refl maxI)
  obtain ⟨M', hM'⟩ := run_ex hv' (Int.le_refl maxI)
  obtain ⟨h1, h2, h3⟩ := run_before (x := x) (Int.le_refl y) hK
  have hKM : K ≤ M := by
    rcases Nat.lt_or_ge M K with h | h
    · have := hK.lo M h; have := hM.out; omega
    · exact h
  have hs : startC (plusT T x y) = startC T := rfl
  have hKM' : K ≤ M' := by
    rcases Nat.lt_or_ge M' K with h | h
    · have a := hM'.out
      rw [hs, h1 M' h] at a
      have := hK.lo M' h; omega
    · exact h
  obtain ⟨-, R, e1, e2⟩ := plays_behind hM hKM hK.out M hKM (Nat.le_refl _)
  obtain ⟨-, R', e3, e4⟩ := plays_behind hM' hKM' (by rw [hs]; exact h3) M' hKM' (Nat.le_refl _)
  rw [hs] at e3
  refine ⟨(iterC T K (startC T)).plays, R, R', by rw [runM_is hM]; exact e1, ?_, e2, e4⟩
  rw [runM_is hM', hs, e3, h2.2.2.2]
end Go.Proofs.Ytknaljghpfeikaa
namespace Go.Proofs.Ytknaljghpfeikaa

theorem hear_cnt1 {h t : Int} (ht : h ≤ t) : ∀ (prs : List (Int × Int)) (s : Nat → Bool), (∀ p ∈ prs, 0 ≤ p.1 ∧ p.1 < 12) → yet prs t + cnt (hearS prs h t s) ≤ yet prs h + cnt s
  | [], s, _ => by simp [yet, hearS]
  | p :: prs, s, hp => by
    have ih := hear_cnt1 ht prs (hear1 h t s p) (fun q hq => hp q (by simp [hq]))
    have h0 := hp p (by simp)
    have e : hearS (p :: prs) h t s = hearS prs h t (hear1 h t s p) := rfl
    rw [e]
    unfold yet at ih ⊢
    simp only [List.countP_cons]
    by_cases h1 : h < p.2
    · by_cases h2 : p.2 ≤ t
      · have hc : cnt (hear1 h t s p) ≤ cnt s + 1 := by
          unfold hear1; rw [if_pos ⟨h1, h2⟩]; exact cnt_on s (by omega)
        have h3 : ¬ t < p.2 := by omega
        simp only [h1, h3, decide_true, decide_false, if_true]
        simp; omega
      · have hc : hear1 h t s p = s := by unfold hear1; rw [if_neg (fun h => h2 h.2)]
        rw [hc] at ih ⊢
        have h3 : t < p.2 := by omega
        simp only [h1, h3, decide_true, if_true]
        omega
    · have hc : hear1 h t s p = s := by unfold hear1; rw [if_neg (fun h => h1 h.1)]
      rw [hc] at ih ⊢
      have h3 : ¬ t < p.2 := by omega
      simp only [h1, h3, decide_false]
      simp; omega
/-- Plays one behind the other, the last one ended at a time. -/
def Seq1 (T : Tr) (L : List (Int × Int)) (b : Int) : Prop := ∀ A q B, L = A ++ q :: B → (∀ r B', B = r :: B' → q.2 + secs T q.1.toNat ≤ r.2) ∧ (B = [] → q.2 + secs T q.1.toNat ≤ b)
theorem Seq1.mono {T : Tr} {L : List (Int × Int)} {b b' : Int} (h : Seq1 T L b) (hb : b ≤ b') : Seq1 T L b' := fun A q B e => ⟨(h A q B e).1, fun h1 => by have := (h A q B e).2 h1; omega⟩
theorem Seq1.snoc {T : Tr} {L : List (Int × Int)} {b b' : Int} {p : Int × Int} (h : Seq1 T L b) (hp : b ≤ p.2) (hb : p.2 + secs T p.1.toNat ≤ b') : Seq1 T (L ++ [p]) b' := fun A q B e => by
  rcases List.eq_nil_or_concat B with rfl | ⟨B0, z, rfl⟩
  · have e1 := List.append_inj' e rfl
    injection e1.2 with e2
    subst e2
    exact ⟨fun r B' h1 => (by cases h1), fun _ => hb⟩
  · rw [List.concat_eq_append] at e ⊢
    have e0 : L ++ [p] = (A ++ q :: B0) ++ [z] := by rw [e]; simp
    have e1 := List.append_inj' e0 rfl
    injection e1.2 with e2
    subst e2
    have h3 := h A q B0 e1.1
    refine ⟨fun r B' h1 => ?_, fun h1 => by simp at h1⟩
    cases B0 with
    | nil =>
      have := h3.2 rfl
      simp at h1
      rw [← h1.1]
      omega
    | cons r0 B1 =>
      simp at h1
      rw [← h1.1]
      exact h3.1 r0 B1 rfl
/-- What is counted of a carriage at work. -/
structure Cn (T : Tr) (c : Car) : Prop where
  n : c.plays.length + yet T.prs c.heard + cnt c.pins ≤ T.prs.length
  s : Seq1 T c.plays c.time
  d : ∀ q ∈ c.plays, 0 ≤ q.1 ∧ q.1 < 2 * (T.rcs.length : Int) ∧ 0 ≤ q.2
theorem cn_leave {T : Tr} (hv : VT T) {c : Car} (h : Cn T c) : Cn T (leaveC T c) := by
  have hst := hv.st
  unfold leaveC
  split
  · exact ⟨h.n, h.s.mono (by show c.time ≤ c.time + T.step; omega), h.d⟩
  · exact ⟨h.n, h.s, h.d⟩
theorem cn_step {T : Tr} (hv : VT T) {c : Car} (hi : Inv T c) (h0 : 0 ≤ c.time) (hm : c.time ≤ maxI) (h : Cn T c) : Cn T (stepC T c) := by
  have hh : Cn T (hearC T c) := by
    refine ⟨?_, h.s, h.d⟩
    have h1 := hear_cnt1 hi.he.1 T.prs c.pins (fun p hp => by have := hv.pr p hp; have := hv.n6; omega)
    have h2 := h.n
    show c.plays.length + yet T.prs c.time + cnt (hearS T.prs c.heard c.time c.pins) ≤ _
    omega
  have hi2 := hear_inv hv hi
  have ht : (hearC T c).time = c.time := rfl
  unfold stepC
  generalize hearC T c = d at *
  unfold actC
  split
  · exact ⟨hh.n, hh.s, hh.d⟩
  · split
    · exact cn_leave hv (c := { d with side := -1 }) ⟨hh.n, hh.s, hh.d⟩
    · split
      · refine ⟨hh.n, hh.s.mono ?_, hh.d⟩
        show d.time ≤ nextP T.prs d.time
        rcases next_is d.time T.prs maxI with h | ⟨p, _, h1, h2⟩
        · unfold nextP; rw [h]; omega
        · unfold nextP; rw [h2]; omega
      · split
        · rename_i hp
          have hl := side_lt (up := d.up) hi2.pos
          have hn6 := hv.n6
          refine ⟨?_, ?_, fun q hq => ?_⟩
          · have h1 := cnt_off d.pins (k := sideAt d.up d.pos) (by omega) hp
            have h2 := hh.n
            show (d.plays ++ [_]).length + yet T.prs d.heard + cnt (fun i => d.pins i && !decide (i = sideAt d.up d.pos)) ≤ _
            rw [List.length_append, List.length_singleton]
            omega
          · exact hh.s.snoc (p := (((sideAt d.up d.pos : Nat) : Int), d.time)) (Int.le_refl _) (Int.le_refl _)
          · rcases List.mem_append.1 (show q ∈ d.plays ++ [(((sideAt d.up d.pos : Nat) : Int), d.time)] from hq) with h | h
            · exact hh.d q h
            · rw [List.mem_singleton.1 h]
              dsimp only
              omega
        · exact cn_leave hv hh
theorem cn_run {T : Tr} (hv : VT T) {b : Int} (hb : b ≤ maxI) : Cn T (runM T b) := by
  obtain ⟨K, hK⟩ := run_ex hv hb
  rw [runM_is hK]
  have key : ∀ j, j ≤ K → Cn T (iterC T j (startC T)) := by
    intro j
    induction j with
    | zero =>
      intro _
      refine ⟨?_, fun A q B e => ?_, fun q hq => by cases hq⟩
      · show 0 + yet T.prs (-1) + 0 ≤ _
        have := List.countP_le_length (l := T.prs) (p := fun p => decide ((-1 : Int) < p.2))
        unfold yet
        omega
      · have : ([] : List (Int × Int)) = A ++ q :: B := e
        simp at this
    | succ j ih =>
      intro hj
      have hr := hK.rng j (by omega)
      have hl := hK.lo j (by omega)
      exact cn_step hv hr.inv hr.t0 (by omega) (ih (by omega))
  exact key K (Nat.le_refl _)
end Go.Proofs.Ytknaljghpfeikaa
namespace Go.Proofs.Ytknaljghpfeikaa

/-- The time of a carriage that has made j rounds. -/
structure Tm (T : Tr) (c : Car) (j : Nat) : Prop where
  t : c.time ≤ 9999 + 999 * (c.plays.length : Int) + 60 * (j : Int) ∨ c.time = maxI
  p : ∀ q ∈ c.plays, q.2 ≤ 9999 + 999 * (c.plays.length : Int) + 60 * (j : Int)
theorem tm_step {T : Tr} (hv : VT T) {c : Car} {j : Nat} (hi : Inv T c) (h : Tm T c j) (hl : c.time < maxI) : Tm T (stepC T c) (j + 1) := by
  have hst := hv.st
  have ht : c.time ≤ 9999 + 999 * (c.plays.length : Int) + 60 * (j : Int) := by
    rcases h.t with h | h
    · exact h
    · omega
  have hp := h.p
  have hi2 := hear_inv hv hi
  have e1 : (hearC T c).time = c.time := rfl
  have e2 : (hearC T c).plays = c.plays := rfl
  unfold stepC
  generalize hearC T c = d at *
  have hlv : ∀ f : Car, f.time = d.time → f.plays = d.plays → Tm T (leaveC T f) (j + 1) := fun f h1 h2 => by
    unfold leaveC
    split
    · exact ⟨.inl (by show f.time + T.step ≤ _ + 999 * (f.plays.length : Int) + _; rw [h1, h2, e2]; omega), fun q hq => by
        have := hp q (by rw [← e2, ← h2]; exact hq)
        show q.2 ≤ 9999 + 999 * (f.plays.length : Int) + _
        rw [h2, e2]; omega⟩
    · exact ⟨.inl (by show f.time ≤ _ + 999 * (f.plays.length : Int) + _; rw [h1, h2, e2]; omega), fun q hq => by
        have := hp q (by rw [← e2, ← h2]; exact hq)
        show q.2 ≤ 9999 + 999 * (f.plays.length : Int) + _
        rw [h2, e2]; omega⟩
  have hsame : ∀ q ∈ d.plays, q.2 ≤ 9999 + 999 * (d.plays.length : Int) + 60 * ((j + 1 : Nat) : Int) := fun q hq => by
    have := hp q (by rw [← e2]; exact hq)
    rw [e2]; omega
  unfold actC
  split
  · exact ⟨.inl (by show d.time ≤ 9999 + 999 * (d.plays.length : Int) + _; rw [e1, e2]; omega), hsame⟩
  · split
    · exact hlv { d with side := -1 } rfl rfl
    · split
      · refine ⟨?_, hsame⟩
        show nextP T.prs d.time ≤ 9999 + 999 * (d.plays.length : Int) + _ ∨ nextP T.prs d.time = maxI
        rcases next_is d.time T.prs maxI with h | ⟨p, hpm, h1, h2⟩
        · right; exact h
        · left
          have := (hv.pr p hpm).2.2.2
          unfold nextP
          rw [h2]
          omega
      · split
        · have hs := secs_le hv (side_lt (up := d.up) hi2.pos)
          refine ⟨.inl ?_, fun q hq => ?_⟩
          · show d.time + secs T (sideAt d.up d.pos) ≤ 9999 + 999 * ((d.plays ++ [_]).length : Int) + _
            rw [List.length_append, List.length_singleton, e2, e1]
            omega
          · show q.2 ≤ 9999 + 999 * ((d.plays ++ [_]).length : Int) + _
            rw [List.length_append, List.length_singleton]
            rcases List.mem_append.1 (show q ∈ d.plays ++ [(((sideAt d.up d.pos : Nat) : Int), d.time)] from hq) with h | h
            · have := hsame q h
              omega
            · rw [List.mem_singleton.1 h]
              show d.time ≤ _
              rw [e1, e2]
              omega
        · exact hlv d rfl rfl
theorem plays_time {T : Tr} (hv : VT T) : ∀ q ∈ (runM T maxI).plays, q.2 ≤ 1000000 := by
  obtain ⟨K, hK⟩ := run_ex hv (Int.le_refl maxI)
  have hc := (cn_run hv (Int.le_refl maxI)).n
  rw [runM_is hK] at hc ⊢
  have key : ∀ j, j ≤ K → Tm T (iterC T j (startC T)) j := by
    intro j
    induction j with
    | zero => intro _; exact ⟨.inl (by show (0 : Int) ≤ 9999 + 999 * ((0 : Nat) : Int) + 60 * ((0 : Nat) : Int); omega), fun q hq => by cases hq⟩
    | succ j ih => intro hj; exact tm_step hv (hK.rng j (by omega)).inv (ih (by omega)) (hK.lo j (by omega))
  intro q hq
  have h1 := (key K (Nat.le_refl _)).p q hq
  have h2 := hK.kb
  have h3 := hv.p13
  omega

/-- What plays, and what has ended. -/
structure Nw (T : Tr) (c : Car) : Prop where
  a : c.side = -1 → ∀ p ∈ c.plays, p.2 + secs T p.1.toNat ≤ c.heard
  b : c.side ≠ -1 → ∃ A t, c.plays = A ++ [(c.side, t)] ∧ c.time = t + secs T c.side.toNat ∧ c.side = (sideAt c.up c.pos : Nat) ∧ t = c.heard ∧ ∀ p ∈ A, p.2 + secs T p.1.toNat ≤ c.heard
theorem nw_leave {T : Tr} {c : Car} (hs : c.side = -1) (h : ∀ p ∈ c.plays, p.2 + secs T p.1.toNat ≤ c.heard) : Nw T (leaveC T c) := by
  unfold leaveC
  split
  · exact ⟨fun _ => h, fun h1 => absurd hs h1⟩
  · exact ⟨fun _ => h, fun h1 => absurd hs h1⟩
theorem nw_step {T : Tr} {c : Car} (hi : Inv T c) (h : Nw T c) : Nw T (stepC T c) := by
  have hh := hi.he.1
  have hg := hi.go
  have ha := h.a
  have hb := h.b
  unfold stepC
  have e1 : (hearC T c).time = c.time := rfl
  have e2 : (hearC T c).plays = c.plays := rfl
  have e3 : (hearC T c).heard = c.time := rfl
  have e4 : (hearC T c).side = c.side := rfl
  have e5 : (hearC T c).going = c.going := rfl
  generalize hearC T c = d at *
  unfold actC
  by_cases h1 : d.going = true
  · rw [if_pos h1]
    have hs := (hg (by rw [← e5]; exact h1)).2
    refine ⟨fun _ p hp => ?_, fun h2 => absurd (show d.side = -1 by rw [e4]; exact hs) h2⟩
    have := ha hs p (by rw [← e2]; exact hp)
    show _ ≤ d.heard
    omega
  · rw [if_neg h1]
    by_cases h2 : d.side ≠ -1
    · rw [if_pos h2]
      obtain ⟨A, t, h3, h4, h5, h6, h7⟩ := hb (by rw [← e4]; exact h2)
      refine nw_leave (c := { d with side := -1 }) rfl fun p hp => ?_
      show _ ≤ d.heard
      have hp' : p ∈ A ++ [(c.side, t)] := by rw [← h3, ← e2]; exact hp
      rcases List.mem_append.1 hp' with h | h
      · have := h7 p h; omega
      · rw [List.mem_singleton.1 h]; dsimp only; omega
    · rw [if_neg h2]
      have hs : c.side = -1 := by omega
      have hall : ∀ p ∈ d.plays, p.2 + secs T p.1.toNat ≤ d.heard := fun p hp => by
        have := ha hs p (by rw [← e2]; exact hp)
        omega
      by_cases h3 : noneSet d.pins = true
      · rw [if_pos h3]
        exact ⟨fun _ => hall, fun h4 => absurd (show d.side = -1 by omega) h4⟩
      · rw [if_neg h3]
        by_cases h4 : d.pins (sideAt d.up d.pos) = true
        · rw [if_pos h4]
          refine ⟨fun h5 => ?_, fun _ => ⟨d.plays, d.time, rfl, ?_, rfl, by show d.time = d.heard; omega, hall⟩⟩
          · have h6 : ((sideAt d.up d.pos : Nat) : Int) = -1 := h5
            omega
          · show d.time + secs T (sideAt d.up d.pos) = d.time + secs T ((sideAt d.up d.pos : Nat) : Int).toNat
            rw [Int.toNat_natCast]
        · rw [if_neg h4]
          exact nw_leave (by omega) hall
/-- The side that plays at a time. -/
def wantF (T : Tr) (time : Int) (acc : Int) (p : Int × Int) : Int := if p.2 ≤ time ∧ time < p.2 + secs T p.1.toNat then p.1 else acc
theorem want_none {T : Tr} {time : Int} : ∀ (L : List (Int × Int)) (acc : Int), (∀ p ∈ L, ¬ (p.2 ≤ time ∧ time < p.2 + secs T p.1.toNat)) → L.foldl (wantF T time) acc = acc
  | [], _, _ => rfl
  | p :: L, acc, h => by
    rw [List.foldl_cons]
    have : wantF T time acc p = acc := by unfold wantF; rw [if_neg (h p (by simp))]
    rw [this]
    exact want_none L acc fun q hq => h q (by simp [hq])
theorem shown {T : Tr} (hv : VT T) {time : Int} (h0 : 0 ≤ time ∧ time ≤ 9999) : (runM T maxI).plays.foldl (wantF T time) (-1) = (runM T (time + 1)).side ∧ ((runM T (time + 1)).side = -1 ∨ (0 ≤ (runM T (time + 1)).side ∧ (runM T (time + 1)).side = (sideAt (runM T (time + 1)).up (runM T (time + 1)).pos : Nat))) := by
  obtain ⟨K, hK⟩ := run_ex hv (b := time + 1) (by unfold maxI; omega)
  obtain ⟨M, hM⟩ := run_ex hv (Int.le_refl maxI)
  have hKM : K ≤ M := by
    rcases Nat.lt_or_ge M K with h | h
    · have := hK.lo M h; have := hM.out; unfold maxI at this; omega
    · exact h
  obtain ⟨-, R, e1, e2⟩ := plays_behind hM hKM hK.out M hKM (Nat.le_refl _)
  have key : ∀ j, j ≤ K → Nw T (iterC T j (startC T)) := by
    intro j
    induction j with
    | zero => intro _; exact ⟨fun _ p hp => (by cases hp), fun h => absurd rfl h⟩
    | succ j ih => intro hj; exact nw_step (hK.rng j (by omega)).inv (ih (by omega))
  have hn := key K (Nat.le_refl _)
  have hhe : (iterC T K (startC T)).heard ≤ time := by
    cases K with
    | zero => show (-1 : Int) ≤ time; omega
    | succ j =>
      have h1 := (step_plays T (iterC T j (startC T))).1
      have h2 := hK.lo j (by omega)
      show (stepC T (iterC T j (startC T))).heard ≤ time
      rw [h1]; omega
  have hout := hK.out
  rw [runM_is hM, runM_is hK, e1, List.foldl_append]
  generalize iterC T K (startC T) = c at *
  have hR : ∀ (acc : Int), R.foldl (wantF T time) acc = acc := fun acc => want_none R acc fun p hp => by have := e2 p hp; omega
  rw [hR]
  by_cases hs : c.side = -1
  · rw [hs]
    exact ⟨want_none _ _ fun p hp => by have := hn.a hs p hp; omega, .inl rfl⟩
  · obtain ⟨A, t, h3, h4, h5, h6, h7⟩ := hn.b hs
    refine ⟨?_, .inr ⟨by rw [h5]; omega, h5⟩⟩
    rw [h3, List.foldl_append, want_none A _ fun p hp => by have := h7 p hp; omega]
    show wantF T time (-1) (c.side, t) = c.side
    unfold wantF
    rw [if_pos ⟨by dsimp only; omega, by dsimp only; omega⟩]
end Go.Proofs.Ytknaljghpfeikaa
