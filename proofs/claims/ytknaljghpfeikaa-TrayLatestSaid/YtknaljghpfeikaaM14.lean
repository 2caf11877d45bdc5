import Derived.Test.YtknaljghpfeikaaM13
namespace Go.Proofs.Ytknaljghpfeikaa

def pathS (n : Nat) (q : Bool × Nat) (i : Nat) : Nat := sideAt (nxs n i q).1 (nxs n i q).2
theorem path_find : ∀ n, n < 7 → ∀ pos, pos < n → ∀ up : Bool, ∀ x, x < 2 * n → ∃ j, j < 2 * n ∧ pathS n (up, pos) j = x := by decide +kernel
theorem path_apart : ∀ n, n < 7 → ∀ pos, pos < n → ∀ up : Bool, ∀ j, j < 2 * n → ∀ i, i < j → pathS n (up, pos) i ≠ pathS n (up, pos) j := by decide +kernel
theorem path_perm : ∀ n, n < 7 → ∀ pos, pos < n → ∀ up : Bool, ((List.range (2 * n)).map (pathS n (up, pos))).isPerm (List.range (2 * n)) = true ∧ (List.range (2 * n)).countP (fun i => hasNext n (nxs n i (up, pos)).1 (nxs n i (up, pos)).2) = 2 * (n - 1) := by decide +kernel
theorem path_succ (n : Nat) (q : Bool × Nat) (i : Nat) : pathS n q (i + 1) = pathS n (nx n q) i := rfl
def mcost (T : Tr) (q : Bool × Nat) : Int := if hasNext T.rcs.length q.1 q.2 then T.step else 0
/-- What it costs at the most to go on so many positions. -/
def cost (T : Tr) : Nat → Bool × Nat → Int
  | 0, _ => 0
  | D + 1, q => secs T (sideAt q.1 q.2) + mcost T q + cost T D (nx T.rcs.length q)
theorem rmove_nx (T : Tr) (e : Car) : ((rmove T e).2.up, (rmove T e).2.pos) = nx T.rcs.length (e.up, e.pos) ∧ (rmove T e).2.time = e.time + mcost T (e.up, e.pos) ∧ (rmove T e).2.pins = e.pins ∧ (rmove T e).2.heard = e.heard ∧ playsE (rmove T e).1 = [] := by
  unfold rmove nx mcost
  by_cases h : hasNext T.rcs.length e.up e.pos = true
  · rw [if_pos h, if_pos h, if_pos h]
    exact ⟨rfl, rfl, rfl, rfl, rfl⟩
  · rw [if_neg h, if_neg h, if_neg h]
    exact ⟨rfl, by simp, rfl, rfl, rfl⟩
/-- A round of the reference: where it leads, when, what it plays. -/
theorem rround_nx (T : Tr) (d : Car) : ((rround T d).2.up, (rround T d).2.pos) = nx T.rcs.length (d.up, d.pos) ∧
    (rround T d).2.time = d.time + (if d.pins (sideAt d.up d.pos) then secs T (sideAt d.up d.pos) else 0) + mcost T (d.up, d.pos) ∧
    (∀ k, k ≠ sideAt d.up d.pos → (rround T d).2.pins k = d.pins k) ∧ (∀ k, (rround T d).2.pins k = true → d.pins k = true) ∧ (rround T d).2.heard = d.heard ∧
    playsE (rround T d).1 = if d.pins (sideAt d.up d.pos) then [(((sideAt d.up d.pos : Nat) : Int), d.time)] else [] := by
  have e1 : playsE (rround T d).1 = playsE (rplay T d).1 ++ playsE (rmove T (rplay T d).2).1 := by
    unfold rround playsE
    rw [List.filterMap_append]
  obtain ⟨m1, m2, m3, m4, m5⟩ := rmove_nx T (rplay T d).2
  rw [m5, List.append_nil] at e1
  have hr : (rround T d).2 = (rmove T (rplay T d).2).2 := rfl
  rw [hr, e1, m1, m2, m3, m4]
  by_cases h : d.pins (sideAt d.up d.pos) = true
  · have hp : rplay T d = ([⟨d.time, d.time + secs T (sideAt d.up d.pos), (d.pos : Nat), wayI d.up, (sideAt d.up d.pos : Nat)⟩], { playC T d (sideAt d.up d.pos) with side := -1 }) := by
      unfold rplay; rw [if_pos h]
    rw [hp, if_pos h, if_pos h]
    refine ⟨rfl, rfl, fun k hk => ?_, fun k hk => ?_, rfl, ?_⟩
    · show (d.pins k && !decide (k = sideAt d.up d.pos)) = _
      simp [hk]
    · have hk' : (d.pins k && !decide (k = sideAt d.up d.pos)) = true := hk
      rw [Bool.and_eq_true] at hk'
      exact hk'.1
    · have h0 : (0 : Int) ≤ ((sideAt d.up d.pos : Nat) : Int) := by omega
      simp [playsE, evPlay]
  · have hp : rplay T d = ([], d) := by unfold rplay; rw [if_neg h]
    rw [hp, if_neg h, if_neg h]
    exact ⟨rfl, by simp, fun k _ => rfl, fun k hk => hk, rfl, rfl⟩
theorem refRun_round {T : Tr} {f : Nat} {c : Car} (hn : noneSet (hearC T c).pins = false) : playsE (refRun T (f + 1) c) = playsE (rround T (hearC T c)).1 ++ playsE (refRun T f (rround T (hearC T c)).2) := by
  have e : refRun T (f + 1) c = (rround T (hearC T c)).1 ++ refRun T f (rround T (hearC T c)).2 := by
    show (if noneSet (hearC T c).pins then _ else _) = _
    rw [hn]; rfl
  rw [e]
  unfold playsE
  rw [List.filterMap_append]
theorem refRun_idle {T : Tr} {f : Nat} {c : Car} (hn : noneSet (hearC T c).pins = true) : playsE (refRun T (f + 1) c) = if nextP T.prs c.time = maxI then [] else playsE (refRun T f { hearC T c with time := nextP T.prs c.time }) := by
  have e : refRun T (f + 1) c = idleE T (hearC T c) :: (if nextP T.prs c.time = maxI then [] else refRun T f { hearC T c with time := nextP T.prs c.time }) := by
    show (if noneSet (hearC T c).pins then _ else _) = _
    rw [hn]; rfl
  rw [e]
  by_cases h : nextP T.prs c.time = maxI
  · rw [if_pos h, if_pos h]; rfl
  · rw [if_neg h, if_neg h]; rfl
theorem pin_some {s : Nat → Bool} {k : Nat} (hk : k < 12) (h : s k = true) : noneSet s = false := by
  cases hn : noneSet s
  · rfl
  · rw [(none_iff s).1 hn k hk] at h; cases h
theorem playsE_fr {E : List Ev} {t : Int} (h : ∀ e ∈ E, t ≤ e.fr) : ∀ q ∈ playsE E, t ≤ q.2 := fun q hq => by
  unfold playsE at hq
  obtain ⟨e, he, h1⟩ := List.mem_filterMap.1 hq
  unfold evPlay at h1
  split at h1
  · injection h1 with h1
    rw [← h1]
    exact h e he
  · cases h1
theorem hear_keep {T : Tr} {c : Car} {k : Nat} (h : c.pins k = true) : (hearC T c).pins k = true := by
  show hearS T.prs c.heard c.time c.pins k = true
  rw [hear_at, h, Bool.true_or]
theorem hear_press {T : Tr} {c : Car} {x : Nat} {y : Int} (hm : ((x : Int), y) ∈ T.prs) (h1 : c.heard < y) (h2 : y ≤ c.time) : (hearC T c).pins x = true := by
  show hearS T.prs c.heard c.time c.pins x = true
  rw [hear_at, Bool.or_eq_true, List.any_eq_true]
  exact .inr ⟨_, hm, by simp [h1, h2]⟩
/-- A side whose pin is set is played when the carriage comes to it. -/
theorem reach {T : Tr} (hv : VT T) {K : Nat} (hK : RunK T maxI K) (x : Nat) (hx : x < 12) : ∀ (D f j : Nat) (c : Car), RelR T K f j c → pathS T.rcs.length (c.up, c.pos) D = x → (∀ i, i < D → pathS T.rcs.length (c.up, c.pos) i ≠ x) → (hearC T c).pins x = true →
    ∃ s, ((x : Int), s) ∈ playsE (refRun T f c) ∧ c.time ≤ s ∧ s ≤ c.time + cost T D (c.up, c.pos) := by
  intro D
  induction D with
  | zero =>
    intro f j c hr hD _ hp
    obtain ⟨f', hf, _, _⟩ := rel_next hv hK hr
    subst hf
    have hn := pin_some hx hp
    obtain ⟨_, _, _, _, _, r6⟩ := rround_nx T (hearC T c)
    have hD' : sideAt (hearC T c).up (hearC T c).pos = x := hD
    rw [hD', if_pos hp] at r6
    refine ⟨c.time, ?_, Int.le_refl _, by show c.time ≤ c.time + 0; omega⟩
    rw [refRun_round hn, r6]
    exact List.mem_append_left _ (by simp; rfl)
  | succ D ih =>
    intro f j c hr hD hlt hp
    obtain ⟨f', hf, _, hgo⟩ := rel_next hv hK hr
    subst hf
    have hn := pin_some hx hp
    obtain ⟨j', hr'⟩ := hgo hn
    obtain ⟨r1, r2, r3, _, r5, _⟩ := rround_nx T (hearC T c)
    have hup : ((hearC T c).up, (hearC T c).pos) = (c.up, c.pos) := rfl
    have h0 : sideAt (hearC T c).up (hearC T c).pos ≠ x := hlt 0 (by omega)
    have hsec := secs_le hv (side_lt (up := c.up) (hr.bounds hK).2.2)
    have hp' : (hearC T (rround T (hearC T c)).2).pins x = true := hear_keep (by rw [r3 x (fun e => h0 e.symm)]; exact hp)
    obtain ⟨s, s1, s2, s3⟩ := ih f' j' _ hr' (by rw [r1, hup]; exact hD) (fun i hi => by rw [r1, hup]; exact hlt (i + 1) (by omega)) hp'
    refine ⟨s, ?_, ?_, ?_⟩
    · rw [refRun_round hn]
      exact List.mem_append_right _ s1
    · have := (rround_pos hv (d := hearC T c) (hr.bounds hK).2.2).2.1
      have e : (hearC T c).time = c.time := rfl
      omega
    · rw [r1, hup] at s3
      have e : (hearC T c).time = c.time := rfl
      rw [r2, e] at s3
      show s ≤ c.time + (secs T (sideAt c.up c.pos) + mcost T (c.up, c.pos) + cost T D (nx T.rcs.length (c.up, c.pos)))
      have e2 : sideAt (hearC T c).up (hearC T c).pos = sideAt c.up c.pos := rfl
      rw [e2, hup] at s3
      split at s3 <;> omega
theorem nx_pos {n : Nat} {q : Bool × Nat} (h : q.2 < n) : (nx n q).2 < n := by
  unfold nx hasNext
  obtain ⟨up, pos⟩ := q
  dsimp only at h ⊢
  cases up <;> simp <;> split <;> simp <;> omega
theorem cost_nn {T : Tr} (hv : VT T) : ∀ (D : Nat) (q : Bool × Nat), q.2 < T.rcs.length → 0 ≤ cost T D q
  | 0, _, _ => Int.le_refl _
  | D + 1, q, h => by
    have h1 := cost_nn hv D (nx T.rcs.length q) (nx_pos h)
    have h2 := secs_le hv (side_lt (up := q.1) h)
    have h3 := hv.st
    unfold cost mcost
    split <;> omega
theorem cost_mono {T : Tr} (hv : VT T) : ∀ (D E : Nat) (q : Bool × Nat), q.2 < T.rcs.length → D ≤ E → cost T D q ≤ cost T E q
  | 0, E, q, h, _ => cost_nn hv E q h
  | D + 1, 0, _, _, hh => by omega
  | D + 1, E + 1, q, h, hh => by
    have := cost_mono hv D E (nx T.rcs.length q) (nx_pos h) (by omega)
    unfold cost
    omega
/-- Each press is served after at most one way up and down. -/
theorem reach0 {T : Tr} (hv : VT T) {K : Nat} (hK : RunK T maxI K) (x : Nat) (y : Int) (hm : ((x : Int), y) ∈ T.prs) (M : Int) (hM : ∀ q : Bool × Nat, q.2 < T.rcs.length → cost T (2 * T.rcs.length) q ≤ M) : ∀ (f j : Nat) (c : Car), RelR T K f j c → c.time < y →
    ∃ s, ((x : Int), s) ∈ playsE (refRun T f c) ∧ y ≤ s ∧ s ≤ y + M := by
  have hpr := hv.pr _ hm
  dsimp only at hpr
  have hn6 := hv.n6
  have hx2 : x < 2 * T.rcs.length := by omega
  intro f
  induction f with
  | zero =>
    intro j c hr _
    obtain ⟨f', hf, _⟩ := rel_next hv hK hr
    omega
  | succ f ih =>
    intro j c hr hlt
    obtain ⟨f', hf, hidle, hgo⟩ := rel_next hv hK hr
    obtain rfl : f' = f := by omega
    have hb := hr.bounds hK
    have hht := hr.ht
    by_cases hn : noneSet (hearC T c).pins = true
    · have hle := (next_le c.time T.prs maxI).2 _ hm hlt
      have hnm : nextP T.prs c.time ≠ maxI := by unfold nextP maxI at *; dsimp only at hle; omega
      obtain ⟨j', hr'⟩ := hidle hn hnm
      rw [refRun_idle hn, if_neg hnm]
      by_cases hlt' : nextP T.prs c.time < y
      · exact ih j' _ hr' hlt'
      · have hey : nextP T.prs c.time = y := by unfold nextP at *; dsimp only at hle; omega
        obtain ⟨D, hD1, hD2⟩ := path_find _ (by omega) _ hb.2.2 c.up x hx2
        obtain ⟨s, s1, s2, s3⟩ := reach hv hK x (by omega) D f' j' _ hr' hD2 (fun i hi => by rw [← hD2]; exact path_apart _ (by omega) _ hb.2.2 c.up D hD1 i hi) (hear_press hm (by show c.time < y; exact hlt) (by show y ≤ nextP T.prs c.time; omega))
        have hc := cost_mono hv D (2 * T.rcs.length) (c.up, c.pos) hb.2.2 (by omega)
        have hMq := hM (c.up, c.pos) hb.2.2
        have s2' : nextP T.prs c.time ≤ s := s2
        have s3' : s ≤ nextP T.prs c.time + cost T D (c.up, c.pos) := s3
        exact ⟨s, s1, by omega, by omega⟩
    · have hn' : noneSet (hearC T c).pins = false := by simpa using hn
      obtain ⟨j', hr'⟩ := hgo hn'
      rw [refRun_round hn']
      obtain ⟨r1, r2, _, _, r5, _⟩ := rround_nx T (hearC T c)
      by_cases hlt' : (rround T (hearC T c)).2.time < y
      · obtain ⟨s, s1, s2⟩ := ih j' _ hr' hlt'
        exact ⟨s, List.mem_append_right _ s1, s2⟩
      · have hb' := hr'.bounds hK
        obtain ⟨D, hD1, hD2⟩ := path_find _ (by omega) _ hb'.2.2 (rround T (hearC T c)).2.up x hx2
        obtain ⟨s, s1, s2, s3⟩ := reach hv hK x (by omega) D f' j' _ hr' hD2 (fun i hi => by rw [← hD2]; exact path_apart _ (by omega) _ hb'.2.2 _ D hD1 i hi) (hear_press hm (by rw [r5]; show c.time < y; exact hlt) (by omega))
        refine ⟨s, List.mem_append_right _ s1, by omega, ?_⟩
        have hup : ((hearC T c).up, (hearC T c).pos) = (c.up, c.pos) := rfl
        rw [r1, hup] at s3
        have hc := cost_mono hv (D + 1) (2 * T.rcs.length) (c.up, c.pos) hb.2.2 (by omega)
        have hMq := hM (c.up, c.pos) hb.2.2
        have hsec := secs_le hv (side_lt (up := c.up) hb.2.2)
        have e : (hearC T c).time = c.time := rfl
        have e2 : sideAt (hearC T c).up (hearC T c).pos = sideAt c.up c.pos := rfl
        rw [e, e2, hup] at r2
        have hcs : cost T (D + 1) (c.up, c.pos) = secs T (sideAt c.up c.pos) + mcost T (c.up, c.pos) + cost T D (nx T.rcs.length (c.up, c.pos)) := rfl
        split at r2 <;> omega
end Go.Proofs.Ytknaljghpfeikaa
