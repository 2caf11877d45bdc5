import Derived.Test.YtknaljghpfeikaaM7
namespace Go.Proofs.Ytknaljghpfeikaa

/-- What the reference says that a carriage does from a time on. -/
structure Ev where
  fr : Int
  til : Int
  pos : Int
  way : Int
  side : Int
def wayI (up : Bool) : Int := if up then 1 else -1
/-- The reference's way on to the next position. -/
def rmove (T : Tr) (e : Car) : List Ev × Car :=
  if hasNext T.rcs.length e.up e.pos then ([⟨e.time, e.time + T.step, (e.pos : Nat), wayI e.up, -1⟩], { e with pos := if e.up then e.pos + 1 else e.pos - 1, time := e.time + T.step, steps := e.steps + 1 })
  else ([], { e with up := !e.up })
def rplay (T : Tr) (d : Car) : List Ev × Car :=
  if d.pins (sideAt d.up d.pos) then ([⟨d.time, d.time + secs T (sideAt d.up d.pos), (d.pos : Nat), wayI d.up, (sideAt d.up d.pos : Nat)⟩], { playC T d (sideAt d.up d.pos) with side := -1 })
  else ([], d)
/-- The reference's round behind the hearing, when a pin is set. -/
def rround (T : Tr) (d : Car) : List Ev × Car := ((rplay T d).1 ++ (rmove T (rplay T d).2).1, (rmove T (rplay T d).2).2)
def neverI : Int := 1099511627776
def idleE (T : Tr) (d : Car) : Ev := ⟨d.time, if nextP T.prs d.time = maxI then neverI else nextP T.prs d.time, (d.pos : Nat), wayI d.up, -2⟩
def refRun (T : Tr) : Nat → Car → List Ev
  | 0, _ => []
  | f + 1, c =>
    if noneSet (hearC T c).pins then idleE T (hearC T c) :: (if nextP T.prs (hearC T c).time = maxI then [] else refRun T f { hearC T c with time := nextP T.prs (hearC T c).time })
    else (rround T (hearC T c)).1 ++ refRun T f (rround T (hearC T c)).2
/-- A carriage at a position, about to hear. -/
def Head (c : Car) : Prop := c.going = false ∧ c.side = -1
theorem hear_hear {T : Tr} {c : Car} {h t : Int} {s : Nat → Bool} (h1 : c.heard = t) (h2 : c.pins = hearS T.prs h t s) (h3 : h ≤ t) (h4 : t ≤ c.time) : hearC T c = { c with pins := hearS T.prs h c.time s, heard := c.time } := by
  unfold hearC
  rw [h1, h2, hear_comp h3 h4]
/-- The moves of the code are those of the reference. -/
theorem sim_leave {T : Tr} (hv : VT T) {e c : Car} (hg : e.going = false) (hs : e.side = -1) (he : e.heard ≤ e.time) (hpl : c = leaveC T e) :
    ∃ m, Head (iterC T m c) ∧ hearC T (iterC T m c) = hearC T (rmove T e).2 ∧ ((hasNext T.rcs.length e.up e.pos = true ∧ m = 1 ∧ c.time = e.time + T.step ∧ c.pos = e.pos ∧ c.up = e.up ∧ c.side = -1) ∨ (hasNext T.rcs.length e.up e.pos = false ∧ m = 0)) ∧ ∀ i, i ≤ m → (iterC T i c).time ≤ e.time + T.step := by
  have hst := hv.st
  subst hpl
  unfold leaveC rmove
  by_cases h : hasNext T.rcs.length e.up e.pos = true
  · rw [if_pos h, if_pos h]
    refine ⟨1, ?_, ?_, .inl ⟨h, rfl, rfl, rfl, rfl, hs⟩, fun i hi => ?_⟩
    · show Head (stepC T _)
      unfold stepC actC
      exact ⟨rfl, hs⟩
    · show hearC T (stepC T { e with going := true, time := e.time + T.step }) = _
      have e1 : stepC T { e with going := true, time := e.time + T.step } = { e with going := false, pos := if e.up then e.pos + 1 else e.pos - 1, time := e.time + T.step, steps := e.steps + 1, pins := hearS T.prs e.heard (e.time + T.step) e.pins, heard := e.time + T.step } := by
        unfold stepC actC
        rfl
      rw [e1]
      unfold hearC
      dsimp only
      rw [hear_comp (by omega) (Int.le_refl _), hg]
    · rcases (show i = 0 ∨ i = 1 by omega) with rfl | rfl
      · exact Int.le_refl _
      · show (stepC T { e with going := true, time := e.time + T.step }).time ≤ _
        unfold stepC actC
        exact Int.le_refl _
  · rw [if_neg h, if_neg h]
    refine ⟨0, ⟨hg, hs⟩, rfl, .inr ⟨by simpa using h, rfl⟩, fun i hi => ?_⟩
    obtain rfl : i = 0 := by omega
    show e.time ≤ _
    omega
theorem iter_add (T : Tr) (c : Car) (i : Nat) : ∀ j, iterC T (i + j) c = iterC T j (iterC T i c)
  | 0 => rfl
  | j + 1 => by
    show stepC T (iterC T (i + j) c) = stepC T (iterC T j (iterC T i c))
    rw [iter_add T c i j]
/-- Hearing once more before the move changes nothing. -/
theorem hear_rmove {T : Tr} (hv : VT T) {e : Car} (he : e.heard ≤ e.time) : hearC T (rmove T (hearC T e)).2 = hearC T (rmove T e).2 := by
  have hst := hv.st
  unfold rmove
  have e1 : (hearC T e).up = e.up := rfl
  have e2 : (hearC T e).pos = e.pos := rfl
  rw [e1, e2]
  by_cases h : hasNext T.rcs.length e.up e.pos = true
  · rw [if_pos h, if_pos h]
    unfold hearC
    dsimp only
    rw [hear_comp he (by omega)]
  · rw [if_neg h, if_neg h]
    unfold hearC
    dsimp only
    rw [hear_comp he (Int.le_refl _)]
/-- A round of the reference is some rounds of the code. -/
theorem sim_round {T : Tr} (hv : VT T) {c : Car} (hh : Head c) (hpos : c.pos < T.rcs.length) (hn : noneSet (hearC T c).pins = false) :
    ∃ m, 1 ≤ m ∧ Head (iterC T m c) ∧ hearC T (iterC T m c) = hearC T (rround T (hearC T c)).2 ∧ ∀ i, i ≤ m → (iterC T i c).time ≤ c.time + 1059 := by
  have hst := hv.st
  have hct : (hearC T c).time = c.time := rfl
  have hg : (hearC T c).going = false := hh.1
  have hs : (hearC T c).side = -1 := hh.2
  have he : (hearC T c).heard = (hearC T c).time := rfl
  have e0 : stepC T c = actC T (hearC T c) := rfl
  replace hpos : (hearC T c).pos < T.rcs.length := hpos
  generalize hearC T c = d at *
  unfold rround rplay
  by_cases hp : d.pins (sideAt d.up d.pos) = true
  · rw [if_pos hp]
    dsimp only
    have e1 : stepC T c = playC T d (sideAt d.up d.pos) := by
      rw [e0]
      unfold actC
      rw [if_neg (by rw [hg]; simp), if_neg (by omega), if_neg (by rw [hn]; simp), if_pos hp]
    have hsd : (playC T d (sideAt d.up d.pos)).side ≠ -1 := by
      show ((sideAt d.up d.pos : Nat) : Int) ≠ -1
      omega
    have e2 : stepC T (playC T d (sideAt d.up d.pos)) = leaveC T { hearC T (playC T d (sideAt d.up d.pos)) with side := -1 } := by
      unfold stepC actC
      rw [if_neg (by show ¬ d.going = true; rw [hg]; simp), if_pos (by show (playC T d (sideAt d.up d.pos)).side ≠ -1; exact hsd)]
    obtain ⟨m, h1, h2, h3, h4⟩ := sim_leave hv (e := { hearC T (playC T d (sideAt d.up d.pos)) with side := -1 }) (c := leaveC T { hearC T (playC T d (sideAt d.up d.pos)) with side := -1 }) hg rfl (Int.le_refl _) rfl
    have e3 : iterC T (2 + m) c = iterC T m (leaveC T { hearC T (playC T d (sideAt d.up d.pos)) with side := -1 }) := by
      rw [iter_add]
      show iterC T m (stepC T (stepC T c)) = _
      rw [e1, e2]
    have hl := side_lt (up := d.up) hpos
    have hsec := secs_le hv hl
    refine ⟨2 + m, by omega, by rw [e3]; exact h1, ?_, fun i hi => ?_⟩
    rotate_left
    · rcases (show i = 0 ∨ i = 1 ∨ ∃ k, i = 2 + k ∧ k ≤ m from if h0 : i = 0 then .inl h0 else if h1 : i = 1 then .inr (.inl h1) else .inr (.inr ⟨i - 2, by omega, by omega⟩)) with rfl | rfl | ⟨k, rfl, hk⟩
      · show c.time ≤ _; omega
      · show (stepC T c).time ≤ _
        rw [e1]
        show d.time + secs T (sideAt d.up d.pos) ≤ _
        omega
      · rw [iter_add]
        show (iterC T k (stepC T (stepC T c))).time ≤ _
        rw [e1, e2]
        have h5 := h4 k hk
        have h6 : ({ hearC T (playC T d (sideAt d.up d.pos)) with side := -1 } : Car).time = d.time + secs T (sideAt d.up d.pos) := rfl
        rw [h6] at h5
        omega
    rw [e3, h2]
    exact hear_rmove hv (e := { playC T d (sideAt d.up d.pos) with side := -1 }) (by show d.heard ≤ d.time + secs T (sideAt d.up d.pos); omega)
  · rw [if_neg hp]
    dsimp only
    have e1 : stepC T c = leaveC T d := by
      rw [e0]
      unfold actC
      rw [if_neg (by rw [hg]; simp), if_neg (by omega), if_neg (by rw [hn]; simp), if_neg hp]
    obtain ⟨m, h1, h2, h3, h4⟩ := sim_leave hv (e := d) (c := stepC T c) hg hs (by omega) e1
    have e3 : iterC T (1 + m) c = iterC T m (stepC T c) := by rw [iter_add]; rfl
    refine ⟨1 + m, by omega, by rw [e3]; exact h1, by rw [e3, h2], fun i hi => ?_⟩
    rcases (show i = 0 ∨ ∃ k, i = 1 + k ∧ k ≤ m from if h0 : i = 0 then .inl h0 else .inr ⟨i - 1, by omega, by omega⟩) with rfl | ⟨k, rfl, hk⟩
    · show c.time ≤ _; omega
    · rw [iter_add]
      show (iterC T k (stepC T c)).time ≤ _
      have := h4 k hk
      omega
def evPlay (e : Ev) : Option (Int × Int) := if 0 ≤ e.side then some (e.side, e.fr) else none
def playsE (E : List Ev) : List (Int × Int) := E.filterMap evPlay
def stepsE (E : List Ev) : Nat := E.countP fun e => decide (e.side = -1)
def fin1 (n : Int) (e : Ev) : Int := if 0 ≤ e.side then e.til else n
/-- What a round's events say of it. -/
theorem rround_is (T : Tr) (d : Car) : (rround T d).2.plays = d.plays ++ playsE (rround T d).1 ∧ (rround T d).2.steps = d.steps + stepsE (rround T d).1 ∧ (rround T d).2.fin = (rround T d).1.foldl fin1 d.fin := by
  have hm : ∀ e : Car, (rmove T e).2.plays = e.plays ++ playsE (rmove T e).1 ∧ (rmove T e).2.steps = e.steps + stepsE (rmove T e).1 ∧ (rmove T e).2.fin = (rmove T e).1.foldl fin1 e.fin := fun e => by
    unfold rmove
    split
    · exact ⟨by simp [playsE, evPlay], by simp [stepsE], rfl⟩
    · exact ⟨by simp [playsE], by simp [stepsE], rfl⟩
  obtain ⟨h1, h2, h3⟩ := hm (rplay T d).2
  have h4 : (rplay T d).2.plays = d.plays ++ playsE (rplay T d).1 ∧ (rplay T d).2.steps = d.steps + stepsE (rplay T d).1 ∧ (rplay T d).2.fin = (rplay T d).1.foldl fin1 d.fin := by
    unfold rplay
    split
    · have h0 : (0 : Int) ≤ ((sideAt d.up d.pos : Nat) : Int) := by omega
      have h5 : ((sideAt d.up d.pos : Nat) : Int) ≠ -1 := by omega
      exact ⟨by simp [playsE, evPlay, playC], by simp [stepsE, playC, h5], by simp [fin1, playC]⟩
    · exact ⟨by simp [playsE], by simp [stepsE], rfl⟩
  refine ⟨?_, ?_, ?_⟩
  · show (rmove T (rplay T d).2).2.plays = _
    rw [h1, h4.1, List.append_assoc]
    congr 1
    unfold rround playsE
    dsimp only
    rw [List.filterMap_append]
  · show (rmove T (rplay T d).2).2.steps = _
    rw [h2, h4.2.1]
    unfold rround stepsE
    dsimp only
    rw [List.countP_append]
    omega
  · show (rmove T (rplay T d).2).2.fin = _
    rw [h3, h4.2.2]
    unfold rround
    dsimp only
    rw [List.foldl_append]
theorem idle_is (T : Tr) (d : Car) : evPlay (idleE T d) = none ∧ decide ((idleE T d).side = -1) = false ∧ ∀ n, fin1 n (idleE T d) = n := by
  refine ⟨rfl, rfl, fun n => rfl⟩
/-- The reference does what the code does. -/
theorem ref_sim {T : Tr} (hv : VT T) {K : Nat} (hK : RunK T maxI K) : ∀ (f j : Nat) (c : Car), j < K → K ≤ j + f → Head (iterC T j (startC T)) → hearC T c = hearC T (iterC T j (startC T)) →
    (iterC T K (startC T)).plays = c.plays ++ playsE (refRun T f c) ∧ (iterC T K (startC T)).steps = c.steps + stepsE (refRun T f c) ∧ (iterC T K (startC T)).fin = (refRun T f c).foldl fin1 c.fin := by
  intro f
  induction f with
  | zero => intro j c h1 h2 _ _; omega
  | succ f ih =>
    intro j c hj hjf hh he
    have hr := hK.rng j (by omega)
    have hlo := hK.lo j hj
    have hkb := hK.kb
    have htb : (iterC T j (startC T)).time ≤ 9999 + 999 * (j : Int) := by
      rcases hr.tb with h | h
      · exact h
      · omega
    have hmx : maxI = 9223372036854775807 := rfl
    have c1 : (hearC T c).plays = c.plays := rfl
    have c2 : (hearC T c).steps = c.steps := rfl
    have c3 : (hearC T c).fin = c.fin := rfl
    unfold refRun
    by_cases hn : noneSet (hearC T c).pins = true
    · rw [if_pos hn]
      have e1 : iterC T (j + 1) (startC T) = { hearC T c with time := nextP T.prs (hearC T c).time } := by
        show stepC T (iterC T j (startC T)) = _
        have hg : (hearC T (iterC T j (startC T))).going = false := hh.1
        have hs : (hearC T (iterC T j (startC T))).side = -1 := hh.2
        unfold stepC
        rw [he] at hn ⊢
        unfold actC
        rw [if_neg (by rw [hg]; simp), if_neg (by omega), if_pos hn]
      obtain ⟨i1, i2, i3⟩ := idle_is T (hearC T c)
      by_cases hx : nextP T.prs (hearC T c).time = maxI
      · rw [if_pos hx]
        have hKj : K = j + 1 := by
          rcases Nat.lt_or_ge (j + 1) K with h | h
          · have := hK.lo (j + 1) h
            rw [e1, hx] at this
            exact absurd this (by show ¬ maxI < maxI; omega)
          · omega
        rw [hKj, e1]
        exact ⟨by simp [playsE, i1, c1], by simp [stepsE, i2, c2], by simp [i3, c3]⟩
      · rw [if_neg hx]
        have hlt : (iterC T (j + 1) (startC T)).time < maxI := by
          rw [e1]
          have := (next_le (hearC T c).time T.prs maxI).1
          show nextP T.prs (hearC T c).time < maxI
          unfold nextP at hx ⊢
          omega
        have hjK : j + 1 < K := by
          rcases Nat.lt_or_ge (j + 1) K with h | h
          · exact h
          · obtain rfl : K = j + 1 := by omega
            have := hK.out
            omega
        have hh2 : Head (iterC T (j + 1) (startC T)) := by
          rw [e1, he]
          exact ⟨hh.1, hh.2⟩
        obtain ⟨k1, k2, k3⟩ := ih (j + 1) { hearC T c with time := nextP T.prs (hearC T c).time } hjK (by omega) hh2 (by rw [e1])
        refine ⟨?_, ?_, ?_⟩
        · rw [k1]
          show (hearC T c).plays ++ _ = _
          rw [c1]
          unfold playsE
          rw [List.filterMap_cons, i1]
        · rw [k2]
          show (hearC T c).steps + _ = _
          rw [c2]
          unfold stepsE
          rw [List.countP_cons, i2]
          simp
        · rw [k3, List.foldl_cons, i3]
          rfl
    · rw [if_neg hn]
      have hnf : noneSet (hearC T (iterC T j (startC T))).pins = false := by rw [← he]; simpa using hn
      obtain ⟨m, m1, m2, m3, m4⟩ := sim_round hv hh hr.inv.pos hnf
      rw [← iter_add] at m2 m3
      have hjm : j + m < K := by
        rcases Nat.lt_or_ge (j + m) K with h | h
        · exact h
        · have h5 := m4 (K - j) (by omega)
          rw [← iter_add, show j + (K - j) = K by omega] at h5
          have := hK.out
          omega
      obtain ⟨r1, r2, r3⟩ := rround_is T (hearC T c)
      obtain ⟨k1, k2, k3⟩ := ih (j + m) (rround T (hearC T c)).2 hjm (by omega) m2 (by rw [m3, he])
      refine ⟨?_, ?_, ?_⟩
      · rw [k1, r1, c1, List.append_assoc]
        congr 1
        unfold playsE
        rw [List.filterMap_append]
      · rw [k2, r2, c2]
        unfold stepsE
        rw [List.countP_append]
        omega
      · rw [k3, r3, c3, List.foldl_append]
theorem ref_start {T : Tr} (hv : VT T) {f : Nat} (hf : 2700 ≤ f) : (runM T maxI).plays = playsE (refRun T f (startC T)) ∧ (runM T maxI).steps = stepsE (refRun T f (startC T)) ∧ (runM T maxI).fin = (refRun T f (startC T)).foldl fin1 0 := by
  obtain ⟨K, hK⟩ := run_ex hv (Int.le_refl maxI)
  have hkb := hK.kb
  have hK0 : 0 < K := by
    rcases Nat.eq_zero_or_pos K with h | h
    · subst h
      have := hK.out
      have e : (iterC T 0 (startC T)).time = 0 := rfl
      rw [e] at this
      unfold maxI at this
      omega
    · exact h
  have h := ref_sim hv hK f 0 (startC T) hK0 (by omega) ⟨rfl, rfl⟩ rfl
  rw [runM_is hK]
  exact ⟨by rw [h.1]; rfl, by rw [h.2.1]; show 0 + _ = _; omega, h.2.2⟩
end Go.Proofs.Ytknaljghpfeikaa
namespace Go.Proofs.Ytknaljghpfeikaa

/-- The reference at work: f rounds are enough. -/
structure RelR (T : Tr) (K f j : Nat) (c : Car) : Prop where
  jK : j < K
  jf : K ≤ j + f
  hj : Head (iterC T j (startC T))
  he : hearC T c = hearC T (iterC T j (startC T))
  hc : Head c
  ht : c.heard ≤ c.time
theorem RelR.time {T : Tr} {K f j : Nat} {c : Car} (h : RelR T K f j c) : c.time = (iterC T j (startC T)).time ∧ c.pos = (iterC T j (startC T)).pos ∧ c.up = (iterC T j (startC T)).up := by
  have he := h.he
  have h1 : (hearC T c).time = (hearC T (iterC T j (startC T))).time := by rw [he]
  have h2 : (hearC T c).pos = (hearC T (iterC T j (startC T))).pos := by rw [he]
  have h3 : (hearC T c).up = (hearC T (iterC T j (startC T))).up := by rw [he]
  exact ⟨h1, h2, h3⟩
theorem RelR.bounds {T : Tr} {K f j : Nat} {c : Car} (hK : RunK T maxI K) (h : RelR T K f j c) : 0 ≤ c.time ∧ c.time ≤ 3000000 ∧ c.pos < T.rcs.length := by
  obtain ⟨h1, h2, _⟩ := h.time
  have hr := hK.rng j (by have := h.jK; omega)
  have hlo := hK.lo j h.jK
  have hkb := hK.kb
  have hj := h.jK
  rw [h1, h2]
  refine ⟨hr.t0, ?_, hr.inv.pos⟩
  rcases hr.tb with h | h
  · omega
  · omega
theorem rround_head {T : Tr} {d : Car} (hg : d.going = false) (hs : d.side = -1) : Head (rround T d).2 := by
  unfold rround rmove rplay Head
  split <;> split <;> first | exact ⟨hg, rfl⟩ | exact ⟨hg, hs⟩
theorem rround_heard {T : Tr} (hv : VT T) {d : Car} (hp : d.pos < T.rcs.length) (h : d.heard ≤ d.time) : (rround T d).2.heard ≤ (rround T d).2.time := by
  have hst := hv.st
  have hsec := secs_le hv (side_lt (up := d.up) hp)
  unfold rround rmove rplay
  split <;> split
  · show d.heard ≤ d.time + secs T (sideAt d.up d.pos) + T.step; omega
  · show d.heard ≤ d.time + secs T (sideAt d.up d.pos); omega
  · show d.heard ≤ d.time + T.step; omega
  · exact h
theorem rel_start {T : Tr} {K f : Nat} (hK : RunK T maxI K) (hf : 2700 ≤ f) : RelR T K f 0 (startC T) := by
  have hkb := hK.kb
  have hK0 : 0 < K := by
    rcases Nat.eq_zero_or_pos K with h | h
    · subst h
      have := hK.out
      have e : (iterC T 0 (startC T)).time = 0 := rfl
      rw [e] at this
      unfold maxI at this
      omega
    · exact h
  exact ⟨hK0, by omega, ⟨rfl, rfl⟩, rfl, ⟨rfl, rfl⟩, by show (-1 : Int) ≤ 0; omega⟩
theorem rel_next {T : Tr} (hv : VT T) {K f j : Nat} {c : Car} (hK : RunK T maxI K) (h : RelR T K f j c) :
    ∃ f', f = f' + 1 ∧ (noneSet (hearC T c).pins = true → nextP T.prs c.time ≠ maxI → ∃ j', RelR T K f' j' { hearC T c with time := nextP T.prs c.time }) ∧ (noneSet (hearC T c).pins = false → ∃ j', RelR T K f' j' (rround T (hearC T c)).2) := by
  obtain ⟨hj, hjf, hh, he, hc, ht⟩ := h
  have hr := hK.rng j (by omega)
  have hlo := hK.lo j hj
  have hkb := hK.kb
  have htb : (iterC T j (startC T)).time ≤ 9999 + 999 * (j : Int) := by
    rcases hr.tb with h | h
    · exact h
    · omega
  have hmx : maxI = 9223372036854775807 := rfl
  refine ⟨f - 1, by omega, fun hn hx => ?_, fun hn => ?_⟩
  · have e1 : iterC T (j + 1) (startC T) = { hearC T c with time := nextP T.prs c.time } := by
      show stepC T (iterC T j (startC T)) = _
      have hg : (hearC T (iterC T j (startC T))).going = false := hh.1
      have hs : (hearC T (iterC T j (startC T))).side = -1 := hh.2
      have htt : c.time = (hearC T (iterC T j (startC T))).time := by rw [← he]; rfl
      unfold stepC
      rw [he] at hn
      rw [he, htt]
      unfold actC
      rw [if_neg (by rw [hg]; simp), if_neg (by omega), if_pos hn]
    have hnl := (next_le c.time T.prs maxI).1
    have hlt : (iterC T (j + 1) (startC T)).time < maxI := by
      rw [e1]
      show nextP T.prs c.time < maxI
      unfold nextP at hx ⊢
      omega
    have hjK : j + 1 < K := by
      rcases Nat.lt_or_ge (j + 1) K with h | h
      · exact h
      · obtain rfl : K = j + 1 := by omega
        have := hK.out
        omega
    have hge : c.time ≤ nextP T.prs c.time := by
      rcases next_is c.time T.prs maxI with h | ⟨p, _, h1, h2⟩
      · exact absurd h hx
      · unfold nextP; rw [h2]; omega
    exact ⟨j + 1, hjK, by omega, by rw [e1]; exact ⟨hc.1, hc.2⟩, by rw [e1], ⟨hc.1, hc.2⟩, hge⟩
  · have hnf : noneSet (hearC T (iterC T j (startC T))).pins = false := by rw [← he]; exact hn
    obtain ⟨m, m1, m2, m3, m4⟩ := sim_round hv hh hr.inv.pos hnf
    rw [← iter_add] at m2 m3
    have hjm : j + m < K := by
      rcases Nat.lt_or_ge (j + m) K with h | h
      · exact h
      · have h5 := m4 (K - j) (by omega)
        rw [← iter_add, show j + (K - j) = K by omega] at h5
        have := hK.out
        omega
    have hpos : (hearC T c).pos < T.rcs.length := by rw [he]; exact hr.inv.pos
    exact ⟨j + m, hjm, by omega, m2, by rw [m3, he], rround_head hc.1 hc.2, rround_heard hv hpos (Int.le_refl _)⟩
/-- The time of the next press, as the reference has it. -/
theorem next_never {prs : List (Int × Int)} {t : Int} (hp : ∀ p ∈ prs, p.2 ≤ 9999) : prs.foldl (next1 t) neverI = if nextP prs t = maxI then neverI else nextP prs t := by
  have key : ∀ (l : List (Int × Int)) (a b : Int), (∀ p ∈ l, p.2 ≤ 9999) → (a = neverI ∧ b = maxI ∨ a = b ∧ a ≤ 9999) → (l.foldl (next1 t) a = neverI ∧ l.foldl (next1 t) b = maxI ∨ l.foldl (next1 t) a = l.foldl (next1 t) b ∧ l.foldl (next1 t) a ≤ 9999) := by
    intro l
    induction l with
    | nil => intro a b _ h; exact h
    | cons p l ih =>
      intro a b hl h
      rw [List.foldl_cons, List.foldl_cons]
      refine ih _ _ (fun q hq => hl q (by simp [hq])) ?_
      have h1 := hl p (by simp)
      unfold next1 neverI maxI at *
      by_cases h2 : t < p.2
      · rw [if_pos h2, if_pos h2]; omega
      · rw [if_neg h2, if_neg h2]; exact h
  rcases key prs neverI maxI hp (.inl ⟨rfl, rfl⟩) with ⟨h1, h2⟩ | ⟨h1, h2⟩
  · rw [h1]; unfold nextP; rw [h2, if_pos rfl]
  · rw [h1] at h2 ⊢
    unfold nextP
    rw [if_neg (by unfold maxI at h2 ⊢; omega)]
end Go.Proofs.Ytknaljghpfeikaa
namespace Go.Proofs.Ytknaljghpfeikaa

/-- A list of the sides whose pins are set. -/
structure PinsIs (PL : List Int) (s : Nat → Bool) : Prop where
  mem : ∀ i : Nat, (i : Int) ∈ PL ↔ s i = true
  rng : ∀ x ∈ PL, 0 ≤ x ∧ x < 12
theorem PinsIs.nil : PinsIs [] (fun _ => false) := ⟨fun i => by simp, fun x hx => by cases hx⟩
theorem PinsIs.isNone {PL : List Int} {s : Nat → Bool} (h : PinsIs PL s) : noneSet s = true ↔ PL = [] := by
  rw [none_iff]
  constructor
  · intro h1
    cases PL with
    | nil => rfl
    | cons x xs =>
      have hr := h.rng x (by simp)
      have h2 := (h.mem x.toNat).1 (by rw [Int.toNat_of_nonneg hr.1]; simp)
      rw [h1 x.toNat (by omega)] at h2
      cases h2
  · rintro rfl i _
    cases hs : s i
    · rfl
    · have := (h.mem i).2 hs
      cases this
/-- Hearing one press that is listed already. -/
theorem PinsIs.old {PL : List Int} {s : Nat → Bool} (h : PinsIs PL s) {u : Int} (hu : u ∈ PL) : PinsIs PL (fun i => decide (i = u.toNat) || s i) := by
  refine ⟨fun i => ?_, h.rng⟩
  have hr := h.rng u hu
  rw [h.mem i]
  by_cases he : i = u.toNat
  · have h1 := (h.mem i).1 (by rw [he, Int.toNat_of_nonneg hr.1]; exact hu)
    simp [h1]
  · simp [he]
theorem PinsIs.new {PL : List Int} {s : Nat → Bool} (h : PinsIs PL s) {u : Int} (h0 : 0 ≤ u ∧ u < 12) : PinsIs (PL ++ [u]) (fun i => decide (i = u.toNat) || s i) := by
  refine ⟨fun i => ?_, fun x hx => ?_⟩
  · rw [List.mem_append, h.mem i, Bool.or_eq_true, decide_eq_true_eq, List.mem_singleton, or_comm]
    constructor
    · rintro (h1 | h1)
      · exact .inl (by omega)
      · exact .inr h1
    · rintro (h1 | h1)
      · exact .inl (by omega)
      · exact .inr h1
  · rcases List.mem_append.1 hx with h1 | h1
    · exact h.rng x h1
    · rw [List.mem_singleton] at h1; omega
/-- Without one side. -/
def without (PL : List Int) (z : Int) : List Int := PL.filter fun x => decide (x ≠ z)
theorem PinsIs.without {PL : List Int} {s : Nat → Bool} (h : PinsIs PL s) (k : Nat) : PinsIs (without PL (k : Int)) (fun i => s i && !decide (i = k)) := by
  refine ⟨fun i => ?_, fun x hx => h.rng x (List.mem_filter.1 hx).1⟩
  unfold Ytknaljghpfeikaa.without
  rw [List.mem_filter, h.mem i, Bool.and_eq_true, decide_eq_true_eq, Bool.not_eq_true', decide_eq_false_iff_not]
  constructor
  · rintro ⟨h1, h2⟩; exact ⟨h1, by omega⟩
  · rintro ⟨h1, h2⟩; exact ⟨h1, by omega⟩
theorem without_len (PL : List Int) (z : Int) : (without PL z).length ≤ PL.length := List.length_filter_le _ _
theorem without_snoc (PL : List Int) (x z : Int) : without (PL ++ [x]) z = if x ≠ z then without PL z ++ [x] else without PL z := by
  unfold without
  rw [List.filter_append]
  by_cases h : x = z
  · subst h; simp
  · simp [h]
/-- 1 for a press that has set its pin. -/
def flg (h : Int) (p : Int × Int) : Int := if p.2 ≤ h then 1 else 0
/-- A row of flags while presses are heard: the first i are heard up to t. -/
def flgs (ps : List (Int × Int)) (h t : Int) (i : Nat) : List Int := (ps.map (flg t)).take i ++ (ps.map (flg h)).drop i
theorem flgs_zero (ps : List (Int × Int)) (h t : Int) : flgs ps h t 0 = ps.map (flg h) := by simp [flgs]
theorem flgs_end (ps : List (Int × Int)) (h t : Int) : flgs ps h t ps.length = ps.map (flg t) := by
  unfold flgs
  rw [List.take_of_length_le (by simp), List.drop_eq_nil_iff.2 (by simp), List.append_nil]
theorem flgs_len (ps : List (Int × Int)) (h t : Int) {i : Nat} (hi : i ≤ ps.length) : (flgs ps h t i).length = ps.length := by
  unfold flgs
  simp
  omega
theorem flgs_at {ps : List (Int × Int)} {h t : Int} {i : Nat} {p : Int × Int} (hp : ps[i]? = some p) : (flgs ps h t i)[i]? = some (flg h p) := by
  have hl : i < ps.length := by
    rcases Nat.lt_or_ge i ps.length with h1 | h1
    · exact h1
    · rw [List.getElem?_eq_none h1] at hp; cases hp
  unfold flgs
  rw [List.getElem?_append_right (by simp; omega), List.getElem?_drop]
  simp only [List.length_take, List.length_map]
  rw [show i + (i - min i ps.length) = i by omega, List.getElem?_map, hp]
  rfl
/-- The next flag is that of the later time already. -/
theorem flgs_keep {ps : List (Int × Int)} {h t : Int} {i : Nat} {p : Int × Int} (hp : ps[i]? = some p) (he : flg h p = flg t p) : flgs ps h t (i + 1) = flgs ps h t i := by
  have h1 : (ps.map (flg t))[i]? = some (flg h p) := by rw [List.getElem?_map, hp, he]; rfl
  have h2 : (ps.map (flg h))[i]? = some (flg h p) := by rw [List.getElem?_map, hp]; rfl
  have hl : i < (ps.map (flg h)).length := by
    rcases Nat.lt_or_ge i (ps.map (flg h)).length with h3 | h3
    · exact h3
    · rw [List.getElem?_eq_none h3] at h2; cases h2
  unfold flgs
  rw [List.take_add_one, h1, List.drop_eq_getElem_cons hl]
  rw [List.getElem?_eq_getElem hl] at h2
  injection h2 with h2
  rw [h2]
  simp
theorem flgs_set {ps : List (Int × Int)} {h t : Int} {i : Nat} {p : Int × Int} (hp : ps[i]? = some p) (ht : p.2 ≤ t) : (flgs ps h t i).set i 1 = flgs ps h t (i + 1) := by
  have h1 : (ps.map (flg t))[i]? = some 1 := by rw [List.getElem?_map, hp]; simp [flg, ht]
  have h2 : (ps.map (flg h))[i]? = some (flg h p) := by rw [List.getElem?_map, hp]; rfl
  have hl : i < (ps.map (flg h)).length := by
    rcases Nat.lt_or_ge i (ps.map (flg h)).length with h3 | h3
    · exact h3
    · rw [List.getElem?_eq_none h3] at h2; cases h2
  unfold flgs
  rw [List.take_add_one, h1, List.drop_eq_getElem_cons hl]
  rw [List.length_map] at hl
  rw [List.set_append_right _ _ (by simp; omega)]
  simp only [List.length_take, List.length_map]
  rw [show i - min i ps.length = 0 by omega]
  simp
theorem flg01 (h : Int) (p : Int × Int) : flg h p = 1 ∨ flg h p = 0 := by unfold flg; split <;> simp
theorem hear_take {ps : List (Int × Int)} {h t : Int} {s : Nat → Bool} {i : Nat} {p : Int × Int} (hp : ps[i]? = some p) : hearS (ps.take (i + 1)) h t s = hear1 h t (hearS (ps.take i) h t s) p := by
  unfold hearS
  rw [List.take_add_one, hp, List.foldl_append]
  rfl
theorem next_take {ps : List (Int × Int)} {t m : Int} {i : Nat} {p : Int × Int} (hp : ps[i]? = some p) : (ps.take (i + 1)).foldl (next1 t) m = next1 t ((ps.take i).foldl (next1 t) m) p := by
  rw [List.take_add_one, hp, List.foldl_append]
  rfl
/-- How many pins there can be: presses that are heard. -/
def room (ps : List (Int × Int)) (h t : Int) (i : Nat) : Nat := yet (ps.take i) t + yet (ps.drop i) h
theorem room_zero (ps : List (Int × Int)) (h t : Int) : room ps h t 0 = yet ps h := by simp [room, yet]
theorem room_end (ps : List (Int × Int)) (h t : Int) : room ps h t ps.length = yet ps t := by simp [room, yet]
theorem room_step {ps : List (Int × Int)} {h t : Int} {i : Nat} {p : Int × Int} (hp : ps[i]? = some p) (ht : h ≤ t) : room ps h t (i + 1) + (if h < p.2 ∧ p.2 ≤ t then 1 else 0) = room ps h t i := by
  have hl : i < ps.length := by
    rcases Nat.lt_or_ge i ps.length with h1 | h1
    · exact h1
    · rw [List.getElem?_eq_none h1] at hp; cases hp
  unfold room yet
  rw [List.take_add_one, hp, List.drop_eq_getElem_cons hl, List.countP_append, List.countP_cons]
  rw [List.getElem?_eq_getElem hl] at hp
  injection hp with hp
  rw [hp]
  simp only [Option.toList, List.countP_cons, List.countP_nil, decide_eq_true_eq]
  by_cases h1 : h < p.2
  · by_cases h2 : p.2 ≤ t
    · rw [if_neg (show ¬ t < p.2 by omega), if_pos h1, if_pos ⟨h1, h2⟩]; omega
    · rw [if_pos (show t < p.2 by omega), if_pos h1, if_neg (by omega)]
      omega
  · rw [if_neg (show ¬ t < p.2 by omega), if_neg h1, if_neg (by omega)]
    omega
end Go.Proofs.Ytknaljghpfeikaa
namespace Go.Proofs.Ytknaljghpfeikaa

/-- What the reference's stand is: the last event that begins at the time or earlier. -/
def stand1 (time : Int) (a : Int × Int × Int) (e : Ev) : Int × Int × Int := if e.fr ≤ time then (e.pos, e.way, max (-1) e.side) else a
def standOf (c : Car) : Int × Int × Int := ((c.pos : Nat), wayI c.up, c.side)
theorem stand_late {time : Int} : ∀ (E : List Ev) (a : Int × Int × Int), (∀ e ∈ E, time < e.fr) → E.foldl (stand1 time) a = a
  | [], _, _ => rfl
  | e :: E, a, h => by
    rw [List.foldl_cons]
    have h1 := h e (by simp)
    rw [show stand1 time a e = a by unfold stand1; rw [if_neg (by omega)]]
    exact stand_late E a fun x hx => h x (by simp [hx])
theorem rmove_pos {T : Tr} {e : Car} (hp : e.pos < T.rcs.length) (hst : 0 ≤ T.step) : (rmove T e).2.pos < T.rcs.length ∧ e.time ≤ (rmove T e).2.time ∧ ∀ x ∈ (rmove T e).1, x.fr = e.time := by
  unfold rmove
  by_cases h : hasNext T.rcs.length e.up e.pos = true
  · rw [if_pos h]
    refine ⟨?_, ?_, fun x hx => ?_⟩
    · unfold hasNext at h
      dsimp only
      cases hu : e.up <;> rw [hu] at h <;> simp at h <;> simp <;> omega
    · dsimp only; omega
    · simp at hx; rw [hx]
  · rw [if_neg h]
    exact ⟨hp, Int.le_refl _, fun x hx => by simp at hx⟩
theorem rmove_time (T : Tr) (e : Car) : (rmove T e).2.time = if hasNext T.rcs.length e.up e.pos = true then e.time + T.step else e.time := by
  unfold rmove
  split <;> rfl
theorem rmove_yes {T : Tr} {e : Car} (h : hasNext T.rcs.length e.up e.pos = true) : (rmove T e).1 = [⟨e.time, e.time + T.step, (e.pos : Nat), wayI e.up, -1⟩] ∧ (rmove T e).2.time = e.time + T.step := by
  unfold rmove
  rw [if_pos h]
  exact ⟨rfl, rfl⟩
theorem rmove_no {T : Tr} {e : Car} (h : ¬ hasNext T.rcs.length e.up e.pos = true) : (rmove T e).1 = [] ∧ (rmove T e).2.time = e.time := by
  unfold rmove
  rw [if_neg h]
  exact ⟨rfl, rfl⟩
theorem rround_pos {T : Tr} (hv : VT T) {d : Car} (hp : d.pos < T.rcs.length) : (rround T d).2.pos < T.rcs.length ∧ d.time ≤ (rround T d).2.time ∧ ∀ x ∈ (rround T d).1, d.time ≤ x.fr := by
  have hsec := secs_le hv (side_lt (up := d.up) hp)
  have hq : (rplay T d).2.pos = d.pos ∧ d.time ≤ (rplay T d).2.time ∧ ∀ x ∈ (rplay T d).1, x.fr = d.time := by
    unfold rplay
    split
    · refine ⟨rfl, ?_, fun x hx => ?_⟩
      · show d.time ≤ d.time + secs T (sideAt d.up d.pos); omega
      · simp at hx; rw [hx]
    · exact ⟨rfl, Int.le_refl _, fun x hx => by simp at hx⟩
  obtain ⟨h1, h2, h3⟩ := rmove_pos (T := T) (e := (rplay T d).2) (by rw [hq.1]; exact hp) hv.st.1
  refine ⟨h1, ?_, fun x hx => ?_⟩
  · show d.time ≤ (rmove T (rplay T d).2).2.time
    have := hq.2.1
    omega
  · rcases List.mem_append.1 (show x ∈ (rplay T d).1 ++ (rmove T (rplay T d).2).1 from hx) with h | h
    · rw [hq.2.2 x h]; exact Int.le_refl _
    · rw [h3 x h]; exact hq.2.1
theorem ref_ge {T : Tr} (hv : VT T) : ∀ (f : Nat) (c : Car), c.pos < T.rcs.length → ∀ e ∈ refRun T f c, c.time ≤ e.fr
  | 0, _, _ => fun e he => by cases he
  | f + 1, c, hp => fun e he => by
    unfold refRun at he
    by_cases hn : noneSet (hearC T c).pins = true
    · rw [if_pos hn] at he
      rcases List.mem_cons.1 he with rfl | he
      · exact Int.le_refl _
      · by_cases hx : nextP T.prs (hearC T c).time = maxI
        · rw [if_pos hx] at he; cases he
        · rw [if_neg hx] at he
          have h1 := ref_ge hv f { hearC T c with time := nextP T.prs (hearC T c).time } hp e he
          have h2 : c.time ≤ nextP T.prs (hearC T c).time := by
            rcases next_is (hearC T c).time T.prs maxI with h | ⟨p, _, h3, h4⟩
            · exact absurd h hx
            · unfold nextP; rw [h4]; exact Int.le_of_lt h3
          exact Int.le_trans h2 h1
    · rw [if_neg hn] at he
      obtain ⟨h1, h2, h3⟩ := rround_pos hv (d := hearC T c) hp
      rcases List.mem_append.1 he with h | h
      · exact h3 e h
      · exact Int.le_trans h2 (ref_ge hv f _ h1 e h)
/-- The moves of the code, with their times. -/
theorem sim_leave2 {T : Tr} {e c : Car} (hg : e.going = false) (hs : e.side = -1) (he : e.heard ≤ e.time) (hst : 0 ≤ T.step) (hpl : c = leaveC T e) :
    ∃ m, Head (iterC T m c) ∧ hearC T (iterC T m c) = hearC T (rmove T e).2 ∧ ∀ i, i ≤ m → (iterC T i c).time ≤ (rmove T e).2.time := by
  subst hpl
  unfold leaveC rmove
  by_cases h : hasNext T.rcs.length e.up e.pos = true
  · rw [if_pos h, if_pos h]
    refine ⟨1, ?_, ?_, fun i hi => ?_⟩
    · show Head (stepC T _)
      unfold stepC actC
      exact ⟨rfl, hs⟩
    · show hearC T (stepC T { e with going := true, time := e.time + T.step }) = _
      have e1 : stepC T { e with going := true, time := e.time + T.step } = { e with going := false, pos := if e.up then e.pos + 1 else e.pos - 1, time := e.time + T.step, steps := e.steps + 1, pins := hearS T.prs e.heard (e.time + T.step) e.pins, heard := e.time + T.step } := by
        unfold stepC actC
        rfl
      rw [e1]
      unfold hearC
      dsimp only
      rw [hear_comp (by omega) (Int.le_refl _), hg]
    · rcases (show i = 0 ∨ i = 1 by omega) with rfl | rfl
      · exact Int.le_refl _
      · show (stepC T { e with going := true, time := e.time + T.step }).time ≤ _
        unfold stepC actC
        exact Int.le_refl _
  · rw [if_neg h, if_neg h]
    refine ⟨0, ⟨hg, hs⟩, rfl, fun i hi => ?_⟩
    obtain rfl : i = 0 := by omega
    exact Int.le_refl _
/-- The two steps of a play. -/
theorem play_steps {T : Tr} {c : Car} (hh : Head c) (hn : noneSet (hearC T c).pins = false) (hp : (hearC T c).pins (sideAt c.up c.pos) = true) :
    stepC T c = playC T (hearC T c) (sideAt c.up c.pos) ∧ stepC T (stepC T c) = leaveC T { hearC T (playC T (hearC T c) (sideAt c.up c.pos)) with side := -1 } := by
  have hg : (hearC T c).going = false := hh.1
  have hs : (hearC T c).side = -1 := hh.2
  have e1 : stepC T c = playC T (hearC T c) (sideAt c.up c.pos) := by
    unfold stepC actC
    rw [if_neg (by rw [hg]; simp), if_neg (by omega), if_neg (by rw [hn]; simp)]
    exact if_pos hp
  refine ⟨e1, ?_⟩
  rw [e1]
  have hsd : (playC T (hearC T c) (sideAt c.up c.pos)).side ≠ -1 := by
    show ((sideAt c.up c.pos : Nat) : Int) ≠ -1
    omega
  unfold stepC actC
  rw [if_neg (by show ¬ (hearC T c).going = true; rw [hg]; simp)]
  exact if_pos hsd
theorem pass_step {T : Tr} {c : Car} (hh : Head c) (hn : noneSet (hearC T c).pins = false) (hp : ¬ (hearC T c).pins (sideAt c.up c.pos) = true) : stepC T c = leaveC T (hearC T c) := by
  have hg : (hearC T c).going = false := hh.1
  have hs : (hearC T c).side = -1 := hh.2
  unfold stepC actC
  rw [if_neg (by rw [hg]; simp), if_neg (by omega), if_neg (by rw [hn]; simp)]
  exact if_neg hp
theorem sim_round2 {T : Tr} (hv : VT T) {c : Car} (hh : Head c) (hpos : c.pos < T.rcs.length) (hn : noneSet (hearC T c).pins = false) :
    ∃ m, 1 ≤ m ∧ Head (iterC T m c) ∧ hearC T (iterC T m c) = hearC T (rround T (hearC T c)).2 ∧ ∀ i, i ≤ m → (iterC T i c).time ≤ (rround T (hearC T c)).2.time := by
  have hst := hv.st
  have hl := side_lt (up := c.up) hpos
  have hsec := secs_le hv hl
  have hrp := rround_pos hv (d := hearC T c) hpos
  by_cases hp : (hearC T c).pins (sideAt c.up c.pos) = true
  · obtain ⟨e1, e2⟩ := play_steps hh hn hp
    have hro : (rround T (hearC T c)).2 = (rmove T { playC T (hearC T c) (sideAt c.up c.pos) with side := -1 }).2 := by
      unfold rround rplay
      rw [if_pos (show (hearC T c).pins (sideAt (hearC T c).up (hearC T c).pos) = true from hp)]
      rfl
    obtain ⟨m, h1, h2, h4⟩ := sim_leave2 (T := T) (e := { hearC T (playC T (hearC T c) (sideAt c.up c.pos)) with side := -1 }) (c := leaveC T { hearC T (playC T (hearC T c) (sideAt c.up c.pos)) with side := -1 }) hh.1 rfl (Int.le_refl _) hst.1 rfl
    have htm : (rmove T { hearC T (playC T (hearC T c) (sideAt c.up c.pos)) with side := -1 }).2.time = (rmove T { playC T (hearC T c) (sideAt c.up c.pos) with side := -1 }).2.time := by
      rw [rmove_time, rmove_time]
      rfl
    rw [htm, ← hro] at h4
    have e3 : iterC T (2 + m) c = iterC T m (leaveC T { hearC T (playC T (hearC T c) (sideAt c.up c.pos)) with side := -1 }) := by
      rw [iter_add]
      show iterC T m (stepC T (stepC T c)) = _
      rw [e2]
    have hlv : c.time + secs T (sideAt c.up c.pos) ≤ (rround T (hearC T c)).2.time := by
      rw [hro]
      exact (rmove_pos (T := T) (e := { playC T (hearC T c) (sideAt c.up c.pos) with side := -1 }) hpos hst.1).2.1
    refine ⟨2 + m, by omega, by rw [e3]; exact h1, ?_, fun i hi => ?_⟩
    · rw [e3, h2, hro]
      exact hear_rmove hv (e := { playC T (hearC T c) (sideAt c.up c.pos) with side := -1 }) (by show c.time ≤ c.time + secs T (sideAt c.up c.pos); omega)
    · rcases (show i = 0 ∨ i = 1 ∨ ∃ k, i = 2 + k ∧ k ≤ m from if h0 : i = 0 then .inl h0 else if h1 : i = 1 then .inr (.inl h1) else .inr (.inr ⟨i - 2, by omega, by omega⟩)) with rfl | rfl | ⟨k, rfl, hk⟩
      · show c.time ≤ _; omega
      · show (stepC T c).time ≤ _
        rw [e1]
        exact hlv
      · rw [iter_add]
        show (iterC T k (stepC T (stepC T c))).time ≤ _
        rw [e2]
        exact h4 k hk
  · have e1 := pass_step hh hn hp
    have hro : (rround T (hearC T c)).2 = (rmove T (hearC T c)).2 := by
      unfold rround rplay
      rw [if_neg (show ¬ (hearC T c).pins (sideAt (hearC T c).up (hearC T c).pos) = true from hp)]
    obtain ⟨m, h1, h2, h4⟩ := sim_leave2 (T := T) (e := hearC T c) (c := stepC T c) hh.1 hh.2 (Int.le_refl _) hst.1 e1
    have e3 : iterC T (1 + m) c = iterC T m (stepC T c) := by rw [iter_add]; rfl
    refine ⟨1 + m, by omega, by rw [e3]; exact h1, by rw [e3, h2, hro], fun i hi => ?_⟩
    rcases (show i = 0 ∨ ∃ k, i = 1 + k ∧ k ≤ m from if h0 : i = 0 then .inl h0 else .inr ⟨i - 1, by omega, by omega⟩) with rfl | ⟨k, rfl, hk⟩
    · exact hrp.2.1
    · rw [iter_add, hro]
      exact h4 k hk
/-- The reference's stand is the code's. -/
theorem ref_stand {T : Tr} (hv : VT T) {time : Int} (hx9 : time + 1 ≤ maxI) {L : Nat} (hL : RunK T (time + 1) L) : ∀ (f j : Nat) (c : Car) (a : Int × Int × Int), j < L → L ≤ j + f → Head (iterC T j (startC T)) → hearC T c = hearC T (iterC T j (startC T)) →
    (refRun T f c).foldl (stand1 time) a = standOf (iterC T L (startC T)) := by
  intro f
  induction f with
  | zero => intro j c a h1 h2 _ _; omega
  | succ f ih =>
    intro j c a hj hjf hh he
    have hr := hL.rng j (by omega)
    have hlo := hL.lo j hj
    have hLt : L = j + 1 ∨ (iterC T (j + 1) (startC T)).time < time + 1 := by
      rcases Nat.lt_or_ge (j + 1) L with h | h
      · exact .inr (hL.lo _ h)
      · exact .inl (by omega)
    have hL2 : L = j + 1 ∨ L = j + 2 ∨ (iterC T (j + 2) (startC T)).time < time + 1 := by
      rcases Nat.lt_or_ge (j + 2) L with h | h
      · exact .inr (.inr (hL.lo _ h))
      · omega
    have hout := hL.out
    obtain ⟨s, hs⟩ : ∃ s, s = iterC T j (startC T) := ⟨_, rfl⟩
    have e1 : iterC T (j + 1) (startC T) = stepC T s := by rw [hs]; rfl
    have e2 : iterC T (j + 2) (startC T) = stepC T (stepC T s) := by rw [hs]; rfl
    rw [← hs] at hh he hr hlo
    have htt : (hearC T c).time = s.time := by rw [he]; rfl
    have hpos : (hearC T c).pos < T.rcs.length := by rw [he]; exact hr.inv.pos
    have hsp := hr.inv.pos
    unfold refRun
    by_cases hn : noneSet (hearC T c).pins = true
    · rw [if_pos hn, List.foldl_cons]
      have e3 : stepC T s = { hearC T c with time := nextP T.prs (hearC T c).time } := by
        have hg : (hearC T s).going = false := hh.1
        have hsd : (hearC T s).side = -1 := hh.2
        unfold stepC
        rw [he] at hn ⊢
        unfold actC
        rw [if_neg (by rw [hg]; simp), if_neg (by omega), if_pos hn]
      have ha : stand1 time a (idleE T (hearC T c)) = standOf (iterC T (j + 1) (startC T)) := by
        rw [e1, e3]
        unfold stand1 idleE standOf
        dsimp only
        rw [if_pos (by omega)]
        have h1 : (hearC T c).side = -1 := by rw [he]; exact hh.2
        rw [h1]
        rfl
      by_cases hx : nextP T.prs (hearC T c).time = maxI
      · rw [if_pos hx, List.foldl_nil, ha]
        rcases hLt with h | h
        · rw [h]
        · rw [e1, e3] at h
          have h2 : maxI < time + 1 := by rw [← hx]; exact h
          omega
      · rw [if_neg hx]
        rcases hLt with h | h
        · rw [h, ← ha]
          refine stand_late _ _ fun x hxm => ?_
          have h3 := ref_ge hv f { hearC T c with time := nextP T.prs (hearC T c).time } hpos x hxm
          rw [h, e1, e3] at hout
          exact Int.lt_of_lt_of_le (Int.lt_of_lt_of_le (Int.lt_succ time) hout) h3
        · have hjL : j + 1 < L := by
            rcases Nat.lt_or_ge (j + 1) L with h4 | h4
            · exact h4
            · obtain rfl : L = j + 1 := by omega
              omega
          refine ih (j + 1) _ _ hjL (by omega) ?_ (by rw [e1, e3])
          rw [e1, e3, he]
          exact ⟨hh.1, hh.2⟩
    · rw [if_neg hn, List.foldl_append]
      have hnf : noneSet (hearC T s).pins = false := by rw [← he]; simpa using hn
      by_cases hlt : (rround T (hearC T c)).2.time ≤ time
      · obtain ⟨m, m1, m2, m3, m4⟩ := sim_round2 hv hh hsp hnf
        rw [← he] at m3 m4
        rw [hs, ← iter_add] at m2 m3
        have hjm : j + m < L := by
          rcases Nat.lt_or_ge (j + m) L with h | h
          · exact h
          · have h5 := m4 (L - j) (by omega)
            rw [hs, ← iter_add, show j + (L - j) = L by omega] at h5
            omega
        exact ih (j + m) _ _ hjm (by omega) m2 (by rw [m3])
      · have hrest := ref_ge hv f (rround T (hearC T c)).2 (rround_pos hv hpos).1
        rw [stand_late (refRun T f (rround T (hearC T c)).2) _ (fun x hx => by have := hrest x hx; omega)]
        have hup : (hearC T c).up = s.up := by rw [he]; rfl
        have hps : (hearC T c).pos = s.pos := by rw [he]; rfl
        by_cases hp : (hearC T s).pins (sideAt s.up s.pos) = true
        · obtain ⟨p1, p2⟩ := play_steps hh hnf hp
          have hro : rround T (hearC T c) = (⟨s.time, s.time + secs T (sideAt s.up s.pos), (s.pos : Nat), wayI s.up, (sideAt s.up s.pos : Nat)⟩ :: (rmove T { playC T (hearC T s) (sideAt s.up s.pos) with side := -1 }).1, (rmove T { playC T (hearC T s) (sideAt s.up s.pos) with side := -1 }).2) := by
            unfold rround rplay
            rw [he, if_pos (show (hearC T s).pins (sideAt (hearC T s).up (hearC T s).pos) = true from hp)]
            rfl
          obtain ⟨e, hee⟩ : ∃ e : Car, e = { playC T (hearC T s) (sideAt s.up s.pos) with side := -1 } := ⟨_, rfl⟩
          rw [← hee] at hro
          have het : e.time = s.time + secs T (sideAt s.up s.pos) := by rw [hee]; rfl
          have heu : e.up = s.up := by rw [hee]; rfl
          have hep : e.pos = s.pos := by rw [hee]; rfl
          rw [hro] at hlt ⊢
          rw [List.foldl_cons]
          replace hlt : ¬ (rmove T e).2.time ≤ time := hlt
          have hpt : (stepC T s).time = s.time + secs T (sideAt s.up s.pos) := by rw [p1]; rfl
          have ha : stand1 time a ⟨s.time, s.time + secs T (sideAt s.up s.pos), (s.pos : Nat), wayI s.up, (sideAt s.up s.pos : Nat)⟩ = standOf (stepC T s) := by
            unfold stand1 standOf
            dsimp only
            rw [if_pos (by omega), p1, show max (-1 : Int) ((sideAt s.up s.pos : Nat) : Int) = ((sideAt s.up s.pos : Nat) : Int) by omega]
            rfl
          rw [ha]
          rcases hLt with h | h
          · rw [h, e1]
            rw [h, e1, hpt] at hout
            refine stand_late _ _ fun x hx => ?_
            have := (rmove_pos (T := T) (e := e) (by rw [hep]; exact hsp) hv.st.1).2.2 x hx
            rw [this, het]
            omega
          · rw [e1, hpt] at h
            by_cases hnx : hasNext T.rcs.length e.up e.pos = true
            · obtain ⟨r1, r2⟩ := rmove_yes hnx
              rw [r2, het] at hlt
              have hl2 : stepC T (stepC T s) = { ({ hearC T (playC T (hearC T s) (sideAt s.up s.pos)) with side := -1 } : Car) with going := true, time := s.time + secs T (sideAt s.up s.pos) + T.step } := by
                rw [p2]
                unfold leaveC
                rw [heu, hep] at hnx
                exact if_pos hnx
              have hL3 : L = j + 2 := by
                rcases hL2 with h3 | h3 | h3
                · rw [h3, e1, hpt] at hout; omega
                · exact h3
                · rw [e2, hl2] at h3
                  have h4 : s.time + secs T (sideAt s.up s.pos) + T.step < time + 1 := h3
                  omega
              rw [hL3, e2, hl2]
              show (rmove T e).1.foldl _ _ = _
              rw [r1, List.foldl_cons, List.foldl_nil]
              unfold stand1
              rw [if_pos (by show e.time ≤ time; omega)]
              unfold standOf
              dsimp only
              rw [heu, hep]
              rfl
            · obtain ⟨_, r2⟩ := rmove_no hnx
              rw [r2, het] at hlt
              omega
        · have p1 := pass_step hh hnf hp
          obtain ⟨e, hee⟩ : ∃ e : Car, e = hearC T s := ⟨_, rfl⟩
          have hro : rround T (hearC T c) = ((rmove T e).1, (rmove T e).2) := by
            unfold rround rplay
            rw [he, if_neg (show ¬ (hearC T s).pins (sideAt (hearC T s).up (hearC T s).pos) = true from hp), hee]
            rfl
          have het : e.time = s.time := by rw [hee]; rfl
          have heu : e.up = s.up := by rw [hee]; rfl
          have hep : e.pos = s.pos := by rw [hee]; rfl
          rw [hro] at hlt ⊢
          replace hlt : ¬ (rmove T e).2.time ≤ time := hlt
          by_cases hnx : hasNext T.rcs.length e.up e.pos = true
          · obtain ⟨r1, r2⟩ := rmove_yes hnx
            rw [r2, het] at hlt
            have hl2 : stepC T s = { hearC T s with going := true, time := s.time + T.step } := by
              rw [p1]
              unfold leaveC
              rw [heu, hep] at hnx
              exact if_pos hnx
            have hL3 : L = j + 1 := by
              rcases hLt with h3 | h3
              · exact h3
              · rw [e1, hl2] at h3
                have h4 : s.time + T.step < time + 1 := h3
                omega
            rw [hL3, e1, hl2]
            show (rmove T e).1.foldl _ _ = _
            rw [r1, List.foldl_cons, List.foldl_nil]
            unfold stand1
            rw [if_pos (by show e.time ≤ time; omega)]
            have h5 : s.side = -1 := hh.2
            unfold standOf
            dsimp only
            rw [heu, hep]
            show (((s.pos : Nat) : Int), wayI s.up, max (-1 : Int) (-1)) = (((s.pos : Nat) : Int), wayI s.up, s.side)
            rw [h5]
            rfl
          · obtain ⟨_, r2⟩ := rmove_no hnx
            rw [r2, het] at hlt
            omega
theorem ref_stand0 {T : Tr} (hv : VT T) {time : Int} (h0 : 0 ≤ time) (h9 : time ≤ 9999) {f : Nat} (hf : 2700 ≤ f) (a : Int × Int × Int) : (refRun T f (startC T)).foldl (stand1 time) a = standOf (runM T (time + 1)) := by
  have hm : time + 1 ≤ maxI := by unfold maxI; omega
  obtain ⟨L, hL⟩ := run_ex hv hm
  have hkb := hL.kb
  have hL0 : 0 < L := by
    rcases Nat.eq_zero_or_pos L with h | h
    · subst h
      have := hL.out
      have e : (iterC T 0 (startC T)).time = 0 := rfl
      rw [e] at this
      omega
    · exact h
  rw [runM_is hL]
  exact ref_stand hv hm hL f 0 (startC T) a hL0 (by omega) ⟨rfl, rfl⟩ rfl
end Go.Proofs.Ytknaljghpfeikaa
