import Derived.Test.YtknaljghpfeikaaG1
namespace Go.Proofs.Ytknaljghpfeikaa

/-- A tray: records, where the carriage stands, its way, seconds from a record to the next one, presses. -/
structure Tr where
  rcs : List (Int × Int)
  at0 : Nat
  up0 : Bool
  step : Int
  prs : List (Int × Int)
/-- A carriage at work. -/
structure Car where
  pos : Nat
  up : Bool
  side : Int
  plays : List (Int × Int)
  steps : Nat
  fin : Int
  pins : Nat → Bool
  heard : Int
  time : Int
  going : Bool
def maxI : Int := 9223372036854775807
def hear1 (h t : Int) (s : Nat → Bool) (p : Int × Int) : Nat → Bool := if h < p.2 ∧ p.2 ≤ t then (fun i => decide (i = p.1.toNat) || s i) else s
def hearS (prs : List (Int × Int)) (h t : Int) (s : Nat → Bool) : Nat → Bool := prs.foldl (hear1 h t) s
def next1 (t m : Int) (p : Int × Int) : Int := if t < p.2 then min m p.2 else m
def nextP (prs : List (Int × Int)) (t : Int) : Int := prs.foldl (next1 t) maxI
def sideAt (up : Bool) (pos : Nat) : Nat := if up then 2 * pos else 2 * pos + 1
def secs (T : Tr) (k : Nat) : Int := if k % 2 = 0 then (T.rcs.getD (k / 2) (0, 0)).1 else (T.rcs.getD (k / 2) (0, 0)).2
def noneSet (s : Nat → Bool) : Bool := (List.range 12).all fun i => !s i
/-- Whether there is a next record on the way. -/
def hasNext (n : Nat) (up : Bool) (pos : Nat) : Bool := if up then decide (pos + 1 < n) else decide (0 < pos)
def leaveC (T : Tr) (c : Car) : Car := if hasNext T.rcs.length c.up c.pos then { c with going := true, time := c.time + T.step } else { c with up := !c.up }
def playC (T : Tr) (c : Car) (k : Nat) : Car := { c with pins := fun i => c.pins i && !decide (i = k), side := k, plays := c.plays ++ [((k : Int), c.time)], time := c.time + secs T k, fin := c.time + secs T k }
def arriveC (c : Car) : Car := { c with going := false, pos := if c.up then c.pos + 1 else c.pos - 1, steps := c.steps + 1 }
def actC (T : Tr) (c : Car) : Car :=
  if c.going then arriveC c
  else if c.side ≠ -1 then leaveC T { c with side := -1 }
  else if noneSet c.pins then { c with time := nextP T.prs c.time }
  else if c.pins (sideAt c.up c.pos) then playC T c (sideAt c.up c.pos) else leaveC T c
def hearC (T : Tr) (c : Car) : Car := { c with pins := hearS T.prs c.heard c.time c.pins, heard := c.time }
def stepC (T : Tr) (c : Car) : Car := actC T (hearC T c)
def iterC (T : Tr) : Nat → Car → Car
  | 0, c => c
  | j + 1, c => stepC T (iterC T j c)
def startC (T : Tr) : Car := ⟨T.at0, T.up0, -1, [], 0, 0, fun _ => false, -1, 0, false⟩

/-- A tray that is valid, with at most one press more. -/
structure VT (T : Tr) : Prop where
  n1 : 1 ≤ T.rcs.length
  n6 : T.rcs.length ≤ 6
  rc : ∀ r ∈ T.rcs, 1 ≤ r.1 ∧ r.1 ≤ 999 ∧ 1 ≤ r.2 ∧ r.2 ≤ 999
  at0 : T.at0 < T.rcs.length
  st : 0 ≤ T.step ∧ T.step ≤ 60
  p13 : T.prs.length ≤ 13
  pr : ∀ p ∈ T.prs, 0 ≤ p.1 ∧ p.1 < 2 * (T.rcs.length : Int) ∧ 0 ≤ p.2 ∧ p.2 ≤ 9999

/-- How many pins are set. -/
def cnt (s : Nat → Bool) : Nat := (s 0).toNat + (s 1).toNat + (s 2).toNat + (s 3).toNat + (s 4).toNat + (s 5).toNat + (s 6).toNat + (s 7).toNat + (s 8).toNat + (s 9).toNat + (s 10).toNat + (s 11).toNat
theorem twelve {k : Nat} (h : k < 12) : k = 0 ∨ k = 1 ∨ k = 2 ∨ k = 3 ∨ k = 4 ∨ k = 5 ∨ k = 6 ∨ k = 7 ∨ k = 8 ∨ k = 9 ∨ k = 10 ∨ k = 11 := by omega
theorem cnt_on (s : Nat → Bool) {k : Nat} (h : k < 12) : cnt (fun i => decide (i = k) || s i) ≤ cnt s + 1 := by
  rcases twelve h with rfl | rfl | rfl | rfl | rfl | rfl | rfl | rfl | rfl | rfl | rfl | rfl <;> simp [cnt] <;> omega
theorem cnt_off (s : Nat → Bool) {k : Nat} (h : k < 12) (hk : s k = true) : cnt (fun i => s i && !decide (i = k)) + 1 = cnt s := by
  rcases twelve h with rfl | rfl | rfl | rfl | rfl | rfl | rfl | rfl | rfl | rfl | rfl | rfl <;> simp [cnt, hk] <;> omega
theorem none_iff (s : Nat → Bool) : noneSet s = true ↔ ∀ i, i < 12 → s i = false := by
  unfold noneSet
  rw [List.all_eq_true]
  constructor
  · intro h i hi
    have := h i (by simpa using hi)
    simpa using this
  · intro h i hi
    rw [h i (by simpa using hi)]; rfl
theorem cnt_le (s : Nat → Bool) : cnt s ≤ 12 := by
  have h : ∀ b : Bool, b.toNat ≤ 1 := fun b => by cases b <;> simp
  have h0 := h (s 0); have h1 := h (s 1); have h2 := h (s 2); have h3 := h (s 3); have h4 := h (s 4); have h5 := h (s 5); have h6 := h (s 6); have h7 := h (s 7); have h8 := h (s 8); have h9 := h (s 9); have h10 := h (s 10); have h11 := h (s 11)
  unfold cnt; omega

/-- Presses that are not heard yet. -/
def yet (prs : List (Int × Int)) (h : Int) : Nat := prs.countP fun p => decide (h < p.2)
def fresh (prs : List (Int × Int)) (h t : Int) : Nat := prs.countP fun p => decide (h < p.2) && decide (p.2 ≤ t)
theorem hear_cnt {h t : Int} (ht : h ≤ t) : ∀ (prs : List (Int × Int)) (s : Nat → Bool), (∀ p ∈ prs, 0 ≤ p.1 ∧ p.1 < 12) → 2 * yet prs t + cnt (hearS prs h t s) + fresh prs h t ≤ 2 * yet prs h + cnt s
  | [], s, _ => by simp [yet, fresh, hearS]
  | p :: prs, s, hp => by
    have ih := hear_cnt ht prs (hear1 h t s p) (fun q hq => hp q (by simp [hq]))
    have h0 := hp p (by simp)
    have e : hearS (p :: prs) h t s = hearS prs h t (hear1 h t s p) := rfl
    rw [e]
    unfold yet fresh at ih ⊢
    simp only [List.countP_cons]
    by_cases h1 : h < p.2
    · by_cases h2 : p.2 ≤ t
      · have hc : cnt (hear1 h t s p) ≤ cnt s + 1 := by
          unfold hear1; rw [if_pos ⟨h1, h2⟩]; exact cnt_on s (by omega)
        have h3 : ¬ t < p.2 := by omega
        simp only [h1, h2, h3, decide_true, decide_false, Bool.and_self, if_true]
        simp; omega
      · have hc : hear1 h t s p = s := by unfold hear1; rw [if_neg (fun h => h2 h.2)]
        rw [hc] at ih ⊢
        have h3 : t < p.2 := by omega
        simp only [h1, h2, h3, decide_true, decide_false, Bool.and_false, if_true]
        simp; omega
    · have hc : hear1 h t s p = s := by unfold hear1; rw [if_neg (fun h => h1 h.1)]
      rw [hc] at ih ⊢
      have h3 : ¬ t < p.2 := by omega
      simp only [h1, h3, decide_false, Bool.false_and]
      simp; omega
theorem hear_none {h t : Int} : ∀ (prs : List (Int × Int)) (s : Nat → Bool), fresh prs h t = 0 → hearS prs h t s = s
  | [], _, _ => rfl
  | p :: prs, s, hf => by
    have e : hearS (p :: prs) h t s = hearS prs h t (hear1 h t s p) := rfl
    unfold fresh at hf
    rw [List.countP_cons] at hf
    have h2 : ¬ (h < p.2 ∧ p.2 ≤ t) := fun hh => by simp [hh.1, hh.2] at hf
    have hc : hear1 h t s p = s := by unfold hear1; rw [if_neg h2]
    rw [e, hc]
    exact hear_none prs s (by unfold fresh; omega)
theorem hear_lt {n : Nat} {h t : Int} : ∀ (prs : List (Int × Int)) (s : Nat → Bool), (∀ p ∈ prs, 0 ≤ p.1 ∧ p.1 < 2 * (n : Int)) → (∀ i, s i = true → i < 2 * n) → ∀ i, hearS prs h t s i = true → i < 2 * n
  | [], _, _, hs => hs
  | p :: prs, s, hp, hs => by
    refine hear_lt prs (hear1 h t s p) (fun q hq => hp q (by simp [hq])) fun i hi => ?_
    unfold hear1 at hi
    split at hi
    · simp only [Bool.or_eq_true, decide_eq_true_eq] at hi
      rcases hi with rfl | hi
      · have := hp p (by simp); omega
      · exact hs i hi
    · exact hs i hi

/-- The next place on the way. -/
def nx (n : Nat) (q : Bool × Nat) : Bool × Nat := if hasNext n q.1 q.2 then (q.1, if q.1 then q.2 + 1 else q.2 - 1) else (!q.1, q.2)
def nxs (n : Nat) : Nat → Bool × Nat → Bool × Nat
  | 0, q => q
  | j + 1, q => nxs n j (nx n q)
theorem all_reached : ∀ n, n < 7 → ∀ pos, pos < n → ∀ up : Bool, ∀ i, i < 2 * n → ∃ j, j < 12 ∧ sideAt (nxs n j (up, pos)).1 (nxs n j (up, pos)).2 = i := by decide +kernel
def hit (n : Nat) (s : Nat → Bool) (q : Bool × Nat) (j : Nat) : Bool := s (sideAt (nxs n j q).1 (nxs n j q).2)
def dist (n : Nat) (s : Nat → Bool) : Nat → Bool × Nat → Nat
  | 0, _ => 0
  | f + 1, q => if hit n s q 0 then 0 else 1 + dist n s f (nx n q)
theorem dist_is {n : Nat} {s : Nat → Bool} : ∀ (f : Nat) (q : Bool × Nat) (j : Nat), j < f → hit n s q j = true → dist n s f q ≤ j ∧ hit n s q (dist n s f q) = true ∧ ∀ i, i < dist n s f q → hit n s q i = false
  | 0, _, _, h, _ => by omega
  | f + 1, q, j, hj, hh => by
    unfold dist
    by_cases h0 : hit n s q 0 = true
    · rw [if_pos h0]; exact ⟨Nat.zero_le _, h0, fun i hi => by omega⟩
    · rw [if_neg h0]
      cases j with
      | zero => exact absurd hh h0
      | succ j =>
        obtain ⟨d1, d2, d3⟩ := dist_is f (nx n q) j (by omega) hh
        refine ⟨by omega, by rw [Nat.add_comm]; exact d2, fun i hi => ?_⟩
        cases i with
        | zero => simpa using h0
        | succ i => exact d3 i (by omega)
theorem dist_next {n : Nat} {s : Nat → Bool} {q : Bool × Nat} {j : Nat} (hj : j < 12) (hh : hit n s q j = true) (h0 : hit n s q 0 = false) : dist n s 12 (nx n q) + 1 = dist n s 12 q := by
  obtain ⟨d1, d2, d3⟩ := dist_is 12 q j hj hh
  have hpos : 0 < dist n s 12 q := by
    rcases Nat.eq_zero_or_pos (dist n s 12 q) with h | h
    · rw [h, h0] at d2; cases d2
    · exact h
  obtain ⟨k, hk⟩ : ∃ k, dist n s 12 q = k + 1 := ⟨dist n s 12 q - 1, by omega⟩
  rw [hk] at d2 d3 d1 ⊢
  have d2' : hit n s (nx n q) k = true := d2
  obtain ⟨e1, e2, e3⟩ := dist_is 12 (nx n q) k (by omega) d2'
  rcases Nat.lt_or_ge (dist n s 12 (nx n q)) k with h | h
  · have := d3 (dist n s 12 (nx n q) + 1) (by omega)
    have e2' : hit n s q (dist n s 12 (nx n q) + 1) = true := e2
    rw [this] at e2'; cases e2'
  · omega
theorem dist_le {n : Nat} {s : Nat → Bool} : ∀ (f : Nat) (q : Bool × Nat), dist n s f q ≤ f
  | 0, _ => Nat.le_refl _
  | f + 1, q => by
    have := dist_le (n := n) (s := s) f (nx n q)
    unfold dist; split <;> omega

/-- What holds of a carriage at work. -/
structure Inv (T : Tr) (c : Car) : Prop where
  pos : c.pos < T.rcs.length
  pin : ∀ i, c.pins i = true → i < 2 * T.rcs.length
  go : c.going = true → hasNext T.rcs.length c.up c.pos = true ∧ c.side = -1
  he : c.heard ≤ c.time ∧ -1 ≤ c.heard
  sd : c.side = -1 ∨ (0 ≤ c.side ∧ c.side < 2 * (T.rcs.length : Int))
/-- What is left to do until something is heard or played. -/
def psi (T : Tr) (c : Car) : Nat :=
  let q := (c.up, c.pos)
  if noneSet c.pins then (if c.side ≠ -1 then 4 else if c.going then 3 else if fresh T.prs c.heard c.time = 0 then 1 else 0)
  else if c.side ≠ -1 then 3 * dist T.rcs.length c.pins 12 (nx T.rcs.length q) + 2
  else if c.going then 3 * dist T.rcs.length c.pins 12 (nx T.rcs.length q) + 1
  else 3 * dist T.rcs.length c.pins 12 q
def phi (T : Tr) (c : Car) : Nat := 2 * yet T.prs c.heard + cnt c.pins
def mes (T : Tr) (c : Car) : Nat := 100 * phi T c + psi T c
theorem psi_lt (T : Tr) (c : Car) : psi T c < 100 := by
  have h1 := dist_le (n := T.rcs.length) (s := c.pins) 12 (nx T.rcs.length (c.up, c.pos))
  have h2 := dist_le (n := T.rcs.length) (s := c.pins) 12 (c.up, c.pos)
  unfold psi
  dsimp only
  repeat' split
  all_goals omega

theorem next_is (t : Int) : ∀ (prs : List (Int × Int)) (m : Int), prs.foldl (next1 t) m = m ∨ ∃ p ∈ prs, t < p.2 ∧ prs.foldl (next1 t) m = p.2
  | [], m => .inl rfl
  | p :: prs, m => by
    rw [List.foldl_cons]
    rcases next_is t prs (next1 t m p) with h | ⟨q, hq, h1, h2⟩
    · rw [h]
      unfold next1
      by_cases hp : t < p.2
      · rw [if_pos hp]
        rcases Int.le_total m p.2 with hm | hm
        · left; omega
        · exact .inr ⟨p, by simp, hp, by omega⟩
      · rw [if_neg hp]; exact .inl rfl
    · exact .inr ⟨q, List.mem_cons_of_mem _ hq, h1, h2⟩
theorem secs_le {T : Tr} (hv : VT T) {k : Nat} (hk : k < 2 * T.rcs.length) : 1 ≤ secs T k ∧ secs T k ≤ 999 := by
  have hl : k / 2 < T.rcs.length := by omega
  have h := hv.rc _ (List.getElem_mem hl)
  have e : T.rcs.getD (k / 2) (0, 0) = T.rcs[k / 2] := by simp [List.getD, hl]
  unfold secs
  rw [e]
  split <;> omega
theorem side_lt {n : Nat} {up : Bool} {pos : Nat} (h : pos < n) : sideAt up pos < 2 * n := by
  unfold sideAt; split <;> omega
theorem hear_inv {T : Tr} (hv : VT T) {c : Car} (hi : Inv T c) : Inv T (hearC T c) :=
  ⟨hi.pos, fun i h => hear_lt T.prs c.pins (fun p hp => ⟨(hv.pr p hp).1, (hv.pr p hp).2.1⟩) hi.pin i h, hi.go, ⟨Int.le_refl _, by have := hi.he; show -1 ≤ c.time; omega⟩, hi.sd⟩
theorem leave_inv {T : Tr} (hv : VT T) {c : Car} (hi : Inv T c) (hg : c.going = false) (hs : c.side = -1) : Inv T (leaveC T c) := by
  unfold leaveC
  split
  · rename_i h
    exact ⟨hi.pos, hi.pin, fun _ => ⟨h, hs⟩, ⟨by have := hi.he; have := hv.st; show c.heard ≤ c.time + T.step; omega, hi.he.2⟩, hi.sd⟩
  · exact ⟨hi.pos, hi.pin, fun h => (by rw [show ({ c with up := !c.up } : Car).going = c.going from rfl, hg] at h; cases h), hi.he, hi.sd⟩
theorem act_inv {T : Tr} (hv : VT T) {c : Car} (hi : Inv T c) (hm : c.time ≤ maxI) : Inv T (actC T c) := by
  unfold actC
  by_cases hg : c.going = true
  · rw [if_pos hg]
    obtain ⟨h1, h2⟩ := hi.go hg
    refine ⟨?_, hi.pin, fun h => (by cases h), hi.he, hi.sd⟩
    have hp := hi.pos
    show (if c.up then c.pos + 1 else c.pos - 1) < _
    unfold hasNext at h1
    split at h1 <;> rename_i hu
    · rw [if_pos hu]; simpa using h1
    · rw [if_neg hu]; omega
  · rw [if_neg hg]
    have hgf : c.going = false := by simpa using hg
    by_cases hs : c.side ≠ -1
    · rw [if_pos hs]
      exact leave_inv hv (c := { c with side := -1 }) ⟨hi.pos, hi.pin, fun h => absurd h hg, hi.he, .inl rfl⟩ hgf rfl
    · rw [if_neg hs]
      have hs1 : c.side = -1 := by omega
      by_cases hn : noneSet c.pins = true
      · rw [if_pos hn]
        have hx : c.time ≤ nextP T.prs c.time := by
          rcases next_is c.time T.prs maxI with h | ⟨p, _, h1, h2⟩
          · unfold nextP; rw [h]; exact hm
          · unfold nextP; rw [h2]; omega
        exact ⟨hi.pos, hi.pin, fun h => absurd h hg, ⟨by have := hi.he; show c.heard ≤ nextP T.prs c.time; omega, hi.he.2⟩, hi.sd⟩
      · rw [if_neg hn]
        by_cases hp : c.pins (sideAt c.up c.pos) = true
        · rw [if_pos hp]
          have hl := side_lt (up := c.up) hi.pos
          have hsec := secs_le hv hl
          refine ⟨hi.pos, fun i h => ?_, fun h => absurd h hg, ⟨by have := hi.he; show c.heard ≤ c.time + secs T _; omega, hi.he.2⟩, .inr ⟨by show (0 : Int) ≤ (sideAt c.up c.pos : Nat); omega, by show ((sideAt c.up c.pos : Nat) : Int) < _; omega⟩⟩
          have h' : (c.pins i && !decide (i = sideAt c.up c.pos)) = true := h
          rw [Bool.and_eq_true] at h'
          exact hi.pin i h'.1
        · rw [if_neg hp]
          exact leave_inv hv hi hgf hs1
theorem act_time {T : Tr} (hv : VT T) {c : Car} (hi : Inv T c) : (c.time ≤ (actC T c).time ∧ (actC T c).time ≤ c.time + 999) ∨ (0 ≤ (actC T c).time ∧ (actC T c).time ≤ 9999) ∨ (actC T c).time = maxI := by
  have hst := hv.st
  have hlv : ∀ d : Car, d.time = c.time → (leaveC T d).time = c.time ∨ (leaveC T d).time = c.time + T.step := fun d h => by
    unfold leaveC
    split
    · right; show d.time + T.step = _; rw [h]
    · left; exact h
  unfold actC
  by_cases hg : c.going = true
  · rw [if_pos hg]; left; exact ⟨Int.le_refl _, by show c.time ≤ _; omega⟩
  · rw [if_neg hg]
    by_cases hs : c.side ≠ -1
    · rw [if_pos hs]; left
      rcases hlv { c with side := -1 } rfl with h | h <;> rw [h] <;> omega
    · rw [if_neg hs]
      by_cases hn : noneSet c.pins = true
      · rw [if_pos hn]
        right
        rcases next_is c.time T.prs maxI with h | ⟨p, hp, h1, h2⟩
        · right; exact h
        · left
          have := hv.pr p hp
          show 0 ≤ nextP T.prs c.time ∧ nextP T.prs c.time ≤ 9999
          unfold nextP; rw [h2]; omega
      · rw [if_neg hn]
        by_cases hp : c.pins (sideAt c.up c.pos) = true
        · rw [if_pos hp]; left
          have hsec := secs_le hv (side_lt (up := c.up) hi.pos)
          show c.time ≤ c.time + secs T _ ∧ c.time + secs T _ ≤ _
          omega
        · rw [if_neg hp]; left
          rcases hlv c rfl with h | h <;> rw [h] <;> omega
theorem nx_go {n : Nat} {up : Bool} {pos : Nat} (h : hasNext n up pos = true) : nx n (up, pos) = (up, if up then pos + 1 else pos - 1) := by unfold nx; rw [if_pos h]
theorem nx_turn {n : Nat} {up : Bool} {pos : Nat} (h : ¬ hasNext n up pos = true) : nx n (up, pos) = (!up, pos) := by unfold nx; rw [if_neg h]
theorem fresh_self (prs : List (Int × Int)) (t : Int) : fresh prs t t = 0 := by
  unfold fresh
  rw [List.countP_eq_zero]
  intro p _
  simp
theorem leave_psi {T : Tr} {c : Car} (hg : c.going = false) (hs : c.side = -1) :
    psi T (leaveC T c) ≤ if noneSet c.pins then 3 else 3 * dist T.rcs.length c.pins 12 (nx T.rcs.length (c.up, c.pos)) + 1 := by
  unfold leaveC
  by_cases h : hasNext T.rcs.length c.up c.pos = true
  · rw [if_pos h]
    unfold psi
    dsimp only
    by_cases hn : noneSet c.pins = true
    · rw [if_pos hn, if_pos hn, if_neg (by omega), if_pos rfl]; omega
    · rw [if_neg hn, if_neg hn, if_neg (by omega), if_pos rfl]; omega
  · rw [if_neg h, nx_turn h]
    unfold psi
    dsimp only
    rw [hg]
    by_cases hn : noneSet c.pins = true
    · rw [if_pos hn, if_pos hn, if_neg (by omega), if_neg (by simp)]; split <;> omega
    · rw [if_neg hn, if_neg hn, if_neg (by omega), if_neg (by simp)]; omega
/-- Each round leaves less to do. -/
theorem mes_step {T : Tr} (hv : VT T) {c : Car} (hi : Inv T c) (_ht : 0 ≤ c.time) : mes T (stepC T c) < mes T c ∨ (stepC T c).time = maxI := by
  have hn6 := hv.n6
  have hcnt := hear_cnt hi.he.1 T.prs c.pins (fun p hp => by have := hv.pr p hp; omega)
  have hi1 := hear_inv hv hi
  have h100 := psi_lt T (stepC T c)
  -- what is done leaves phi, or less
  have hact : ∀ d : Car, phi T (actC T d) ≤ phi T d := fun d => by
    have hlv : ∀ d : Car, phi T (leaveC T d) = phi T d := fun d => by unfold leaveC; split <;> rfl
    unfold actC
    split
    · exact Nat.le_refl _
    · split
      · rw [hlv]; exact Nat.le_refl _
      · split
        · exact Nat.le_refl _
        · split
          · rename_i hp
            rcases Nat.lt_or_ge (sideAt d.up d.pos) 12 with h | h
            · have := cnt_off d.pins h hp
              show 2 * yet T.prs d.heard + cnt (fun i => d.pins i && !decide (i = sideAt d.up d.pos)) ≤ _
              unfold phi; omega
            · have e : cnt (fun i => d.pins i && !decide (i = sideAt d.up d.pos)) = cnt d.pins := by
                unfold cnt
                have : ∀ k, k < 12 → (d.pins k && !decide (k = sideAt d.up d.pos)) = d.pins k := fun k hk => by
                  rw [decide_eq_false (by omega)]; simp
                dsimp only
                rw [this 0 (by omega), this 1 (by omega), this 2 (by omega), this 3 (by omega), this 4 (by omega), this 5 (by omega), this 6 (by omega), this 7 (by omega), this 8 (by omega), this 9 (by omega), this 10 (by omega), this 11 (by omega)]
              show 2 * yet T.prs d.heard + cnt (fun i => d.pins i && !decide (i = sideAt d.up d.pos)) ≤ _
              rw [e]; exact Nat.le_refl _
          · rw [hlv]; exact Nat.le_refl _
  have hphi : phi T (hearC T c) + fresh T.prs c.heard c.time ≤ phi T c := hcnt
  by_cases hf : fresh T.prs c.heard c.time = 0
  · have hpins : (hearC T c).pins = c.pins := hear_none T.prs c.pins hf
    have hle : phi T (stepC T c) ≤ phi T c := Nat.le_trans (hact _) (by omega)
    -- psi falls, or phi
    suffices h : psi T (stepC T c) < psi T c ∨ phi T (stepC T c) < phi T c ∨ (stepC T c).time = maxI by
      unfold mes
      rcases h with h | h | h
      · left; omega
      · left; omega
      · right; exact h
    have e : stepC T c = actC T (hearC T c) := rfl
    rw [e]
    have e1 : (hearC T c).going = c.going := rfl
    have e2 : (hearC T c).side = c.side := rfl
    have e3 : (hearC T c).up = c.up := rfl
    have e4 : (hearC T c).pos = c.pos := rfl
    have e5 : (hearC T c).heard = c.time := rfl
    have e6 : (hearC T c).time = c.time := rfl
    generalize hearC T c = d at *
    unfold actC
    by_cases hg : c.going = true
    · left
      rw [if_pos (by rw [e1]; exact hg)]
      obtain ⟨h1, h2⟩ := hi.go hg
      have hq : (arriveC d).up = c.up ∧ (arriveC d).pos = (if c.up then c.pos + 1 else c.pos - 1) ∧ (arriveC d).pins = c.pins ∧ (arriveC d).side = -1 ∧ (arriveC d).going = false ∧ (arriveC d).heard = c.time ∧ (arriveC d).time = c.time :=
        ⟨e3, by show (if d.up then d.pos + 1 else d.pos - 1) = _; rw [e3, e4], hpins, by show d.side = -1; rw [e2, h2], rfl, e5, e6⟩
      obtain ⟨q1, q2, q3, q4, q5, q6, q7⟩ := hq
      by_cases hn : noneSet c.pins = true
      · simp [psi, q3, q4, q5, q6, q7, h2, hg, hn, fresh_self]
      · simp [psi, q1, q2, q3, q4, q5, h2, hg, nx_go h1, hn]
    · rw [if_neg (by rw [e1]; exact hg)]
      have hgf : c.going = false := by simpa using hg
      by_cases hs : c.side ≠ -1
      · left
        rw [if_pos (by rw [e2]; exact hs)]
        have h := leave_psi (T := T) (c := { d with side := -1 }) (by show d.going = false; rw [e1, hgf]) rfl
        refine Nat.lt_of_le_of_lt h ?_
        show (if noneSet d.pins then 3 else 3 * dist T.rcs.length d.pins 12 (nx T.rcs.length (d.up, d.pos)) + 1) < _
        rw [hpins, e3, e4]
        unfold psi
        dsimp only
        by_cases hn : noneSet c.pins = true
        · rw [if_pos hn, if_pos hn, if_pos hs]; omega
        · rw [if_neg hn, if_neg hn, if_pos hs]; omega
      · have hs1 : c.side = -1 := by omega
        rw [if_neg (by rw [e2]; omega)]
        by_cases hn : noneSet c.pins = true
        · rw [if_pos (by rw [hpins]; exact hn)]
          rcases next_is d.time T.prs maxI with h | ⟨p, hp, h1, h2⟩
          · right; right; exact h
          · left
            have hfr : fresh T.prs d.heard (nextP T.prs d.time) ≠ 0 := by
              unfold fresh nextP
              rw [h2]
              intro h0
              rw [List.countP_eq_zero] at h0
              have := h0 p hp
              rw [e5] at this
              rw [e6] at h1
              simp at this; omega
            unfold psi
            dsimp only
            rw [hpins, e2, e1, hs1, hgf, if_pos hn, if_pos hn, if_neg (by omega), if_neg (by simp), if_neg hfr, if_neg (by omega), if_neg (by simp), if_pos hf]
            omega
        · rw [if_neg (by rw [hpins]; exact hn)]
          by_cases hp : c.pins (sideAt c.up c.pos) = true
          · right; left
            rw [e3, e4, hpins, if_pos hp]
            have hl := side_lt (up := c.up) hi.pos
            have := cnt_off c.pins (by omega) hp
            show 2 * yet T.prs d.heard + cnt (fun i => d.pins i && !decide (i = sideAt c.up c.pos)) < _
            rw [hpins]
            have h3 : 2 * yet T.prs d.heard + cnt d.pins ≤ phi T c := by unfold phi at hphi ⊢; omega
            rw [hpins] at h3
            omega
          · left
            rw [e3, e4, hpins, if_neg hp]
            have h := leave_psi (T := T) (c := d) (by rw [e1, hgf]) (by rw [e2, hs1])
            rw [hpins, e3, e4, if_neg hn] at h
            refine Nat.lt_of_le_of_lt h ?_
            have hex : ∃ i, c.pins i = true ∧ i < 2 * T.rcs.length := by
              have h0 : ¬ ∀ i, i < 12 → c.pins i = false := fun h => hn ((none_iff _).2 h)
              apply Classical.byContradiction
              intro hc
              refine h0 fun i hi' => ?_
              cases hpi : c.pins i
              · rfl
              · exact absurd ⟨i, hpi, hi.pin i hpi⟩ hc
            obtain ⟨i, hpi, hi2⟩ := hex
            obtain ⟨j, hj, hji⟩ := all_reached T.rcs.length (by omega) c.pos hi.pos c.up i hi2
            have hd := dist_next (n := T.rcs.length) (s := c.pins) (q := (c.up, c.pos)) hj (by unfold hit; rw [hji]; exact hpi) (by unfold hit nxs; simpa using hp)
            unfold psi
            dsimp only
            rw [if_neg hn, if_neg (by omega), hgf, if_neg (by simp)]
            omega
  · left
    have hle : phi T (stepC T c) + 1 ≤ phi T c := by have := hact (hearC T c); unfold stepC; omega
    unfold mes
    omega
theorem iter_shift (T : Tr) : ∀ (j : Nat) (c : Car), iterC T (j + 1) c = iterC T j (stepC T c)
  | 0, _ => rfl
  | j + 1, c => by
    show stepC T (iterC T (j + 1) c) = stepC T (iterC T j (stepC T c))
    rw [iter_shift T j c]
theorem step_inv {T : Tr} (hv : VT T) {c : Car} (hi : Inv T c) (hm : c.time ≤ maxI) : Inv T (stepC T c) := act_inv hv (hear_inv hv hi) hm
theorem step_time {T : Tr} (hv : VT T) {c : Car} (hi : Inv T c) : (c.time ≤ (stepC T c).time ∧ (stepC T c).time ≤ c.time + 999) ∨ (0 ≤ (stepC T c).time ∧ (stepC T c).time ≤ 9999) ∨ (stepC T c).time = maxI := act_time hv (hear_inv hv hi)
/-- The carriage comes to each time, after finitely many rounds. -/
theorem exits {T : Tr} (hv : VT T) {b : Int} (hb : b ≤ maxI) : ∀ (M : Nat) (c : Car), Inv T c → 0 ≤ c.time → mes T c ≤ M → ∃ K, K ≤ M + 1 ∧ b ≤ (iterC T K c).time ∧ ∀ j, j < K → (iterC T j c).time < b := by
  intro M
  induction M with
  | zero =>
    intro c hi h0 hm
    by_cases hc : b ≤ c.time
    · exact ⟨0, by omega, hc, fun j hj => by omega⟩
    · rcases mes_step hv hi h0 with h | h
      · omega
      · exact ⟨1, by omega, by show b ≤ (stepC T c).time; omega, fun j hj => by
          obtain rfl : j = 0 := by omega
          show c.time < b; omega⟩
  | succ M ih =>
    intro c hi h0 hm
    by_cases hc : b ≤ c.time
    · exact ⟨0, by omega, hc, fun j hj => by omega⟩
    · rcases mes_step hv hi h0 with h | h
      · have hb1 : c.time ≤ maxI := by omega
        have h0' : 0 ≤ (stepC T c).time := by
          rcases step_time hv hi with h | h | h
          · omega
          · omega
          · rw [h]; unfold maxI; omega
        obtain ⟨K, k1, k2, k3⟩ := ih (stepC T c) (step_inv hv hi hb1) h0' (by omega)
        refine ⟨K + 1, by omega, by rw [iter_shift]; exact k2, fun j hj => ?_⟩
        cases j with
        | zero => show c.time < b; omega
        | succ j => rw [iter_shift]; exact k3 j (by omega)
      · exact ⟨1, by omega, by show b ≤ (stepC T c).time; omega, fun j hj => by
          obtain rfl : j = 0 := by omega
          show c.time < b; omega⟩
theorem start_inv {T : Tr} (hv : VT T) : Inv T (startC T) := ⟨hv.at0, fun i h => (by cases h), fun h => (by cases h), ⟨(by show (-1 : Int) ≤ 0; omega), (by show (-1 : Int) ≤ -1; omega)⟩, .inl rfl⟩
theorem start_mes {T : Tr} (hv : VT T) : mes T (startC T) ≤ 2699 := by
  have h1 := psi_lt T (startC T)
  have h2 : yet T.prs (startC T).heard ≤ 13 := Nat.le_trans (List.countP_le_length) hv.p13
  have h3 : cnt (startC T).pins = 0 := rfl
  unfold mes phi
  rw [h3]
  omega
/-- Numbers of a carriage that has made j rounds. -/
structure Rng (T : Tr) (c : Car) (j : Nat) : Prop where
  inv : Inv T c
  t0 : 0 ≤ c.time
  tb : c.time ≤ 9999 + 999 * (j : Int) ∨ c.time = maxI
  pl : c.plays.length ≤ j
  pb : ∀ p ∈ c.plays, 0 ≤ p.1 ∧ p.1 < 12 ∧ 0 ≤ p.2 ∧ p.2 ≤ 9999 + 999 * (j : Int)
  sb : c.steps ≤ j
  fb : 0 ≤ c.fin ∧ c.fin ≤ 9999 + 999 * (j : Int)
theorem rng_step {T : Tr} (hv : VT T) {c : Car} {j : Nat} (h : Rng T c j) (ht : c.time < maxI) : Rng T (stepC T c) (j + 1) := by
  have htb : c.time ≤ 9999 + 999 * (j : Int) := by
    rcases h.tb with h | h
    · exact h
    · omega
  have hn6 := hv.n6
  have hst := step_time hv h.inv
  have hi := step_inv hv h.inv (by omega)
  have hh := hear_inv hv h.inv
  have h0 := h.t0
  have hpb : ∀ p ∈ c.plays, 0 ≤ p.1 ∧ p.1 < 12 ∧ 0 ≤ p.2 ∧ p.2 ≤ 9999 + 999 * ((j + 1 : Nat) : Int) := fun p hp => by have := h.pb p hp; omega
  have hmaxi : (0 : Int) ≤ maxI := by unfold maxI; omega
  have hlv : ∀ d : Car, d.plays = c.plays → d.steps = c.steps → d.fin = c.fin → (leaveC T d).plays = c.plays ∧ (leaveC T d).steps = c.steps ∧ (leaveC T d).fin = c.fin := fun d h1 h2 h3 => by
    unfold leaveC; split <;> exact ⟨h1, h2, h3⟩
  have a1 : 0 ≤ (stepC T c).time := by
    rcases hst with h | h | h
    · omega
    · omega
    · omega
  have a2 : (stepC T c).time ≤ 9999 + 999 * ((j + 1 : Nat) : Int) ∨ (stepC T c).time = maxI := by
    rcases hst with h | h | h
    · left; omega
    · left; omega
    · right; exact h
  suffices hk : (stepC T c).plays.length ≤ j + 1 ∧ (∀ p ∈ (stepC T c).plays, 0 ≤ p.1 ∧ p.1 < 12 ∧ 0 ≤ p.2 ∧ p.2 ≤ 9999 + 999 * ((j + 1 : Nat) : Int)) ∧ (stepC T c).steps ≤ j + 1 ∧ 0 ≤ (stepC T c).fin ∧ (stepC T c).fin ≤ 9999 + 999 * ((j + 1 : Nat) : Int) from
    ⟨hi, a1, a2, hk.1, hk.2.1, hk.2.2.1, hk.2.2.2⟩
  have hpl := h.pl; have hsb := h.sb; have hfb := h.fb
  have e : stepC T c = actC T (hearC T c) := rfl
  rw [e]
  have e1 : (hearC T c).plays = c.plays := rfl
  have e2 : (hearC T c).steps = c.steps := rfl
  have e3 : (hearC T c).fin = c.fin := rfl
  have e4 : (hearC T c).time = c.time := rfl
  have hpos := hh.pos
  generalize hearC T c = d at *
  unfold actC
  split
  · refine ⟨?_, ?_, ?_, ?_⟩
    · show d.plays.length ≤ _; rw [e1]; omega
    · show ∀ p ∈ d.plays, _; rw [e1]; exact hpb
    · show d.steps + 1 ≤ _; rw [e2]; omega
    · show 0 ≤ d.fin ∧ d.fin ≤ _; rw [e3]; omega
  · split
    · obtain ⟨l1, l2, l3⟩ := hlv { d with side := -1 } e1 e2 e3
      rw [l1, l2, l3]
      exact ⟨by omega, hpb, by omega, by omega⟩
    · split
      · refine ⟨?_, ?_, ?_, ?_⟩
        · show d.plays.length ≤ _; rw [e1]; omega
        · show ∀ p ∈ d.plays, _; rw [e1]; exact hpb
        · show d.steps ≤ _; rw [e2]; omega
        · show 0 ≤ d.fin ∧ d.fin ≤ _; rw [e3]; omega
      · split
        · have hl := side_lt (up := d.up) hpos
          have hs := secs_le hv hl
          refine ⟨?_, ?_, ?_, ?_⟩
          · show (d.plays ++ [_]).length ≤ _; rw [e1, List.length_append, List.length_singleton]; omega
          · show ∀ p ∈ d.plays ++ [(((sideAt d.up d.pos : Nat) : Int), d.time)], _
            rw [e1, e4]
            intro p hp
            rcases List.mem_append.1 hp with hp | hp
            · exact hpb p hp
            · rw [List.mem_singleton.1 hp]; dsimp only; omega
          · show d.steps ≤ _; rw [e2]; omega
          · show 0 ≤ d.time + secs T _ ∧ d.time + secs T _ ≤ _; rw [e4]; omega
        · obtain ⟨l1, l2, l3⟩ := hlv d e1 e2 e3
          rw [l1, l2, l3]
          exact ⟨by omega, hpb, by omega, by omega⟩
theorem start_rng {T : Tr} (hv : VT T) : Rng T (startC T) 0 := ⟨start_inv hv, (by show (0 : Int) ≤ 0; omega), .inl (by show (0 : Int) ≤ 9999 + 999 * ((0 : Nat) : Int); omega), Nat.le_refl _, fun p hp => (by cases hp), Nat.le_refl _, ⟨(by show (0 : Int) ≤ 0; omega), (by show (0 : Int) ≤ 9999 + 999 * ((0 : Nat) : Int); omega)⟩⟩
/-- What run comes to: K rounds. -/
structure RunK (T : Tr) (b : Int) (K : Nat) : Prop where
  kb : K ≤ 2700
  out : b ≤ (iterC T K (startC T)).time
  lo : ∀ j, j < K → (iterC T j (startC T)).time < b
  rng : ∀ j, j ≤ K → Rng T (iterC T j (startC T)) j
theorem run_ex {T : Tr} (hv : VT T) {b : Int} (hb : b ≤ maxI) : ∃ K, RunK T b K := by
  obtain ⟨K, h1, h2, h3⟩ := exits hv hb 2699 (startC T) (start_inv hv) (by show (0 : Int) ≤ 0; omega) (start_mes hv)
  refine ⟨K, h1, h2, h3, fun j => ?_⟩
  induction j with
  | zero => intro _; exact start_rng hv
  | succ j ih =>
    intro hj
    have := h3 j (by omega)
    exact rng_step hv (ih (by omega)) (by omega)
theorem run_uni {T : Tr} {b : Int} {K L : Nat} (h : RunK T b K) (k : RunK T b L) : K = L := by
  rcases Nat.lt_trichotomy K L with e | e | e
  · have := k.lo K e; have := h.out; omega
  · exact e
  · have := h.lo L e; have := k.out; omega
/-- The carriage at a time, reckoned. -/
def goTo (T : Tr) (b : Int) : Nat → Car → Car
  | 0, c => c
  | f + 1, c => if c.time < b then goTo T b f (stepC T c) else c
theorem goTo_is {T : Tr} {b : Int} : ∀ (K f : Nat) (c : Car), K ≤ f → (∀ j, j < K → (iterC T j c).time < b) → b ≤ (iterC T K c).time → goTo T b f c = iterC T K c
  | 0, f, c, _, _, h => by
    have h' : b ≤ c.time := h
    cases f with
    | zero => rfl
    | succ f => unfold goTo; rw [if_neg (by omega)]; rfl
  | K + 1, f, c, hf, hl, h => by
    cases f with
    | zero => omega
    | succ f =>
      have h0 := hl 0 (by omega)
      have h0' : c.time < b := h0
      unfold goTo
      rw [if_pos h0', iter_shift]
      exact goTo_is K f (stepC T c) (by omega) (fun j hj => by have := hl (j + 1) (by omega); rw [iter_shift] at this; exact this) (by rw [← iter_shift]; exact h)
/-- The carriage at a time. -/
def runM (T : Tr) (b : Int) : Car := goTo T b 2700 (startC T)
theorem runM_is {T : Tr} {b : Int} {K : Nat} (h : RunK T b K) : runM T b = iterC T K (startC T) := goTo_is K 2700 _ h.kb h.lo h.out
/-- What is set when all presses up to a time are heard. -/
theorem hear_at (h t : Int) (i : Nat) : ∀ (prs : List (Int × Int)) (s : Nat → Bool), hearS prs h t s i = (s i || prs.any fun p => decide (h < p.2) && decide (p.2 ≤ t) && decide (i = p.1.toNat))
  | [], s => by simp [hearS]
  | p :: prs, s => by
    have e : hearS (p :: prs) h t s = hearS prs h t (hear1 h t s p) := rfl
    rw [e, hear_at h t i prs, List.any_cons]
    unfold hear1
    by_cases hp : h < p.2 ∧ p.2 ≤ t
    · rw [if_pos hp, decide_eq_true hp.1, decide_eq_true hp.2]
      simp only [Bool.true_and]
      cases decide (i = p.1.toNat) <;> cases s i <;> simp
    · rw [if_neg hp]
      have : (decide (h < p.2) && decide (p.2 ≤ t)) = false := by
        rw [← Bool.not_eq_true, Bool.and_eq_true, decide_eq_true_eq, decide_eq_true_eq]; exact hp
      rw [this]; simp
theorem hear_comp {prs : List (Int × Int)} {h m t : Int} (h1 : h ≤ m) (h2 : m ≤ t) (s : Nat → Bool) : hearS prs m t (hearS prs h m s) = hearS prs h t s := by
  funext i
  rw [hear_at, hear_at, hear_at, Bool.or_assoc]
  congr 1
  induction prs with
  | nil => rfl
  | cons p prs ih =>
    simp only [List.any_cons]
    rw [← ih]
    have : (decide (h < p.2) && decide (p.2 ≤ t) && decide (i = p.1.toNat)) = ((decide (h < p.2) && decide (p.2 ≤ m) && decide (i = p.1.toNat)) || (decide (m < p.2) && decide (p.2 ≤ t) && decide (i = p.1.toNat))) := by
      by_cases a1 : h < p.2 <;> by_cases a2 : p.2 ≤ t <;> by_cases a3 : p.2 ≤ m <;> by_cases a4 : m < p.2 <;> simp [a1, a2, a3, a4] <;> omega
    rw [this]
    generalize (decide (h < p.2) && decide (p.2 ≤ m) && decide (i = p.1.toNat)) = a
    generalize (decide (m < p.2) && decide (p.2 ≤ t) && decide (i = p.1.toNat)) = b
    generalize (prs.any fun p => decide (h < p.2) && decide (p.2 ≤ m) && decide (i = p.1.toNat)) = x
    generalize (prs.any fun p => decide (m < p.2) && decide (p.2 ≤ t) && decide (i = p.1.toNat)) = y
    cases a <;> cases b <;> cases x <;> cases y <;> rfl
end Go.Proofs.Ytknaljghpfeikaa
