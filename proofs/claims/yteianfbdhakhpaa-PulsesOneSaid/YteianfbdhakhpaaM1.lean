import Derived.Test.YteianfbdhakhpaaG1
/-! Trains of pulses: what is valid, parts, groups, lists of selections, sets of sparks, readings. -/
namespace Go.Proofs.Yteianfbdhakhpaa
set_option linter.unusedSimpArgs false
set_option linter.unusedVariables false
open Go.RowKit

def fromI (lo n hi : Int) : Bool := decide (lo ≤ n) && decide (n ≤ hi)
/-- A train. -/
structure Pu where
  l : Int
  n : Int
  pi : Int
  sl : Int
  ga : Int
  pa : Int
  sp : Int
  ts : List Int
def distB (X : Pu) : Bool := fromI 1 X.pi 99 && (fromI 0 X.sl (X.pi - 1) && (decide (X.pi + X.sl < X.ga) && (decide (X.ga < X.pa) && decide (X.pa ≤ 999))))
/-- A time that can come at a place. -/
def timeOk (ts : List Int) (i : Nat) : Bool := fromI 0 (ts.getD i 0) 99999 && (decide (i = 0) || decide (ts.getD (i - 1) 0 < ts.getD i 0))
def timesB (ts : List Int) : Bool := (List.range ts.length).all (timeOk ts) && decide (ts.length ≤ 24)
/-- Whether a train is valid. -/
def vB (X : Pu) : Bool := fromI 1 X.l 5 && (fromI 1 X.n 5 && (distB X && (fromI 0 X.sp 3 && timesB X.ts)))
/-- What a valid train is. -/
structure POk (X : Pu) : Prop where
  l : 1 ≤ X.l ∧ X.l ≤ 5
  n : 1 ≤ X.n ∧ X.n ≤ 5
  pi : 1 ≤ X.pi ∧ X.pi ≤ 99
  sl : 0 ≤ X.sl ∧ X.sl < X.pi
  ga : X.pi + X.sl < X.ga
  pa : X.ga < X.pa ∧ X.pa ≤ 999
theorem vB_ok {X : Pu} (h : vB X = true) : POk X ∧ (0 ≤ X.sp ∧ X.sp ≤ 3) ∧ timesB X.ts = true := by
  simp only [vB, distB, fromI, Bool.and_eq_true, decide_eq_true_eq] at h
  obtain ⟨h1, h2, h3, h4, h5⟩ := h
  exact ⟨⟨h1, h2, h3.1, by omega, h3.2.2.1, by omega⟩, h4, h5⟩
theorem all_range_no (f : Nat → Bool) {n k : Nat} (hk : k < n) (h : f k = false) : (List.range n).all f = false := by
  rw [← Bool.not_eq_true, List.all_eq_true]
  intro hh
  rw [hh k (List.mem_range.2 hk)] at h; cases h
theorem all_range_succ (f : Nat → Bool) (k : Nat) : (List.range (k + 1)).all f = ((List.range k).all f && f k) := by
  rw [List.range_succ, List.all_append]; simp
theorem timesB_rng {ts : List Int} (h : timesB ts = true) : ts.length ≤ 24 ∧ ∀ x ∈ ts, 0 ≤ x ∧ x ≤ 99999 := by
  simp only [timesB, Bool.and_eq_true, decide_eq_true_eq, List.all_eq_true, List.mem_range] at h
  refine ⟨h.2, fun x hx => ?_⟩
  obtain ⟨i, hi, rfl⟩ := List.getElem_of_mem hx
  have := h.1 i hi
  simp only [timeOk, fromI, Bool.and_eq_true, decide_eq_true_eq] at this
  rw [List.getD_eq_getElem?_getD, List.getElem?_eq_getElem hi] at this
  exact this.1

/-- Times whose distances are those of a group. -/
def adjB (X : Pu) : List Int → Bool
  | x :: y :: r => fromI (X.pi - X.sl) (y - x) (X.pi + X.sl) && adjB X (y :: r)
  | _ => true
def grB (X : Pu) (g : List Int) (m : Int) : Bool := adjB X g && decide ((g.length : Int) ≤ m)
/-- Parts between which distances are at least d; cur has begun. -/
def prt (d : Int) : List Int → List Int → List (List Int)
  | _, [] => []
  | cur, [x] => [cur ++ [x]]
  | cur, x :: y :: r => if d ≤ y - x then (cur ++ [x]) :: prt d [] (y :: r) else prt d (cur ++ [x]) (y :: r)
def prtL (d : Int) (ts : List Int) : List (List Int) := prt d [] ts
/-- The selection that a part is. -/
def selO (X : Pu) (p : List Int) : Option Int :=
  match prtL X.ga p with
  | [g0, g1] => if grB X g0 X.l && grB X g1 X.n then some (((g0.length : Int) - 1) * X.n + ((g1.length : Int) - 1)) else none
  | _ => none
def lofA (X : Pu) : List (List Int) → List Int → Option (List Int)
  | [], acc => some acc
  | p :: ps, acc => match selO X p with
    | none => none
    | some v => lofA X ps (acc ++ [v])
/-- The list of clean pulses. -/
def lof (X : Pu) (ts : List Int) : Option (List Int) := lofA X (prtL X.pa ts) []

theorem prt_len (d : Int) : ∀ (r cur : List Int), (prt d cur r).length ≤ r.length
  | [], _ => by simp [prt]
  | [x], _ => by simp [prt]
  | x :: y :: r, cur => by
    rw [prt]
    have h1 := prt_len d (y :: r) []
    have h2 := prt_len d (y :: r) (cur ++ [x])
    simp only [List.length_cons] at *
    split
    · simp only [List.length_cons]; omega
    · omega
theorem prt_sum (d : Int) : ∀ (r cur : List Int), ∀ p ∈ prt d cur r, p.length ≤ cur.length + r.length ∧ p ≠ []
  | [], _, p, h => by simp [prt] at h
  | [x], cur, p, h => by
    simp only [prt, List.mem_singleton] at h; subst h; simp
  | x :: y :: r, cur, p, h => by
    rw [prt] at h
    split at h
    · rcases List.mem_cons.1 h with rfl | h
      · simp
      · have := prt_sum d (y :: r) [] p h
        simp only [List.length_cons, List.length_nil] at *; exact ⟨by omega, this.2⟩
    · have := prt_sum d (y :: r) (cur ++ [x]) p h
      simp only [List.length_cons, List.length_append, List.length_nil] at *; exact ⟨by omega, this.2⟩
theorem selO_rng {X : Pu} (ok : POk X) {p : List Int} {v : Int} (h : selO X p = some v) : 0 ≤ v ∧ v < X.l * X.n ∧ v ≤ 24 := by
  unfold selO at h
  split at h
  next g0 g1 e =>
    split at h
    next hg =>
      simp only [grB, Bool.and_eq_true, decide_eq_true_eq] at hg
      simp only [Option.some.injEq] at h
      have h0 := (prt_sum X.ga p [] g0 (by unfold prtL at e; rw [e]; simp)).2
      have h1 := (prt_sum X.ga p [] g1 (by unfold prtL at e; rw [e]; simp)).2
      have h0' : 0 < g0.length := List.length_pos_iff.2 h0
      have h1' : 0 < g1.length := List.length_pos_iff.2 h1
      obtain ⟨l1, l2⟩ := ok.l
      obtain ⟨n1, n2⟩ := ok.n
      have e1 := hg.1.2
      have e2 := hg.2.2
      obtain ⟨a, ha⟩ : ∃ a, a = (g0.length : Int) - 1 := ⟨_, rfl⟩
      obtain ⟨b, hb⟩ : ∃ b, b = (g1.length : Int) - 1 := ⟨_, rfl⟩
      rw [← ha, ← hb] at h
      have m1 : a * X.n ≤ (X.l - 1) * X.n := Int.mul_le_mul_of_nonneg_right (by omega) (by omega)
      have m2 : 0 ≤ a * X.n := Int.mul_nonneg (by omega) (by omega)
      have m3 : X.l * X.n ≤ 5 * 5 := Int.mul_le_mul l2 n2 (by omega) (by omega)
      rw [Int.sub_mul, Int.one_mul] at m1
      generalize a * X.n = q at *
      generalize X.l * X.n = q2 at *
      omega
    next => cases h
  next => cases h
theorem lofA_len {X : Pu} : ∀ (ps : List (List Int)) (acc l : List Int), lofA X ps acc = some l → l.length = acc.length + ps.length
  | [], acc, l, h => by simp only [lofA, Option.some.injEq] at h; subst h; simp
  | p :: ps, acc, l, h => by
    rw [lofA] at h
    split at h
    · cases h
    · have := lofA_len ps _ l h
      simp only [List.length_append, List.length_cons, List.length_nil] at *; omega
theorem lofA_rng {X : Pu} (ok : POk X) : ∀ (ps : List (List Int)) (acc l : List Int), (∀ v ∈ acc, 0 ≤ v ∧ v < X.l * X.n ∧ v ≤ 24) → lofA X ps acc = some l → ∀ v ∈ l, 0 ≤ v ∧ v < X.l * X.n ∧ v ≤ 24
  | [], acc, l, ha, h => by simp only [lofA, Option.some.injEq] at h; subst h; exact ha
  | p :: ps, acc, l, ha, h => by
    rw [lofA] at h
    split at h
    · cases h
    next v hv =>
      refine lofA_rng ok ps _ l (fun u hu => ?_) h
      rcases List.mem_append.1 hu with hu | hu
      · exact ha u hu
      · rw [List.mem_singleton.1 hu]; exact selO_rng ok hv
theorem lof_rng {X : Pu} (ok : POk X) {ts l : List Int} (h : lof X ts = some l) : l.length ≤ ts.length ∧ ∀ v ∈ l, 0 ≤ v ∧ v < X.l * X.n ∧ v ≤ 24 := by
  refine ⟨?_, lofA_rng ok _ [] l (by simp) h⟩
  have := lofA_len _ _ _ h
  have h2 := prt_len X.pa ts []
  unfold prtL at this
  simp only [List.length_nil] at *; omega

def inL (x : Int) (l : List Int) : Bool := l.any fun y => x == y
/-- Times without some pulses; k is the number of the first one. -/
def woA (sp : List Int) : Nat → List Int → List Int
  | _, [] => []
  | k, x :: r => if inL (k : Int) sp = true then woA sp (k + 1) r else x :: woA sp (k + 1) r
def woL (ts sp : List Int) : List Int := woA sp 0 ts
theorem woA_len (sp : List Int) : ∀ (r : List Int) (k : Nat), (woA sp k r).length ≤ r.length
  | [], _ => by simp [woA]
  | x :: r, k => by
    rw [woA]
    have := woA_len sp r (k + 1)
    split
    · simp only [List.length_cons]; omega
    · simp only [List.length_cons]; omega
theorem woA_mem (sp : List Int) : ∀ (r : List Int) (k : Nat), ∀ x ∈ woA sp k r, x ∈ r
  | [], _, x, h => by simp [woA] at h
  | y :: r, k, x, h => by
    rw [woA] at h
    split at h
    · exact List.mem_cons_of_mem _ (woA_mem sp r (k + 1) x h)
    · rcases List.mem_cons.1 h with rfl | h
      · exact List.mem_cons_self
      · exact List.mem_cons_of_mem _ (woA_mem sp r (k + 1) x h)
theorem woA_nil : ∀ (r : List Int) (k : Nat), woA [] k r = r
  | [], _ => rfl
  | x :: r, k => by rw [woA, woA_nil r (k + 1)]; simp [inL]

/-- A set, and all into which it grows by at most m numbers from low on. -/
def setsG (e : Nat) : Nat → Nat → List Int → List (List Int)
  | 0, _, f => [f]
  | m + 1, low, f => f :: (List.range' low (e - low)).flatMap fun n => setsG e m (n + 1) (f ++ [(n : Int)])
/-- What comes of the numbers below k. -/
def setsN (e m low : Nat) (f : List Int) (k : Nat) : List (List Int) := (List.range' low (k - low)).flatMap fun n => setsG e m (n + 1) (f ++ [(n : Int)])
theorem setsG_succ (e m low : Nat) (f : List Int) : setsG e (m + 1) low f = [f] ++ setsN e m low f e := rfl
theorem setsN_zero (e m low : Nat) (f : List Int) : setsN e m low f low = [] := by simp [setsN]
theorem setsN_next {e m low k : Nat} {f : List Int} (h : low ≤ k) : setsN e m low f (k + 1) = setsN e m low f k ++ setsG e m (k + 1) (f ++ [(k : Int)]) := by
  unfold setsN
  rw [show k + 1 - low = (k - low) + 1 by omega, List.range'_concat, List.flatMap_append]
  simp only [List.flatMap_cons, List.flatMap_nil, List.append_nil]
  rw [show low + 1 * (k - low) = k by omega]
theorem setsN_split {e m low k : Nat} {f : List Int} (h : low ≤ k) (hk : k < e) : ∃ post, setsN e m low f e = setsN e m low f k ++ setsG e m (k + 1) (f ++ [(k : Int)]) ++ post := by
  have hh : ∀ j, k + 1 ≤ j → ∃ post, setsN e m low f j = setsN e m low f (k + 1) ++ post := fun j hj => by
    induction j with
    | zero => omega
    | succ j ih =>
      by_cases he : j = k
      · subst he; exact ⟨[], by simp⟩
      · obtain ⟨post, hp⟩ := ih (by omega)
        exact ⟨post ++ setsG e m (j + 1) (f ++ [(j : Int)]), by rw [setsN_next (by omega), hp, List.append_assoc]⟩
  obtain ⟨post, hp⟩ := hh e (by omega)
  exact ⟨post, by rw [hp, setsN_next h]⟩
theorem setsG_len (e : Nat) : ∀ (m low : Nat) (f : List Int), (setsG e m low f).length ≤ (e + 1) ^ m
  | 0, low, f => by simp [setsG]
  | m + 1, low, f => by
    have hN : ∀ k, (setsN e m low f (low + k)).length ≤ k * (e + 1) ^ m := fun k => by
      induction k with
      | zero => rw [Nat.add_zero, setsN_zero]; simp
      | succ k ih =>
        rw [show low + (k + 1) = low + k + 1 by omega, setsN_next (by omega), List.length_append, Nat.succ_mul]
        have := setsG_len e m (low + k + 1) (f ++ [((low + k : Nat) : Int)])
        omega
    rw [setsG_succ, List.length_append, Nat.pow_succ, Nat.mul_comm]
    have h0 : 0 < (e + 1) ^ m := Nat.pow_pos (by omega)
    by_cases hl : low ≤ e
    · have := hN (e - low)
      rw [show low + (e - low) = e by omega] at this
      have h2 : (e - low) * (e + 1) ^ m ≤ e * (e + 1) ^ m := Nat.mul_le_mul_right _ (by omega)
      rw [Nat.succ_mul]
      simp only [List.length_cons, List.length_nil]; omega
    · have : setsN e m low f e = [] := by unfold setsN; rw [show e - low = 0 by omega]; rfl
      rw [this, Nat.succ_mul]
      simp only [List.length_cons, List.length_nil]; omega
/-- Rising numbers from low on and below e. -/
def risF (e : Nat) : Nat → List Int → Prop
  | _, [] => True
  | low, x :: r => ∃ n : Nat, x = (n : Int) ∧ low ≤ n ∧ n < e ∧ risF e (n + 1) r
theorem setsG_mem (e : Nat) : ∀ (m low : Nat) (f s : List Int), s ∈ setsG e m low f ↔ ∃ t, s = f ++ t ∧ t.length ≤ m ∧ risF e low t
  | 0, low, f, s => by
    simp only [setsG, List.mem_singleton]
    constructor
    · rintro rfl; exact ⟨[], by simp, by simp, trivial⟩
    · rintro ⟨t, rfl, h, _⟩
      have : t = [] := List.eq_nil_of_length_eq_zero (by omega)
      subst this; simp
  | m + 1, low, f, s => by
    rw [setsG, List.mem_cons, List.mem_flatMap]
    constructor
    · rintro (rfl | ⟨n, hn, hs⟩)
      · exact ⟨[], by simp, by simp, trivial⟩
      · rw [List.mem_range'_1] at hn
        obtain ⟨t, rfl, ht, hr⟩ := (setsG_mem e m (n + 1) _ s).1 hs
        exact ⟨(n : Int) :: t, by simp, by simp; omega, n, rfl, hn.1, by omega, hr⟩
    · rintro ⟨t, rfl, ht, hr⟩
      cases t with
      | nil => exact .inl (by simp)
      | cons x r =>
        obtain ⟨n, rfl, h1, h2, h3⟩ := hr
        refine .inr ⟨n, by rw [List.mem_range'_1]; omega, (setsG_mem e m (n + 1) _ _).2 ⟨r, by simp, by simpa using ht, h3⟩⟩
/-- The reading that a set of sparks is. -/
def rdO (X : Pu) (s : List Int) : Option (List Int × List Int) := (lof X (woL X.ts s)).map fun l => (s, l)
/-- All readings with at most m sparks, in the order of the sets. -/
def rdL (X : Pu) (m : Nat) : List (List Int × List Int) := (setsG X.ts.length m 0 []).filterMap (rdO X)
theorem rdL_len (X : Pu) (m : Nat) (h : X.ts.length ≤ 24) (hm : m ≤ 3) : (rdL X m).length ≤ 15625 := by
  refine Nat.le_trans (List.length_filterMap_le _ _) (Nat.le_trans (setsG_len _ _ _ _) ?_)
  refine Nat.le_trans (Nat.pow_le_pow_left (show X.ts.length + 1 ≤ 25 by omega) m) (Nat.le_trans (Nat.pow_le_pow_right (by omega) hm) (by decide))
theorem rdL_mem {X : Pu} {m : Nat} {r : List Int × List Int} (h : r ∈ rdL X m) : r.1.length ≤ m ∧ risF X.ts.length 0 r.1 ∧ lof X (woL X.ts r.1) = some r.2 := by
  unfold rdL at h
  rw [List.mem_filterMap] at h
  obtain ⟨s, hs, hr⟩ := h
  obtain ⟨t, rfl, h1, h2⟩ := (setsG_mem _ _ _ _ _).1 hs
  unfold rdO at hr
  rw [Option.map_eq_some_iff] at hr
  obtain ⟨l, hl, rfl⟩ := hr
  exact ⟨by simpa using h1, by simpa using h2, hl⟩
end Go.Proofs.Yteianfbdhakhpaa
