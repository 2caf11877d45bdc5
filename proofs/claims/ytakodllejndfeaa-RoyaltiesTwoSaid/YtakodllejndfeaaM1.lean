import Derived.Test.YtakodllejndfeaaG1
/-! Royals: what is valid, what is whose. -/
namespace Go.Proofs.Ytakodllejndfeaa
set_option linter.unusedSimpArgs false
set_option linter.unusedVariables false

/-- A side. -/
structure Sd where
  pl : Int
  ps : List (Int × Int)
deriving DecidableEq
def sd0 : Sd := ⟨0, []⟩

def inI (lo x hi : Int) : Bool := decide (lo ≤ x) && decide (x ≤ hi)
theorem inI_iff {lo x hi : Int} : inI lo x hi = true ↔ lo ≤ x ∧ x ≤ hi := by simp [inI]
def whoA (ps : List (Int × Int)) (i : Nat) : Int := (ps.getD i (0, 0)).1
def pctA (ps : List (Int × Int)) (i : Nat) : Int := (ps.getD i (0, 0)).2
def sumP (ps : List (Int × Int)) : Int := (ps.map (·.2)).sum
def partB (n : Int) (ps : List (Int × Int)) (i : Nat) : Bool := inI 0 (whoA ps i) (n - 1) && (decide (i = 0) || decide (whoA ps (i - 1) < whoA ps i)) && inI 1 (pctA ps i) 100
def partsB (n : Int) (ps : List (Int × Int)) : Bool := (List.range ps.length).all (partB n ps)
/-- Whether a side is valid, of a royal with n writers. -/
def sideB (n : Int) (s : Sd) : Bool := partsB n s.ps && decide (sumP s.ps = 100) && inI 0 s.pl 9999
/-- Whether a royal is valid. -/
def vB (p : Int) (S : List Sd) (O : List Int) : Bool := decide (O.length ≤ 6) && decide (S.length ≤ 6) && O.all (fun x => inI 0 x 9999) && S.all (sideB O.length) && inI 0 p 9999

theorem sumP_snoc (ps : List (Int × Int)) (q : Int × Int) : sumP (ps ++ [q]) = sumP ps + q.2 := by simp [sumP, List.sum_append]
theorem all_range_no {n k : Nat} (f : Nat → Bool) (hk : k < n) (h : f k = false) : (List.range n).all f = false := by
  rw [← Bool.not_eq_true, List.all_eq_true]
  intro hh
  rw [hh k (List.mem_range.2 hk)] at h; cases h
theorem all_range_succ (f : Nat → Bool) (k : Nat) : (List.range (k + 1)).all f = ((List.range k).all f && f k) := by
  rw [List.range_succ, List.all_append]; simp
theorem take_snoc {α : Type} {l : List α} {k : Nat} {x : α} (h : l[k]? = some x) : l.take (k + 1) = l.take k ++ [x] := by
  rw [List.take_add_one, h]; rfl

/-- What is so of a valid side. -/
structure SOk (n : Nat) (s : Sd) : Prop where
  who : ∀ q ∈ s.ps, 0 ≤ q.1 ∧ q.1 < (n : Int)
  pct : ∀ q ∈ s.ps, 1 ≤ q.2 ∧ q.2 ≤ 100
  asc : ∀ i, 0 < i → i < s.ps.length → whoA s.ps (i - 1) < whoA s.ps i
  sum : sumP s.ps = 100
  pl : 0 ≤ s.pl ∧ s.pl ≤ 9999
/-- What is so of a valid royal. -/
structure VOk (p : Int) (S : List Sd) (O : List Int) : Prop where
  n6 : O.length ≤ 6
  m6 : S.length ≤ 6
  ow : ∀ x ∈ O, 0 ≤ x ∧ x ≤ 9999
  sd : ∀ s ∈ S, SOk O.length s
  p0 : 0 ≤ p
  p9 : p ≤ 9999
theorem mem_getDP {ps : List (Int × Int)} {q : Int × Int} (h : q ∈ ps) : ∃ i, i < ps.length ∧ ps.getD i (0, 0) = q := by
  obtain ⟨i, hi, rfl⟩ := List.mem_iff_getElem.1 h
  exact ⟨i, hi, by rw [List.getD_eq_getElem?_getD, List.getElem?_eq_getElem hi]; rfl⟩
theorem sideB_ok {n : Nat} {s : Sd} (h : sideB n s = true) : SOk n s := by
  unfold sideB partsB at h
  simp only [Bool.and_eq_true, decide_eq_true_eq, List.all_eq_true, List.mem_range, inI_iff] at h
  obtain ⟨⟨h1, h2⟩, h3⟩ := h
  have hp : ∀ i, i < s.ps.length → (0 ≤ whoA s.ps i ∧ whoA s.ps i ≤ n - 1) ∧ (i = 0 ∨ whoA s.ps (i - 1) < whoA s.ps i) ∧ (1 ≤ pctA s.ps i ∧ pctA s.ps i ≤ 100) := fun i hi => by
    have := h1 i hi
    unfold partB at this
    simp only [Bool.and_eq_true, Bool.or_eq_true, decide_eq_true_eq, inI_iff] at this
    exact ⟨this.1.1, this.1.2, this.2⟩
  refine ⟨fun q hq => ?_, fun q hq => ?_, fun i h0 hi => ?_, h2, h3⟩
  · obtain ⟨i, hi, rfl⟩ := mem_getDP hq
    have := (hp i hi).1
    unfold whoA at this
    omega
  · obtain ⟨i, hi, rfl⟩ := mem_getDP hq
    exact (hp i hi).2.2
  · have := (hp i hi).2.1
    omega
theorem vB_ok {p : Int} {S : List Sd} {O : List Int} (h : vB p S O = true) : VOk p S O := by
  unfold vB at h
  simp only [Bool.and_eq_true, decide_eq_true_eq, List.all_eq_true, inI_iff] at h
  obtain ⟨⟨⟨⟨h1, h2⟩, h3⟩, h4⟩, h5, h6⟩ := h
  exact ⟨h1, h2, h3, fun s hs => sideB_ok (h4 s hs), h5, h6⟩

/-- How many hundredths of a side are a writer's. -/
def pctOf (ps : List (Int × Int)) (who : Int) : Int := (ps.map fun q => if q.1 = who then q.2 else 0).sum
/-- How many hundredths of plays are a writer's. -/
def clS (S : List Sd) (who : Int) : Int := (S.map fun s => s.pl * pctOf s.ps who).sum
/-- How many plays there were. -/
def alS (S : List Sd) : Int := (S.map (·.pl)).sum
def clL (S : List Sd) (n : Nat) : List Int := (List.range n).map fun i => clS S (i : Nat)
theorem clL_len (S : List Sd) (n : Nat) : (clL S n).length = n := by simp [clL]
theorem clL_get (S : List Sd) {n i : Nat} (h : i < n) : (clL S n)[i]? = some (clS S (i : Nat)) := by simp [clL, h]
theorem pctOf_snoc (ps : List (Int × Int)) (q : Int × Int) (w : Int) : pctOf (ps ++ [q]) w = pctOf ps w + (if q.1 = w then q.2 else 0) := by simp [pctOf, List.sum_append]
theorem clS_snoc (S : List Sd) (s : Sd) (w : Int) : clS (S ++ [s]) w = clS S w + s.pl * pctOf s.ps w := by simp [clS, List.sum_append]
theorem alS_snoc (S : List Sd) (s : Sd) : alS (S ++ [s]) = alS S + s.pl := by simp [alS, List.sum_append]

theorem pct_rng {ps : List (Int × Int)} (h : ∀ q ∈ ps, 1 ≤ q.2 ∧ q.2 ≤ 100) (w : Int) : 0 ≤ pctOf ps w ∧ pctOf ps w ≤ sumP ps := by
  induction ps with
  | nil => simp [pctOf, sumP]
  | cons q ps ih =>
    have h1 := ih fun x hx => h x (by simp [hx])
    have h2 := h q (by simp)
    simp only [pctOf, sumP, List.map_cons, List.sum_cons] at *
    split <;> omega
theorem sumP_rng {ps : List (Int × Int)} (h : ∀ q ∈ ps, 1 ≤ q.2 ∧ q.2 ≤ 100) : 0 ≤ sumP ps ∧ sumP ps ≤ 100 * ps.length := by
  induction ps with
  | nil => simp [sumP]
  | cons q ps ih =>
    have h1 := ih fun x hx => h x (by simp [hx])
    have h2 := h q (by simp)
    simp only [sumP, List.map_cons, List.sum_cons, List.length_cons] at *
    omega
theorem alS_rng {S : List Sd} {n : Nat} (h : ∀ s ∈ S, SOk n s) : 0 ≤ alS S ∧ alS S ≤ 9999 * S.length := by
  induction S with
  | nil => simp [alS]
  | cons s S ih =>
    have h1 := ih fun x hx => h x (by simp [hx])
    have h2 := (h s (by simp)).pl
    simp only [alS, List.map_cons, List.sum_cons, List.length_cons] at *
    omega
theorem clS_rng {S : List Sd} {n : Nat} (h : ∀ s ∈ S, SOk n s) (w : Int) : 0 ≤ clS S w ∧ clS S w ≤ 100 * alS S := by
  induction S with
  | nil => simp [clS, alS]
  | cons s S ih =>
    have h1 := ih fun x hx => h x (by simp [hx])
    have h2 := h s (by simp)
    have h3 := pct_rng h2.pct w
    rw [h2.sum] at h3
    have h4 := h2.pl
    simp only [clS, alS, List.map_cons, List.sum_cons] at *
    have h5 : 0 ≤ s.pl * pctOf s.ps w := Int.mul_nonneg h4.1 h3.1
    have h6 : s.pl * pctOf s.ps w ≤ s.pl * 100 := Int.mul_le_mul_of_nonneg_left h3.2 h4.1
    omega

/-- Sums over the numbers below n. -/
def sumR (n : Nat) (f : Nat → Int) : Int := ((List.range n).map f).sum
theorem sumR_succ (n : Nat) (f : Nat → Int) : sumR (n + 1) f = sumR n f + f n := by simp [sumR, List.range_succ, List.sum_append]
theorem sumR_add (n : Nat) (f g : Nat → Int) : sumR n (fun i => f i + g i) = sumR n f + sumR n g := by
  induction n with
  | zero => rfl
  | succ n ih => rw [sumR_succ, sumR_succ, sumR_succ, ih]; omega
theorem sumR_mul (n : Nat) (f : Nat → Int) (c : Int) : sumR n (fun i => c * f i) = c * sumR n f := by
  induction n with
  | zero => simp [sumR]
  | succ n ih => rw [sumR_succ, sumR_succ, ih, Int.mul_add]
theorem sumR_congr {n : Nat} {f g : Nat → Int} (h : ∀ i, i < n → f i = g i) : sumR n f = sumR n g := by
  induction n with
  | zero => rfl
  | succ n ih => rw [sumR_succ, sumR_succ, ih fun i hi => h i (by omega), h n (by omega)]
theorem sumR_zero (n : Nat) : sumR n (fun _ => 0) = 0 := by
  induction n with
  | zero => rfl
  | succ n ih => rw [sumR_succ, ih]; rfl
theorem sumR_one {n : Nat} {w : Int} (h0 : 0 ≤ w) (h : w < (n : Int)) (c : Int) : sumR n (fun i => if w = (i : Nat) then c else 0) = c := by
  induction n with
  | zero => omega
  | succ n ih =>
    rw [sumR_succ]
    by_cases e : w = (n : Nat)
    · rw [if_pos e, sumR_congr (g := fun _ => 0) (fun i hi => if_neg (by omega)), sumR_zero]; omega
    · rw [if_neg e, ih (by omega)]; omega
theorem sumR_mono {n : Nat} {f g : Nat → Int} (h : ∀ i, i < n → f i ≤ g i) : sumR n f ≤ sumR n g := by
  induction n with
  | zero => exact Int.le_refl _
  | succ n ih =>
    rw [sumR_succ, sumR_succ]
    have := ih fun i hi => h i (by omega)
    have := h n (by omega)
    omega
theorem pct_sum {n : Nat} {ps : List (Int × Int)} (h : ∀ q ∈ ps, 0 ≤ q.1 ∧ q.1 < (n : Int)) : sumR n (fun i => pctOf ps (i : Nat)) = sumP ps := by
  induction ps with
  | nil => simp only [pctOf, sumP, List.map_nil, List.sum_nil]; exact sumR_zero n
  | cons q ps ih =>
    have h1 := ih fun x hx => h x (by simp [hx])
    have h2 := h q (by simp)
    simp only [pctOf, sumP, List.map_cons, List.sum_cons] at *
    rw [sumR_add, h1, sumR_one h2.1 h2.2]
theorem cl_sum {S : List Sd} {n : Nat} (h : ∀ s ∈ S, SOk n s) : sumR n (fun i => clS S (i : Nat)) = 100 * alS S := by
  induction S with
  | nil => simp only [clS, alS, List.map_nil, List.sum_nil]; exact sumR_zero n
  | cons s S ih =>
    have h1 := ih fun x hx => h x (by simp [hx])
    have h2 := h s (by simp)
    simp only [clS, alS, List.map_cons, List.sum_cons] at *
    rw [sumR_add, h1, sumR_mul, pct_sum h2.who, h2.sum]
    omega
/-- The error of a royal that is asked for something. -/
def askE (p : Int) (S : List Sd) (O : List Int) (o : Bool) : Int := if vB p S O then (if o then (if alS S = 0 then 3 else 0) else 1) else 100
end Go.Proofs.Ytakodllejndfeaa
