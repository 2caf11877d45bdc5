import Derived.Test.YtmpihcencnkpbaaG2
/-! Boxes with buttons: what is valid, what a set of faults is, what a press plays, all sets, the truths. -/
namespace Go.Proofs.Ytmpihcencnkpbaa
set_option linter.unusedSimpArgs false
set_option linter.unusedVariables false
open Go.RowKit

def w64 (x : Int) : Int := IntKind.i64.wrap x
theorem w64_in {x : Int} (h : -9223372036854775808 ≤ x ∧ x ≤ 9223372036854775807) : w64 x = x := IntWalk.i64_in x h
def fromI (lo n hi : Int) : Bool := decide (lo ≤ n) && decide (n ≤ hi)
/-- A press of a box. -/
def prB (L N l n : Int) : Bool := fromI 0 l (w64 (L - 1)) && fromI 0 n (w64 (N - 1))
def deadB (m : Int) (f : F3) : Bool := fromI 0 f.a (w64 (m - 1)) && (f.b == 0)
def crossB (m : Int) (f : F3) : Bool := (decide (0 ≤ f.a) && decide (f.a < f.b)) && decide (f.b < m)
def faultB (L N : Int) (f : F3) : Bool := if f.k = 1 then deadB L f else if f.k = 2 then deadB N f else if f.k = 3 then crossB L f else if f.k = 4 then crossB N f else false
def cmpI (x y : Int) : Int := if x < y then -1 else if y < x then 1 else 0
def orI (a b c : Int) : Int := if a ≠ 0 then a else if b ≠ 0 then b else c
def cmpF (f g : F3) : Int := orI (cmpI f.k g.k) (cmpI f.a g.a) (cmpI f.b g.b)
/-- Crosses of one kind with a button in both. -/
def clB (f g : F3) : Bool := (decide (f.k = g.k) && (decide (f.k = 3) || decide (f.k = 4))) && (((decide (f.a = g.a) || decide (f.a = g.b)) || decide (f.b = g.a)) || decide (f.b = g.b))
def offB (g f : F3) : Bool := !(decide (0 ≤ cmpF g f) || clB g f)
/-- A fault that can stand behind a set. -/
def fitB (s : List F3) (f : F3) : Bool := s.all fun g => offB g f
/-- Each fault of a list is one of the box, and fits behind those before it. -/
def setF (L N : Int) (pre : List F3) : List F3 → Bool
  | [] => true
  | f :: r => (faultB L N f && fitB pre f) && setF L N (pre ++ [f]) r
def setB (L N : Int) (s : List F3) : Bool := setF L N [] s
def crI (f : F3) (x : Int) : Int := if x = f.a then f.b else if x = f.b then f.a else x
def deadP (f : F3) (l n : Int) : Bool := (decide (f.k = 1) && decide (f.a = l)) || (decide (f.k = 2) && decide (f.a = n))
def plF (N l n : Int) : List F3 → Int → Int → Int
  | [], x, y => x * N + y
  | f :: r, x, y => if deadP f l n = true then -1 else if f.k = 3 then plF N l n r (crI f x) y else if f.k = 4 then plF N l n r x (crI f y) else plF N l n r x y
/-- What a press plays with a set. -/
def plV (N : Int) (s : List F3) (l n : Int) : Int := plF N l n s l n
def exB (N : Int) (s P : List F3) : Bool := P.all fun p => decide (plV N s p.k p.a = p.b)
def presB (L N : Int) (P : List F3) : Bool := P.all fun p => prB L N p.k p.a && fromI (-1) p.b (w64 (w64 (L * N) - 1))
def sizB (L N : Int) (m : Nat) : Bool := (fromI 1 L 5 && fromI 1 N 5) && decide (m ≤ 8)
/-- A box is valid. -/
def vB (L N : Int) (P : List F3) (F : Int) : Bool := (sizB L N P.length && presB L N P) && fromI 0 F 3

def deadsN (k : Int) (j : Nat) : List F3 := (List.range j).map fun (i : Nat) => ⟨k, (i : Int), 0⟩
def crossIn (k : Int) (a j : Nat) : List F3 := (List.range j).map fun (i : Nat) => ⟨k, (a : Int), ((a + 1 + i : Nat) : Int)⟩
def crossN (k : Int) (m j : Nat) : List F3 := (List.range j).flatMap fun (a : Nat) => crossIn k a (m - (a + 1))
def allF (L N : Int) : List F3 := ((deadsN 1 L.toNat ++ deadsN 2 N.toNat) ++ crossN 3 L.toNat L.toNat) ++ crossN 4 N.toNat N.toNat
def groIn (s F : List F3) : List (List F3) := (F.filter (fitB s)).map fun f => s ++ [f]
def groL (F : List F3) (S : List (List F3)) : List (List F3) := S.flatMap fun s => groIn s F
def setsI (F : List F3) : Nat → List (List F3) → List (List F3) → List (List F3)
  | 0, A, _ => A
  | m + 1, A, V => setsI F m (A ++ groL F V) (groL F V)
def setsL (L N : Int) (m : Nat) : List (List F3) := setsI (allF L N) m [[]] [[]]
/-- The truths of a box. -/
def truL (L N : Int) (P : List F3) (F : Int) : List (List F3) := (setsL L N F.toNat).filter fun s => exB N s P

theorem deadsN_succ (k : Int) (j : Nat) : deadsN k (j + 1) = deadsN k j ++ [⟨k, (j : Int), 0⟩] := by simp [deadsN, List.range_succ]
theorem crossIn_succ (k : Int) (a j : Nat) : crossIn k a (j + 1) = crossIn k a j ++ [⟨k, (a : Int), ((a + 1 + j : Nat) : Int)⟩] := by simp [crossIn, List.range_succ]
theorem crossN_succ (k : Int) (m j : Nat) : crossN k m (j + 1) = crossN k m j ++ crossIn k j (m - (j + 1)) := by simp [crossN, List.range_succ]
theorem deadsN_len (k : Int) (j : Nat) : (deadsN k j).length = j := by simp [deadsN]
theorem crossIn_len (k : Int) (a j : Nat) : (crossIn k a j).length = j := by simp [crossIn]
theorem flat_le {α β : Type} (F : α → List β) (c : Nat) : ∀ (l : List α), (∀ x ∈ l, (F x).length ≤ c) → (l.flatMap F).length ≤ l.length * c
  | [], _ => by simp
  | x :: l, h => by
    have h1 := h x List.mem_cons_self
    have h2 := flat_le F c l (fun y hy => h y (List.mem_cons_of_mem _ hy))
    simp only [List.flatMap_cons, List.length_append, List.length_cons, Nat.succ_mul]
    omega
theorem crossN_len (k : Int) (m j : Nat) (hm : m ≤ 5) (hj : j ≤ 5) : (crossN k m j).length ≤ 25 := by
  have := flat_le (fun a => crossIn k a (m - (a + 1))) 5 (List.range j) (fun a _ => by rw [crossIn_len]; omega)
  rw [List.length_range] at this
  exact Nat.le_trans this (by omega)
theorem allF_len {L N : Int} (hL : 1 ≤ L ∧ L ≤ 5) (hN : 1 ≤ N ∧ N ≤ 5) : (allF L N).length ≤ 60 := by
  have h1 := crossN_len 3 L.toNat L.toNat (by omega) (by omega)
  have h2 := crossN_len 4 N.toNat N.toNat (by omega) (by omega)
  simp only [allF, List.length_append, deadsN_len]
  omega
theorem deadsN_mem {k : Int} {j : Nat} {f : F3} : f ∈ deadsN k j ↔ f.k = k ∧ 0 ≤ f.a ∧ f.a < (j : Int) ∧ f.b = 0 := by
  simp only [deadsN, List.mem_map, List.mem_range]
  constructor
  · rintro ⟨i, hi, rfl⟩
    exact ⟨rfl, by simp, by simpa using hi, rfl⟩
  · rintro ⟨h1, h2, h3, h4⟩
    obtain ⟨fk, fa, fb⟩ := f
    simp only at h1 h2 h3 h4
    subst h1 h4
    exact ⟨fa.toNat, by omega, by congr; omega⟩
theorem crossN_mem {k : Int} {m : Nat} {f : F3} : f ∈ crossN k m m ↔ f.k = k ∧ 0 ≤ f.a ∧ f.a < f.b ∧ f.b < (m : Int) := by
  simp only [crossN, crossIn, List.mem_flatMap, List.mem_map, List.mem_range]
  constructor
  · rintro ⟨a, ha, i, hi, rfl⟩
    exact ⟨rfl, by simp, by show (a : Int) < ((a + 1 + i : Nat) : Int); omega, by show ((a + 1 + i : Nat) : Int) < (m : Int); omega⟩
  · rintro ⟨h1, h2, h3, h4⟩
    obtain ⟨fk, fa, fb⟩ := f
    simp only at h1 h2 h3 h4
    subst h1
    exact ⟨fa.toNat, by omega, (fb - fa - 1).toNat, by omega, by congr <;> omega⟩
theorem faultB_iff {L N : Int} (hL : 1 ≤ L ∧ L ≤ 5) (hN : 1 ≤ N ∧ N ≤ 5) {f : F3} : faultB L N f = true ↔ f ∈ allF L N := by
  have e1 : w64 (L - 1) = L - 1 := w64_in (by omega)
  have e2 : w64 (N - 1) = N - 1 := w64_in (by omega)
  simp only [allF, List.mem_append, deadsN_mem, crossN_mem]
  unfold faultB deadB crossB fromI
  rw [e1, e2]
  split
  · simp only [Bool.and_eq_true, decide_eq_true_eq, beq_iff_eq]; omega
  · split
    · simp only [Bool.and_eq_true, decide_eq_true_eq, beq_iff_eq]; omega
    · split
      · simp only [Bool.and_eq_true, decide_eq_true_eq]; omega
      · split
        · simp only [Bool.and_eq_true, decide_eq_true_eq]; omega
        · simp only [Bool.false_eq_true, false_iff]; omega
/-- All numbers of a fault of a box. -/
def Okf (L N : Int) (f : F3) : Prop := (1 ≤ f.k ∧ f.k ≤ 4) ∧ (0 ≤ f.a ∧ f.a < 5) ∧ (0 ≤ f.b ∧ f.b < 5) ∧ (f.k = 3 → f.a < L ∧ f.b < L) ∧ (f.k = 4 → f.a < N ∧ f.b < N)
theorem Okf.of {L N : Int} (hL : 1 ≤ L ∧ L ≤ 5) (hN : 1 ≤ N ∧ N ≤ 5) {f : F3} (h : f ∈ allF L N) : Okf L N f := by
  simp only [allF, List.mem_append, deadsN_mem, crossN_mem] at h
  unfold Okf
  omega
theorem Okf.i64 {L N : Int} {f : F3} (h : Okf L N f) : f.i64 := by
  unfold Okf at h; unfold F3.i64; omega
theorem fitB_snoc (s : List F3) (g f : F3) : fitB (s ++ [g]) f = (fitB s f && offB g f) := by simp [fitB]
theorem setF_iff {L N : Int} : ∀ {s pre : List F3}, setF L N pre s = true ↔ (∀ f ∈ s, faultB L N f = true) ∧ (∀ g ∈ pre, ∀ f ∈ s, offB g f = true) ∧ s.Pairwise fun g f => offB g f = true
  | [], pre => by simp [setF]
  | f :: r, pre => by
    rw [setF, Bool.and_eq_true, Bool.and_eq_true, setF_iff (s := r) (pre := pre ++ [f]), List.pairwise_cons]
    simp only [fitB, List.all_eq_true, List.mem_cons, List.mem_append, List.not_mem_nil, or_false]
    constructor
    · rintro ⟨⟨h1, h2⟩, h3, h4, h5⟩
      refine ⟨fun x hx => ?_, fun g hg x hx => ?_, fun x hx => h4 f (.inr rfl) x hx, h5⟩
      · rcases hx with rfl | hx
        · exact h1
        · exact h3 x hx
      · rcases hx with rfl | hx
        · exact h2 g hg
        · exact h4 g (.inl hg) x hx
    · rintro ⟨h1, h2, h3, h4⟩
      refine ⟨⟨h1 f (.inl rfl), fun g hg => h2 g hg f (.inl rfl)⟩, fun x hx => h1 x (.inr hx), fun g hg x hx => ?_, h4⟩
      rcases hg with hg | rfl
      · exact h2 g hg x (.inr hx)
      · exact h3 x hx
theorem setB_iff {L N : Int} {s : List F3} : setB L N s = true ↔ (∀ f ∈ s, faultB L N f = true) ∧ s.Pairwise fun g f => offB g f = true := by
  unfold setB
  rw [setF_iff]
  simp
theorem setB_snoc {L N : Int} {s : List F3} {f : F3} : setB L N (s ++ [f]) = true ↔ setB L N s = true ∧ faultB L N f = true ∧ fitB s f = true := by
  simp only [setB_iff, List.pairwise_append, List.mem_append, List.mem_singleton, fitB, List.all_eq_true]
  constructor
  · rintro ⟨h1, h2, h3, h4⟩
    exact ⟨⟨fun x hx => h1 x (.inl hx), h2⟩, h1 f (.inr rfl), fun g hg => h4 g hg f rfl⟩
  · rintro ⟨⟨h1, h2⟩, h3, h4⟩
    refine ⟨fun x hx => ?_, h2, List.pairwise_singleton _ _, fun g hg x hx => by rw [hx]; exact h4 g hg⟩
    rcases hx with hx | rfl
    · exact h1 x hx
    · exact h3
/-- The sets of just so many faults. -/
def levL (F : List F3) : Nat → List (List F3)
  | 0 => [[]]
  | m + 1 => groL F (levL F m)
theorem levL_mem {L N : Int} (hL : 1 ≤ L ∧ L ≤ 5) (hN : 1 ≤ N ∧ N ≤ 5) : ∀ {m : Nat} {s : List F3}, s ∈ levL (allF L N) m ↔ setB L N s = true ∧ s.length = m
  | 0, s => by
    simp only [levL, List.mem_singleton, List.length_eq_zero_iff]
    exact ⟨fun h => ⟨by rw [h]; rfl, h⟩, fun h => h.2⟩
  | m + 1, s => by
    simp only [levL, groL, groIn, List.mem_flatMap, List.mem_map, List.mem_filter, levL_mem hL hN (m := m), ← faultB_iff hL hN]
    constructor
    · rintro ⟨s', ⟨h1, h2⟩, f, ⟨h3, h4⟩, rfl⟩
      exact ⟨setB_snoc.2 ⟨h1, h3, h4⟩, by simp [h2]⟩
    · rintro ⟨h1, h2⟩
      have hne : s ≠ [] := fun e => by rw [e] at h2; simp at h2
      have hs := List.dropLast_concat_getLast hne
      rw [← hs] at h1
      obtain ⟨k1, k2, k3⟩ := setB_snoc.1 h1
      exact ⟨s.dropLast, ⟨k1, by simp [h2]⟩, s.getLast hne, ⟨k2, k3⟩, hs⟩
theorem setsI_eq (F : List F3) : ∀ (m k : Nat) (A : List (List F3)), setsI F m A (levL F k) = A ++ (List.range m).flatMap fun i => levL F (k + 1 + i)
  | 0, k, A => by simp [setsI]
  | m + 1, k, A => by
    rw [setsI]
    have e : groL F (levL F k) = levL F (k + 1) := rfl
    rw [e, setsI_eq F m (k + 1), List.range_succ_eq_map, List.flatMap_cons, List.flatMap_map, List.append_assoc]
    congr 2
    congr 1
    funext i
    congr 1
    show k + 1 + 1 + i = k + 1 + (i + 1)
    omega
theorem setsL_eq (L N : Int) (m : Nat) : setsL L N m = (List.range (m + 1)).flatMap fun i => levL (allF L N) i := by
  have := setsI_eq (allF L N) m 0 [[]]
  unfold setsL
  rw [show ([[]] : List (List F3)) = levL (allF L N) 0 from rfl] at this ⊢
  rw [this, List.range_succ_eq_map, List.flatMap_cons, List.flatMap_map]
  congr 2
  funext i
  congr 1
  show 0 + 1 + i = i + 1
  omega
theorem setsL_mem {L N : Int} (hL : 1 ≤ L ∧ L ≤ 5) (hN : 1 ≤ N ∧ N ≤ 5) {m : Nat} {s : List F3} : s ∈ setsL L N m ↔ setB L N s = true ∧ s.length ≤ m := by
  rw [setsL_eq]
  simp only [List.mem_flatMap, List.mem_range, levL_mem hL hN]
  exact ⟨fun ⟨i, h1, h2, h3⟩ => ⟨h2, by omega⟩, fun ⟨h1, h2⟩ => ⟨s.length, by omega, h1, rfl⟩⟩
theorem truL_mem {L N : Int} (hL : 1 ≤ L ∧ L ≤ 5) (hN : 1 ≤ N ∧ N ≤ 5) {P : List F3} {F : Int} {s : List F3} : s ∈ truL L N P F ↔ (setB L N s = true ∧ s.length ≤ F.toNat) ∧ exB N s P = true := by
  unfold truL
  rw [List.mem_filter, setsL_mem hL hN]
theorem groIn_len (s F : List F3) : (groIn s F).length ≤ F.length := by
  simp only [groIn, List.length_map]
  exact List.length_filter_le _ _
theorem groL_len (F : List F3) (S : List (List F3)) : (groL F S).length ≤ S.length * F.length := flat_le _ _ S (fun s _ => groIn_len s F)
theorem setsI_len (F : List F3) : ∀ (m : Nat) (A V : List (List F3)), A.length ≤ (setsI F m A V).length
  | 0, A, V => by simp [setsI]
  | m + 1, A, V => by
    rw [setsI]
    refine Nat.le_trans ?_ (setsI_len F m _ _)
    simp
theorem vB_siz {L N : Int} {P : List F3} {F : Int} (h : vB L N P F = true) : (1 ≤ L ∧ L ≤ 5) ∧ (1 ≤ N ∧ N ≤ 5) ∧ P.length ≤ 8 ∧ (0 ≤ F ∧ F ≤ 3) ∧ presB L N P = true := by
  simp only [vB, sizB, fromI, Bool.and_eq_true, decide_eq_true_eq] at h
  exact ⟨by omega, by omega, by omega, by omega, h.1.2⟩
end Go.Proofs.Ytmpihcencnkpbaa
