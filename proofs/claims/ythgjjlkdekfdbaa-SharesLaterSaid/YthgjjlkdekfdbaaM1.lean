import Derived.Test.YthgjjlkdekfdbaaG1
/-! Clauses, weeks, and what is given: mathematics. -/
namespace Go.Proofs.Ythgjjlkdekfdbaa
set_option linter.unusedSimpArgs false
set_option linter.unusedVariables false
open Go.RowKit

/-- A clause. -/
structure Cl where
  k : Int
  c : Int
  p : Int
  m : Int
/-- A week behind some clauses. -/
structure Wk where
  op : Int
  ow : Int
  rp : Int
  rest : Int
  owed : Int
def Cl.ok (x : Cl) : Prop := (1 ≤ x.k ∧ x.k ≤ 5) ∧ (0 ≤ x.c ∧ x.c ≤ 9999) ∧ (0 ≤ x.p ∧ x.p ≤ 100) ∧ (0 ≤ x.m ∧ x.m ≤ 100)
def asks (x : Cl) (w : Wk) : Int :=
  if x.k = 1 then x.c else if x.k = 2 then min x.c w.owed else if x.k = 3 then w.rest * x.p / 500 * 5
  else if x.k = 4 then (min w.rest x.c * x.p + (w.rest - min w.rest x.c) * x.m) / 500 * 5 else max 0 (x.c - w.ow)
def givesW (w : Wk) (x : Cl) : Int := min w.rest (asks x w)
def payOp (w : Wk) (n : Int) : Wk := ⟨w.op + n, w.ow, w.rp, w.rest - n, w.owed⟩
def payLe (w : Wk) (n : Int) : Wk := ⟨w.op + n, w.ow, w.rp + n, w.rest - n, w.owed - n⟩
def payOw (w : Wk) (n : Int) : Wk := ⟨w.op, w.ow + n, w.rp, w.rest - n, w.owed⟩
def partyOf (k : Int) : Int := if k = 1 then 0 else if k = 2 then 1 else 2
def payW (w : Wk) (n t : Int) : Wk := if t = 0 then payOp w n else if t = 1 then payLe w n else payOw w n
def stepW (w : Wk) (x : Cl) : Wk := payW w (givesW w x) (partyOf x.k)
def beginW (loan t : Int) : Wk := ⟨0, 0, 0, t, loan⟩
def endW (w : Wk) : Wk := payOp w w.rest
def behindW (w : Wk) (cs : List Cl) : Wk := cs.foldl stepW w
/-- The week with takings behind all clauses. -/
def settledW (loan : Int) (cs : List Cl) (t : Int) : Wk := endW (behindW (beginW loan t) cs)
/-- What is so of a week with takings T and a loan L. -/
structure Inv (T L : Int) (w : Wk) : Prop where
  op : 0 ≤ w.op
  ow : 0 ≤ w.ow
  rp : 0 ≤ w.rp
  rest : 0 ≤ w.rest
  owed : 0 ≤ w.owed
  sum : w.op + w.ow + w.rest = T
  le : w.rp ≤ w.op
  loan : w.rp + w.owed = L

theorem part_le {a p : Int} (ha : 0 ≤ a) (hp : 0 ≤ p ∧ p ≤ 100) : 0 ≤ a * p ∧ a * p ≤ a * 100 :=
  ⟨Int.mul_nonneg ha hp.1, Int.mul_le_mul_of_nonneg_left hp.2 ha⟩
theorem asks_nonneg {T L : Int} {w : Wk} {x : Cl} (hx : x.ok) (h : Inv T L w) : 0 ≤ asks x w := by
  obtain ⟨_, hc, hp, hm⟩ := hx
  have h1 := h.rest; have h2 := h.owed; have h3 := h.ow
  unfold asks
  split
  · omega
  split
  · omega
  split
  · have := part_le h1 hp; omega
  split
  · have a1 := part_le (a := min w.rest x.c) (by omega) hp
    have a2 := part_le (a := w.rest - min w.rest x.c) (by omega) hm
    omega
  · omega
theorem asks_part {T L : Int} {w : Wk} {x : Cl} (hx : x.ok) (h : Inv T L w) (hk : x.k = 3 ∨ x.k = 4) : asks x w ≤ w.rest := by
  obtain ⟨_, hc, hp, hm⟩ := hx
  have h1 := h.rest
  unfold asks
  rcases hk with hk | hk
  · rw [if_neg (by omega), if_neg (by omega), if_pos hk]
    have := part_le h1 hp; omega
  · rw [if_neg (by omega), if_neg (by omega), if_neg (by omega), if_pos hk]
    have a1 := part_le (a := min w.rest x.c) (by omega) hp
    have a2 := part_le (a := w.rest - min w.rest x.c) (by omega) hm
    omega
theorem gives_rng {T L : Int} {w : Wk} {x : Cl} (hx : x.ok) (h : Inv T L w) : 0 ≤ givesW w x ∧ givesW w x ≤ w.rest ∧ (x.k = 2 → givesW w x ≤ w.owed) := by
  have h1 := h.rest; have h2 := asks_nonneg hx h
  refine ⟨by unfold givesW; omega, by unfold givesW; omega, fun hk => ?_⟩
  unfold givesW asks
  rw [if_neg (by omega), if_pos hk]
  omega
theorem Inv.step {T L : Int} {w : Wk} {x : Cl} (hx : x.ok) (h : Inv T L w) : Inv T L (stepW w x) := by
  obtain ⟨a, b, c⟩ := gives_rng hx h
  obtain ⟨h1, h2, h3, h4, h5, h6, h7, h8⟩ := h
  unfold stepW
  generalize givesW w x = n at *
  unfold payW partyOf
  by_cases k1 : x.k = 1
  · simp only [if_pos k1]
    constructor <;> simp only [payOp, if_true] <;> omega
  · by_cases k2 : x.k = 2
    · have := c k2
      simp only [if_neg k1, if_pos k2]
      constructor <;> simp only [payLe, if_true, show ¬ ((1 : Int) = 0) from by decide, if_false] <;> omega
    · simp only [if_neg k1, if_neg k2]
      constructor <;> simp only [payOw, if_true, show ¬ ((2 : Int) = 0) from by decide, show ¬ ((2 : Int) = 1) from by decide, if_false] <;> omega
theorem Inv.behind {T L : Int} : ∀ {cs : List Cl} {w : Wk}, (∀ x ∈ cs, x.ok) → Inv T L w → Inv T L (behindW w cs)
  | [], _, _, h => h
  | x :: cs, _, hx, h => Inv.behind (cs := cs) (fun y hy => hx y (List.mem_cons_of_mem _ hy)) (h.step (hx x List.mem_cons_self))
theorem Inv.begin {T L : Int} (hT : 0 ≤ T) (hL : 0 ≤ L) : Inv T L (beginW L T) := by constructor <;> simp only [beginW] <;> omega
theorem Inv.fin {T L : Int} {w : Wk} (h : Inv T L w) : Inv T L (endW w) ∧ (endW w).rest = 0 := by
  obtain ⟨h1, h2, h3, h4, h5, h6, h7, h8⟩ := h
  refine ⟨?_, by simp only [endW, payOp]; omega⟩
  constructor <;> simp only [endW, payOp] <;> omega
theorem behind_snoc (w : Wk) (cs : List Cl) (x : Cl) : behindW w (cs ++ [x]) = stepW (behindW w cs) x := by unfold behindW; rw [List.foldl_append]; rfl
theorem behind_app (w : Wk) (cs ds : List Cl) : behindW w (cs ++ ds) = behindW (behindW w cs) ds := by unfold behindW; rw [List.foldl_append]
end Go.Proofs.Ythgjjlkdekfdbaa
