import Derived.Test.YthgjjlkdekfdbaaT1
/-! All orders of so many numbers. -/
namespace Go.Proofs.Ythgjjlkdekfdbaa
set_option linter.unusedSimpArgs false
set_option linter.unusedVariables false
open Go.RowKit

def inL (x : Int) (l : List Int) : Bool := l.any fun y => x == y
theorem inL_iff {x : Int} {l : List Int} : inL x l = true ↔ x ∈ l := by
  unfold inL
  rw [List.any_eq_true]
  constructor
  · rintro ⟨y, h1, h2⟩
    rw [beq_iff_eq] at h2
    rw [h2]; exact h1
  · exact fun h => ⟨x, h, by simp⟩
/-- All orders of so many that begin with some. -/
def ordsR (n : Nat) : Nat → List Int → List (List Int)
  | 0, f => [f]
  | r + 1, f => (List.range n).flatMap fun (k : Nat) => if inL (k : Int) f then [] else ordsR n r (f ++ [(k : Int)])
/-- The first of them. -/
def ordsN (n r : Nat) (f : List Int) (k : Nat) : List (List Int) := (List.range k).flatMap fun (k : Nat) => if inL (k : Int) f then [] else ordsR n r (f ++ [(k : Int)])
theorem ordsN_next (n r : Nat) (f : List Int) (k : Nat) : ordsN n r f (k + 1) = ordsN n r f k ++ (if inL (k : Int) f then [] else ordsR n r (f ++ [(k : Int)])) := by simp [ordsN, List.range_succ]
theorem ordsN_no {n r : Nat} {f : List Int} {k : Nat} (h : inL (k : Int) f = true) : ordsN n r f (k + 1) = ordsN n r f k := by rw [ordsN_next, h]; simp
theorem ordsN_yes {n r : Nat} {f : List Int} {k : Nat} (h : inL (k : Int) f = false) : ordsN n r f (k + 1) = ordsN n r f k ++ ordsR n r (f ++ [(k : Int)]) := by rw [ordsN_next, h]; simp
theorem ordsN_all (n r : Nat) (f : List Int) : ordsN n r f n = ordsR n (r + 1) f := rfl
theorem ordsN_split (n r : Nat) (f : List Int) {k : Nat} (h : k < n) : ∃ post, ordsR n (r + 1) f = ordsN n r f (k + 1) ++ post := by
  refine ⟨((List.range (n - (k + 1))).map (k + 1 + ·)).flatMap (fun (k : Nat) => if inL (k : Int) f then [] else ordsR n r (f ++ [(k : Int)])), ?_⟩
  rw [← ordsN_all]
  unfold ordsN
  rw [← List.flatMap_append, ← List.range_add, show k + 1 + (n - (k + 1)) = n by omega]
/-- Numbers of an order. -/
theorem ordsR_ok {n : Nat} : ∀ (r : Nat) (f : List Int), (∀ x ∈ f, 0 ≤ x ∧ x < (n : Int)) → ∀ os ∈ ordsR n r f, os.length = f.length + r ∧ (∀ x ∈ os, 0 ≤ x ∧ x < (n : Int))
  | 0, f, hf, os, ho => by
    simp only [ordsR, List.mem_singleton] at ho
    subst ho
    exact ⟨rfl, hf⟩
  | r + 1, f, hf, os, ho => by
    simp only [ordsR, List.mem_flatMap, List.mem_range] at ho
    obtain ⟨k, hk, ho⟩ := ho
    split at ho
    · simp at ho
    · obtain ⟨h1, h2⟩ := ordsR_ok r (f ++ [(k : Int)]) (fun x hx => by
        rcases List.mem_append.1 hx with h | h
        · exact hf x h
        · rw [List.mem_singleton.1 h]; omega) os ho
      exact ⟨by rw [h1, List.length_append]; simp; omega, h2⟩
/-- All orders of n clauses. -/
def ordsA (n : Nat) : List (List Int) := ordsR n n []
theorem ordsA_ok {n : Nat} {os : List Int} (h : os ∈ ordsA n) : os.length = n ∧ (∀ x ∈ os, 0 ≤ x ∧ x < (n : Int)) := by
  have := ordsR_ok n [] (fun x hx => by simp at hx) os h
  simpa using this
end Go.Proofs.Ythgjjlkdekfdbaa
