import Derived.Test.YteianfbdhakhpaaM1
/-! What is written: distances, and the times to which they add up. -/
namespace Go.Proofs.Yteianfbdhakhpaa
set_option linter.unusedSimpArgs false
set_option linter.unusedVariables false
open Go.RowKit

/-- The distances of a selection's pulses. -/
def dsR (X : Pu) (s : Int) : List (List Int) := [[X.pa], List.replicate (s / X.n).toNat X.pi, [X.ga], List.replicate (s % X.n).toNat X.pi]
def dsL (X : Pu) (s : Int) : List Int := (dsR X s).flatten
def accL : Int → List Int → List Int
  | _, [] => []
  | t, d :: ds => (t + d) :: accL (t + d) ds
def sumL (t : Int) (ds : List Int) : Int := ds.foldl (· + ·) t
theorem accL_app : ∀ (a : List Int) (t : Int) (b : List Int), accL t (a ++ b) = accL t a ++ accL (sumL t a) b
  | [], _, _ => rfl
  | d :: a, t, b => by
    show (t + d) :: accL (t + d) (a ++ b) = _
    rw [accL_app a (t + d) b]; rfl
theorem sumL_app (a : List Int) (t : Int) (b : List Int) : sumL t (a ++ b) = sumL (sumL t a) b := by unfold sumL; rw [List.foldl_append]
theorem accL_snoc (a : List Int) (t d : Int) : accL t (a ++ [d]) = accL t a ++ [sumL t a + d] := by rw [accL_app]; rfl
theorem sumL_snoc (a : List Int) (t d : Int) : sumL t (a ++ [d]) = sumL t a + d := by rw [sumL_app]; rfl
theorem accL_len : ∀ (a : List Int) (t : Int), (accL t a).length = a.length
  | [], _ => rfl
  | d :: a, t => by simp [accL, accL_len a (t + d)]
theorem sumL_rng : ∀ (a : List Int) (t : Int), (∀ d ∈ a, 0 ≤ d ∧ d ≤ 999) → t ≤ sumL t a ∧ sumL t a ≤ t + 999 * a.length
  | [], t, _ => by simp [sumL]
  | d :: a, t, h => by
    have h1 := h d (by simp)
    have h2 := sumL_rng a (t + d) (fun x hx => h x (by simp [hx]))
    have e : sumL t (d :: a) = sumL (t + d) a := rfl
    rw [e]; simp only [List.length_cons]
    omega
theorem accL_rng : ∀ (a : List Int) (t : Int), (∀ d ∈ a, 0 ≤ d ∧ d ≤ 999) → ∀ x ∈ accL t a, t ≤ x ∧ x ≤ t + 999 * a.length
  | [], t, _, x, hx => by simp [accL] at hx
  | d :: a, t, h, x, hx => by
    have h1 := h d (by simp)
    have hx : x ∈ (t + d) :: accL (t + d) a := hx
    rcases List.mem_cons.1 hx with rfl | hx
    · simp only [List.length_cons]; omega
    · have := accL_rng a (t + d) (fun x hx => h x (by simp [hx])) x hx
      simp only [List.length_cons]; omega
theorem sel_parts {X : Pu} (ok : POk X) {s : Int} (h : 0 ≤ s ∧ s < X.l * X.n) : 0 ≤ s / X.n ∧ s / X.n ≤ 4 ∧ 0 ≤ s % X.n ∧ s % X.n ≤ 4 := by
  have hn := ok.n
  have hl := ok.l
  have h1 : s / X.n < X.l := Int.ediv_lt_of_lt_mul (by omega) h.2
  have h2 := Int.emod_lt_of_pos s (show 0 < X.n by omega)
  exact ⟨Int.ediv_nonneg h.1 (by omega), by omega, Int.emod_nonneg s (by omega), by omega⟩
theorem dsL_all {X : Pu} (ok : POk X) {s : Int} (h : 0 ≤ s ∧ s < X.l * X.n) : (dsL X s).length ≤ 10 ∧ ∀ d ∈ dsL X s, 0 ≤ d ∧ d ≤ 999 := by
  obtain ⟨h1, h2, h3, h4⟩ := sel_parts ok h
  have hp := ok.pi; have hs := ok.sl; have hg := ok.ga; have ha := ok.pa
  refine ⟨by simp [dsL, dsR]; omega, fun d hd => ?_⟩
  simp only [dsL, dsR, List.flatten_cons, List.flatten_nil, List.append_nil, List.mem_append, List.mem_singleton, List.mem_replicate] at hd
  rcases hd with rfl | ⟨_, rfl⟩ | rfl | ⟨_, rfl⟩ <;> omega
/-- The distances of a list. -/
def alD (X : Pu) (L : List Int) : List Int := L.flatMap (dsL X)
theorem alD_snoc (X : Pu) (L : List Int) (s : Int) : alD X (L ++ [s]) = alD X L ++ dsL X s := by simp [alD]
theorem alD_all {X : Pu} (ok : POk X) : ∀ (L : List Int), (∀ s ∈ L, 0 ≤ s ∧ s < X.l * X.n) → (alD X L).length ≤ 10 * L.length ∧ ∀ d ∈ alD X L, 0 ≤ d ∧ d ≤ 999
  | [], _ => by simp [alD]
  | s :: L, h => by
    obtain ⟨h1, h2⟩ := dsL_all ok (h s (by simp))
    obtain ⟨h3, h4⟩ := alD_all ok L (fun x hx => h x (by simp [hx]))
    have e : alD X (s :: L) = dsL X s ++ alD X L := rfl
    rw [e, List.length_append, List.length_cons]
    refine ⟨by omega, fun d hd => ?_⟩
    rcases List.mem_append.1 hd with hd | hd
    · exact h2 d hd
    · exact h4 d hd
/-- What is written. -/
def wrtL (X : Pu) (L : List Int) (t : Int) : List Int := accL (t - X.pa) (alD X L)
end Go.Proofs.Yteianfbdhakhpaa
