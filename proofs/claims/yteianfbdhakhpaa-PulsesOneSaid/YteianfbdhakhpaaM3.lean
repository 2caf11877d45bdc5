import Derived.Test.YteianfbdhakhpaaTS
import Derived.Test.YteianfbdhakhpaaTD
/-! The fewest sparks: when there is a reading. -/
namespace Go.Proofs.Yteianfbdhakhpaa
set_option linter.unusedSimpArgs false
set_option linter.unusedVariables false
open Go Go.RowKit

/-- The same train with another bound of sparks. -/
def Pu.at (X : Pu) (k : Int) : Pu := ⟨X.l, X.n, X.pi, X.sl, X.ga, X.pa, k, X.ts⟩
theorem adjB_at (X : Pu) (k : Int) : ∀ g : List Int, adjB (X.at k) g = adjB X g
  | [] => rfl
  | [_] => rfl
  | x :: y :: r => by
    have := adjB_at X k (y :: r)
    unfold adjB
    rw [this]; rfl
theorem selO_at (X : Pu) (k : Int) (p : List Int) : selO (X.at k) p = selO X p := by
  unfold selO grB
  simp only [adjB_at]
  rfl
theorem lofA_at (X : Pu) (k : Int) : ∀ (ps : List (List Int)) (acc : List Int), lofA (X.at k) ps acc = lofA X ps acc
  | [], _ => rfl
  | p :: ps, acc => by
    unfold lofA
    rw [selO_at]
    cases selO X p with
    | none => rfl
    | some v => exact lofA_at X k ps _
theorem rdO_at (X : Pu) (k : Int) : rdO (X.at k) = rdO X := by
  funext s
  show (lofA (X.at k) (prtL X.pa (woL X.ts s)) []).map _ = _
  rw [lofA_at]; rfl
theorem rdL_at (X : Pu) (k : Int) (m : Nat) : rdL (X.at k) m = rdL X m := by
  show (setsG X.ts.length m 0 []).filterMap (rdO (X.at k)) = _
  rw [rdO_at]; rfl
theorem rdL_iff {X : Pu} {m : Nat} {r : Rd} : r ∈ rdL X m ↔ r.1.length ≤ m ∧ risF X.ts.length 0 r.1 ∧ lof X (woL X.ts r.1) = some r.2 := by
  refine ⟨rdL_mem, fun ⟨h1, h2, h3⟩ => ?_⟩
  unfold rdL
  rw [List.mem_filterMap]
  exact ⟨r.1, (setsG_mem _ _ _ _ _).2 ⟨r.1, by simp, h1, h2⟩, by unfold rdO; rw [h3]; rfl⟩
theorem fewM_iff {m : Nat} (hm : m < 4) : ∀ rs : List Rd, fewM rs ≤ m ↔ ∃ r ∈ rs, r.1.length ≤ m := by
  have hh : ∀ (rs : List Rd) (s : Nat), rs.foldl (fun m r => min m r.1.length) s ≤ m ↔ s ≤ m ∨ ∃ r ∈ rs, r.1.length ≤ m := by
    intro rs
    induction rs with
    | nil => intro s; simp
    | cons r rs ih =>
      intro s
      rw [List.foldl_cons, ih]
      simp only [List.mem_cons, exists_eq_or_imp]
      constructor
      · rintro (h | h)
        · rcases Nat.le_total s r.1.length with h2 | h2
          · rw [Nat.min_eq_left h2] at h; exact .inl h
          · rw [Nat.min_eq_right h2] at h; exact .inr (.inl h)
        · exact .inr (.inr h)
      · rintro (h | h | h)
        · exact .inl (Nat.le_trans (Nat.min_le_left _ _) h)
        · exact .inl (Nat.le_trans (Nat.min_le_right _ _) h)
        · exact .inr h
  intro rs
  have := hh rs 4
  unfold fewM
  rw [this]
  constructor
  · rintro (h | h)
    · omega
    · exact h
  · exact .inr
theorem rdL_few {X : Pu} {m : Nat} (hm : m ≤ 3) : rdL X m ≠ [] ↔ fewX X ≤ m := by
  unfold fewX
  rw [fewM_iff (by omega)]
  constructor
  · intro h
    obtain ⟨r, hr⟩ := List.exists_mem_of_ne_nil _ h
    have h1 := rdL_iff.1 hr
    exact ⟨r, rdL_iff.2 ⟨by omega, h1.2⟩, h1.1⟩
  · rintro ⟨r, hr, hl⟩ h
    have h1 := rdL_iff.1 hr
    have : r ∈ rdL X m := rdL_iff.2 ⟨hl, h1.2⟩
    rw [h] at this
    cases this
theorem fewX_at (X : Pu) (k : Int) : fewX (X.at k) = fewX X := by unfold fewX; rw [rdL_at]
theorem vB_at {X : Pu} (hv : vB X = true) {k : Int} (hk : 0 ≤ k ∧ k ≤ 3) : vB (X.at k) = true := by
  rw [vB_iff] at *
  obtain ⟨h1, h2, h3, h4, h5, h6, h7, h8⟩ := hv
  exact ⟨h1, h2, h3, h4, h5, h6, hk, h8⟩
/-- The error of a valid train: whether the fewest sparks are within its bound. -/
theorem erX_few {X : Pu} (hv : vB X = true) : erX X true = if (fewX X : Int) ≤ X.sp then 0 else 3 := by
  have hs := (vB_ok hv).2.1
  have hc : chkE X true = 0 := by unfold chkE; rw [hv]; rfl
  show erO (chkE X true) (rdL X X.sp.toNat) = _
  unfold erO
  rw [hc, if_neg (by simp)]
  have := rdL_few (X := X) (m := X.sp.toNat) (by omega)
  by_cases h : (fewX X : Int) ≤ X.sp
  · rw [if_pos h, if_neg (this.2 (by omega))]
  · rw [if_neg h, if_pos (Classical.byContradiction fun hn => h (by have := this.1 hn; omega))]
theorem manN_pos {X : Pu} (h : erX X true = 0) : 1 ≤ manN X := by
  unfold manN
  rw [if_pos h]
  exact List.length_pos_iff.2 (erO_zero h).2.2
theorem fewE_cases {X : Pu} (hv : vB X = true) : (fewE X = 0 ∧ fewX X ≤ 3 ∧ fewN X = fewX X) ∨ (fewE X = 3 ∧ 3 < fewX X ∧ fewN X = 0) := by
  unfold fewN fewE
  rw [if_pos hv]
  by_cases h : 3 < fewX X
  · rw [if_pos h]; exact .inr ⟨rfl, h, rfl⟩
  · rw [if_neg h]; exact .inl ⟨rfl, by omega, rfl⟩
end Go.Proofs.Yteianfbdhakhpaa
