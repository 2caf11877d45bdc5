import Derived.Test.YteianfbdhakhpaaV3
/-! The times that the reference writes. -/
namespace Go.Proofs.Yteianfbdhakhpaa
set_option linter.unusedSimpArgs false
set_option linter.unusedVariables false
open Go Go.RowKit

theorem sumL_ge : ∀ (ds : List Int) (t : Int), (∀ d ∈ ds, 0 ≤ d) → t ≤ sumL t ds
  | [], _, _ => Int.le_refl _
  | a :: r, t, h => by
    have h1 := h a (by simp)
    have h2 := sumL_ge r (t + a) (fun x hx => h x (by simp [hx]))
    have e : sumL t (a :: r) = sumL (t + a) r := rfl
    omega
theorem accL_le : ∀ (ds : List Int) (t : Int), (∀ d ∈ ds, 0 ≤ d) → ∀ x ∈ accL t ds, t ≤ x ∧ x ≤ sumL t ds
  | [], _, _, x, hx => by simp [accL] at hx
  | d :: ds, t, h, x, hx => by
    have h0 := h d (by simp)
    have e : sumL t (d :: ds) = sumL (t + d) ds := rfl
    have hm := sumL_ge ds (t + d) (fun x hx => h x (by simp [hx]))
    rw [e]
    have hx : x ∈ (t + d) :: accL (t + d) ds := hx
    rcases List.mem_cons.1 hx with rfl | hx
    · omega
    · have := accL_le ds (t + d) (fun x hx => h x (by simp [hx])) x hx
      omega
theorem sumL_mem : ∀ (ds : List Int) (t : Int), ds ≠ [] → sumL t ds ∈ accL t ds
  | [], _, h => absurd rfl h
  | [d], t, _ => by simp [accL, sumL]
  | d :: e :: r, t, _ => List.mem_cons_of_mem _ (sumL_mem (e :: r) (t + d) (by simp))
/-- The last of the written times. -/
def lastW (X : Pu) (L : List Int) (t : Int) : Int := sumL (t - X.pa) (alD X L)
theorem wr_times {X : Pu} (ok : POk X) {L : List Int} (hL : L ≠ []) {t : Int} (ht : 0 ≤ t) : cntF tmB (wrtL X L t) = (wrtL X L t).length ↔ lastW X L t ≤ 99999 := by
  have hpos : ∀ d ∈ alD X L, 0 ≤ d := fun d hd => by
    unfold alD at hd
    obtain ⟨s, _, hs⟩ := List.mem_flatMap.1 hd
    have := dsL_pos ok s d hs; omega
  have hne : alD X L ≠ [] := by
    rcases L with _ | ⟨s, L⟩
    · exact absurd rfl hL
    · simp [alD, dsL_rst]
  have hle := accL_le (alD X L) (t - X.pa) hpos
  have hge : ∀ x ∈ wrtL X L t, t ≤ x := fun x hx => by
    rcases L with _ | ⟨s, L⟩
    · exact absurd rfl hL
    · rw [wrtL_cons] at hx
      have hp2 : ∀ d ∈ rst X s ++ alD X L, 0 ≤ d := fun d hd => hpos d (by
        show d ∈ dsL X s ++ alD X L
        rw [dsL_rst, List.cons_append]
        exact List.mem_cons_of_mem _ hd)
      rcases List.mem_cons.1 hx with rfl | hx
      · exact Int.le_refl _
      · exact (accL_le _ t hp2 x hx).1
  constructor
  · intro h
    have := cntF_all h _ (sumL_mem _ _ hne)
    exact (fromI_iff.1 this).2
  · intro h
    refine List.length_filter_eq_length_iff.2 fun x hx => fromI_iff.2 ⟨?_, ?_⟩
    · have := hge x hx; omega
    · have := (hle x hx).2
      unfold lastW at h; omega
theorem dsL_at {X : Pu} {s : Int} {q : Nat} {a : Nat} (ha : a = (s / X.n).toNat) : (dsL X s)[q]? = if q = 0 then some X.pa else if q ≤ a then some X.pi else if q = a + 1 then some X.ga else if q ≤ a + 1 + (s % X.n).toNat then some X.pi else none := by
  rw [dsL_rst]
  subst ha
  rcases q with _ | q
  · simp
  · rw [List.getElem?_cons_succ, if_neg (by omega)]
    unfold rst
    by_cases h1 : q < (s / X.n).toNat
    · rw [List.getElem?_append_left (by simpa using h1), if_pos (by omega)]
      simp [h1]
    · rw [List.getElem?_append_right (by simp; omega), if_neg (by omega), List.length_replicate]
      rcases hq : q - (s / X.n).toNat with _ | m
      · rw [if_pos (by omega)]; simp
      · rw [if_neg (by omega), List.getElem?_cons_succ]
        by_cases h2 : m < (s % X.n).toNat
        · rw [if_pos (by omega)]; simp [h2]
        · rw [if_neg (by omega)]
          rw [List.getElem?_eq_none (by simp; omega)]
end Go.Proofs.Yteianfbdhakhpaa
