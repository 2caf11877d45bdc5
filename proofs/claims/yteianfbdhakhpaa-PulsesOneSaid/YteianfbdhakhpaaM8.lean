import Derived.Test.YteianfbdhakhpaaM4
/-! One more pulse. -/
namespace Go.Proofs.Yteianfbdhakhpaa
set_option linter.unusedSimpArgs false
set_option linter.unusedVariables false
open Go Go.RowKit

theorem risF_iff {e : Nat} : ∀ (l : List Int) (low : Nat), risF e low l ↔ (∀ x ∈ l, (low : Int) ≤ x ∧ x < (e : Int)) ∧ l.Pairwise (· < ·)
  | [], low => by simp [risF]
  | x :: r, low => by
    show (∃ n : Nat, x = (n : Int) ∧ low ≤ n ∧ n < e ∧ risF e (n + 1) r) ↔ _
    rw [List.pairwise_cons]
    constructor
    · rintro ⟨n, rfl, h1, h2, h3⟩
      obtain ⟨h4, h5⟩ := (risF_iff r (n + 1)).1 h3
      refine ⟨fun y hy => ?_, fun y hy => by have := h4 y hy; omega, h5⟩
      rcases List.mem_cons.1 hy with rfl | hy
      · omega
      · have := h4 y hy; omega
    · rintro ⟨h1, h2, h3⟩
      have hx := h1 x (by simp)
      refine ⟨x.toNat, by omega, by omega, by omega, (risF_iff r _).2 ⟨fun y hy => ?_, h3⟩⟩
      have := h1 y (by simp [hy])
      have := h2 y hy
      omega
theorem woA_app (sp : List Int) : ∀ (a b : List Int) (k : Nat), woA sp k (a ++ b) = woA sp k a ++ woA sp (k + a.length) b
  | [], b, k => by simp [woA]
  | x :: a, b, k => by
    rw [List.cons_append, woA, woA, woA_app sp a b (k + 1), List.length_cons, show k + (a.length + 1) = k + 1 + a.length by omega]
    split <;> simp
theorem woA_cong {sp sp' : List Int} : ∀ (ts : List Int) (k k' : Nat), (∀ j, j < ts.length → inL ((k + j : Nat) : Int) sp = inL ((k' + j : Nat) : Int) sp') → woA sp k ts = woA sp' k' ts
  | [], _, _, _ => rfl
  | x :: ts, k, k', h => by
    have h0 := h 0 (by simp)
    rw [Nat.add_zero, Nat.add_zero] at h0
    rw [woA, woA, h0, woA_cong ts (k + 1) (k' + 1) (fun j hj => by have := h (j + 1) (by simp; omega); rwa [show k + (j + 1) = k + 1 + j by omega, show k' + (j + 1) = k' + 1 + j by omega] at this)]
/-- Numbers of pulses, with one more pulse as number i that is a spark. -/
def insI (i : Nat) (s : List Int) : List Int := s.filter (fun x => decide (x < (i : Int))) ++ (i : Int) :: (s.filter (fun x => !decide (x < (i : Int)))).map (· + 1)
theorem filter_two (p : Int → Bool) : ∀ s : List Int, (s.filter p).length + (s.filter (fun x => !p x)).length = s.length
  | [] => rfl
  | x :: s => by
    have ih := filter_two p s
    cases h : p x <;> simp [h] <;> omega
theorem insI_len (i : Nat) (s : List Int) : (insI i s).length = s.length + 1 := by
  unfold insI
  rw [List.length_append, List.length_cons, List.length_map]
  have := filter_two (fun x => decide (x < (i : Int))) s
  omega
theorem insI_mem {i : Nat} {s : List Int} {x : Int} : x ∈ insI i s ↔ (x ∈ s ∧ x < i) ∨ x = i ∨ (x - 1 ∈ s ∧ i ≤ x - 1) := by
  unfold insI
  simp only [List.mem_append, List.mem_cons, List.mem_map, List.mem_filter, decide_eq_true_eq, Bool.not_eq_true', decide_eq_false_iff_not]
  constructor
  · rintro (h | h | ⟨y, ⟨h1, h2⟩, rfl⟩)
    · exact .inl h
    · exact .inr (.inl h)
    · exact .inr (.inr ⟨by rwa [show y + 1 - 1 = y by omega], by omega⟩)
  · rintro (h | h | ⟨h1, h2⟩)
    · exact .inl h
    · exact .inr (.inl h)
    · exact .inr (.inr ⟨x - 1, ⟨h1, by omega⟩, by omega⟩)
theorem insI_ris {i e : Nat} {s : List Int} (hi : i ≤ e) (h : risF e 0 s) : risF (e + 1) 0 (insI i s) := by
  rw [risF_iff] at *
  obtain ⟨h1, h2⟩ := h
  refine ⟨fun x hx => ?_, ?_⟩
  · rcases insI_mem.1 hx with ⟨h3, h4⟩ | h3 | ⟨h3, h4⟩
    · have := h1 x h3; omega
    · omega
    · have := h1 _ h3; omega
  · unfold insI
    rw [List.pairwise_append, List.pairwise_cons]
    refine ⟨h2.filter _, ⟨fun y hy => ?_, ?_⟩, fun x hx y hy => ?_⟩
    · obtain ⟨z, hz, rfl⟩ := List.mem_map.1 hy
      have := (List.mem_filter.1 hz).2
      simp at this; omega
    · rw [List.pairwise_map]
      exact (h2.filter _).imp (fun h => by omega)
    · have hx2 := (List.mem_filter.1 hx).2
      simp at hx2
      rcases List.mem_cons.1 hy with rfl | hy
      · exact hx2
      · obtain ⟨z, hz, rfl⟩ := List.mem_map.1 hy
        have := (List.mem_filter.1 hz).2
        simp at this; omega
theorem insI_wo {A B : List Int} {t : Int} {s : List Int} : woL (A ++ t :: B) (insI A.length s) = woL (A ++ B) s := by
  unfold woL
  rw [woA_app, woA_app, Nat.zero_add, woA]
  have e : inL (A.length : Int) (insI A.length s) = true := by
    simp only [inL, List.any_eq_true, beq_iff_eq]
    exact ⟨_, insI_mem.2 (.inr (.inl rfl)), rfl⟩
  have hmem : ∀ (x : Int) (l : List Int), inL x l = true ↔ x ∈ l := fun x l => by simp [inL]
  have hb : ∀ (x y : Int) (l l' : List Int), (x ∈ l ↔ y ∈ l') → inL x l = inL y l' := fun x y l l' h => by
    rw [Bool.eq_iff_iff, hmem, hmem]; exact h
  rw [if_pos e]
  congr 1
  · refine woA_cong A 0 0 fun j hj => hb _ _ _ _ ?_
    rw [insI_mem]
    constructor
    · rintro (h | h | h)
      · exact h.1
      · omega
      · omega
    · intro h
      exact .inl ⟨h, by omega⟩
  · refine woA_cong B _ _ fun j hj => hb _ _ _ _ ?_
    rw [insI_mem, show (((A.length + 1 + j : Nat) : Int) - 1) = ((A.length + j : Nat) : Int) by omega]
    constructor
    · rintro (h | h | h)
      · omega
      · omega
      · exact h.1
    · intro h
      exact .inr (.inr ⟨h, by omega⟩)
/-- With one more pulse there is at most one more spark. -/
theorem one_more {X : Pu} {A B : List Int} {t : Int} (hts : X.ts = A ++ B) (h : fewX X < 3) : fewX (X.wt (A ++ t :: B)) ≤ fewX X + 1 := by
  have h0 : fewX X ≤ fewX X := Nat.le_refl _
  unfold fewX at h0
  rw [fewM_iff (show fewM (rdL X 3) < 4 by unfold fewX at h; omega)] at h0
  obtain ⟨r, hr, hl⟩ := h0
  obtain ⟨_, h2, h3⟩ := rdL_iff.1 hr
  have hl' : r.1.length ≤ fewX X := hl
  show fewM (rdL (X.wt (A ++ t :: B)) 3) ≤ _
  rw [fewM_iff (by omega)]
  refine ⟨(insI A.length r.1, r.2), rdL_iff.2 ⟨by show (insI A.length r.1).length ≤ 3; rw [insI_len]; omega, ?_, ?_⟩, by show (insI A.length r.1).length ≤ _; rw [insI_len]; omega⟩
  · show risF (A ++ t :: B).length 0 _
    rw [show (A ++ t :: B).length = X.ts.length + 1 by rw [hts]; simp; omega]
    exact insI_ris (by rw [hts]; simp) h2
  · show lof (X.wt (A ++ t :: B)) (woL (A ++ t :: B) (insI A.length r.1)) = _
    rw [lof_wt, insI_wo, ← hts]
    exact h3
end Go.Proofs.Yteianfbdhakhpaa
