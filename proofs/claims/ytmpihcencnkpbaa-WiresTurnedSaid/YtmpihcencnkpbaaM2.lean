import Derived.Test.YtmpihcencnkpbaaTU
/-! The reference's list of sets holds those of the program, each once. -/
namespace Go.Proofs.Ytmpihcencnkpbaa
set_option linter.unusedSimpArgs false
set_option linter.unusedVariables false
open Go Go.RowKit

/-- A fault that goes with some. -/
def rfit (s : List F3) (x : F3) : Bool := s.all fun g => !rclB g x
def rsT (R : List F3 → List F3 → List (List F3)) (first : List F3) : List F3 → List (List F3)
  | [] => []
  | x :: r => (if rfit first x = true then R (first ++ [x]) r else []) ++ rsT R first r
/-- All sets that begin with some faults and go on with at most so many of a list. -/
def rsL : Nat → List F3 → List F3 → List (List F3)
  | 0, first, _ => [first]
  | m + 1, first, Y => first :: rsT (rsL m) first Y
theorem rsT_mem {R : List F3 → List F3 → List (List F3)} {first s : List F3} : ∀ {Y : List F3}, s ∈ rsT R first Y ↔ ∃ p x r, Y = p ++ x :: r ∧ rfit first x = true ∧ s ∈ R (first ++ [x]) r
  | [] => by
    simp only [rsT, List.not_mem_nil, false_iff]
    rintro ⟨p, x, r, h, _⟩
    simp at h
  | y :: Y => by
    rw [rsT, List.mem_append, rsT_mem]
    constructor
    · rintro (h | ⟨p, x, r, rfl, h1, h2⟩)
      · by_cases hf : rfit first y = true
        · rw [if_pos hf] at h
          exact ⟨[], y, Y, rfl, hf, h⟩
        · rw [if_neg hf] at h; simp at h
      · exact ⟨y :: p, x, r, rfl, h1, h2⟩
    · rintro ⟨p, x, r, h, h1, h2⟩
      cases p with
      | nil =>
        simp only [List.nil_append, List.cons.injEq] at h
        obtain ⟨rfl, rfl⟩ := h
        left; rw [if_pos h1]; exact h2
      | cons z p =>
        simp only [List.cons_append, List.cons.injEq] at h
        obtain ⟨rfl, rfl⟩ := h
        exact .inr ⟨p, x, r, rfl, h1, h2⟩
/-- What is in it. -/
theorem rsL_mem : ∀ {m : Nat} {first Y s : List F3}, s ∈ rsL m first Y ↔ ∃ t, s = first ++ t ∧ t.length ≤ m ∧ t.Sublist Y ∧ (∀ x ∈ t, rfit first x = true) ∧ t.Pairwise fun g f => rclB g f = false
  | 0, first, Y, s => by
    rw [rsL, List.mem_singleton]
    constructor
    · rintro rfl
      exact ⟨[], by simp, Nat.le_refl _, List.nil_sublist _, fun x hx => by simp at hx, List.Pairwise.nil⟩
    · rintro ⟨t, rfl, h, _⟩
      rw [List.length_eq_zero_iff.1 (Nat.le_zero.1 h), List.append_nil]
  | m + 1, first, Y, s => by
    rw [rsL, List.mem_cons, rsT_mem]
    constructor
    · rintro (rfl | ⟨p, x, r, rfl, h1, h2⟩)
      · exact ⟨[], by simp, Nat.zero_le _, List.nil_sublist _, fun x hx => by simp at hx, List.Pairwise.nil⟩
      · obtain ⟨t, rfl, h3, h4, h5, h6⟩ := rsL_mem.1 h2
        have hall : ∀ y ∈ t, rfit first y = true ∧ rclB x y = false := fun y hy => by
          have := h5 y hy
          unfold rfit at this ⊢
          rw [List.all_append, Bool.and_eq_true] at this
          exact ⟨this.1, by simpa using this.2⟩
        refine ⟨x :: t, by simp, by rw [List.length_cons]; omega, ?_, fun y hy => ?_, List.pairwise_cons.2 ⟨fun y hy => (hall y hy).2, h6⟩⟩
        · exact List.Sublist.trans (List.Sublist.cons_cons x h4) (List.sublist_append_right p (x :: r))
        · rcases List.mem_cons.1 hy with e | e
          · rw [e]; exact h1
          · exact (hall y e).1
    · rintro ⟨t, rfl, h1, h2, h3, h4⟩
      cases t with
      | nil => left; rw [List.append_nil]
      | cons x t =>
        right
        obtain ⟨p, r, rfl, h5⟩ : ∃ p r, Y = p ++ x :: r ∧ t.Sublist r := by
          obtain ⟨p, r, e, h5, h6⟩ := List.cons_sublist_iff.1 h2
          obtain ⟨p1, p2, rfl⟩ := List.append_of_mem h5
          exact ⟨p1, p2 ++ r, by rw [e]; simp, List.Sublist.trans h6 (List.sublist_append_right _ _)⟩
        obtain ⟨h6, h7⟩ := List.pairwise_cons.1 h4
        refine ⟨p, x, r, rfl, h3 x List.mem_cons_self, rsL_mem.2 ⟨t, by simp, by rw [List.length_cons] at h1; omega, h5, fun y hy => ?_, h7⟩⟩
        have := h3 y (List.mem_cons_of_mem _ hy)
        unfold rfit at this ⊢
        rw [List.all_append, Bool.and_eq_true]
        exact ⟨this, by simp [h6 y hy]⟩
theorem sub_sorted : ∀ {Y t : List F3}, Y.Pairwise (fun g f => cmpF g f < 0) → t.Pairwise (fun g f => cmpF g f < 0) → (∀ x ∈ t, x ∈ Y) → t.Sublist Y
  | Y, [], _, _, _ => List.nil_sublist _
  | [], x :: t, _, _, h => by have := h x List.mem_cons_self; simp at this
  | y :: Y, x :: t, hY, ht, h => by
    obtain ⟨a1, a2⟩ := List.pairwise_cons.1 hY
    obtain ⟨b1, b2⟩ := List.pairwise_cons.1 ht
    rcases List.mem_cons.1 (h x List.mem_cons_self) with e | e
    · subst e
      refine List.Sublist.cons_cons x (sub_sorted a2 b2 fun z hz => ?_)
      rcases List.mem_cons.1 (h z (List.mem_cons_of_mem _ hz)) with e | e
      · exact absurd (b1 z hz) (by rw [e]; exact fun q => cmpF_asymm q q)
      · exact e
    · refine List.Sublist.cons y (sub_sorted a2 ht fun z hz => ?_)
      rcases List.mem_cons.1 (h z hz) with e2 | e2
      · exfalso
        rcases List.mem_cons.1 hz with e3 | e3
        · rw [← e3, e2] at e
          exact cmpF_asymm (a1 y e) (a1 y e)
        · have h1 := b1 z e3
          rw [e2] at h1
          exact cmpF_asymm h1 (a1 x e)
      · exact e2
/-- The reference's sets are those of a box. -/
theorem rs_mem {L N : Int} (hL : 1 ≤ L ∧ L ≤ 5) (hN : 1 ≤ N ∧ N ≤ 5) {m : Nat} {s : List F3} : s ∈ rsL m [] (allF L N) ↔ s ∈ setsL L N m := by
  rw [rsL_mem, setsL_mem hL hN]
  have hs := allF_sorted hL hN
  constructor
  · rintro ⟨t, rfl, h1, h2, _, h3⟩
    refine ⟨setB_iff.2 ⟨fun f hf => (faultB_iff hL hN).2 (h2.subset hf), ?_⟩, h1⟩
    have hp := List.Pairwise.sublist h2 hs
    have := hp.and h3
    refine List.Pairwise.imp_of_mem (fun {g f} hg _ hh => ?_) this
    have hk := Okf.of hL hN (h2.subset hg)
    exact offB_iff.2 ⟨hh.1, by rw [← rclB_eq hk.1.2]; exact hh.2⟩
  · rintro ⟨h1, h2⟩
    obtain ⟨h3, h4⟩ := setB_iff.1 h1
    have hm : ∀ x ∈ s, x ∈ allF L N := fun x hx => (faultB_iff hL hN).1 (h3 x hx)
    refine ⟨s, rfl, h2, sub_sorted hs (h4.imp fun {g f} h => (offB_iff.1 h).1) hm, fun x _ => rfl, List.Pairwise.imp_of_mem (fun {g f} hg _ hh => ?_) h4⟩
    have hk := Okf.of hL hN (hm g hg)
    rw [rclB_eq hk.1.2]; exact (offB_iff.1 hh).2
theorem rsT_pre {m : Nat} {first Y s : List F3} (h : s ∈ rsT (rsL m) first Y) : ∃ x t, x ∈ Y ∧ s = first ++ x :: t := by
  obtain ⟨p, x, r, rfl, _, h2⟩ := rsT_mem.1 h
  obtain ⟨t, rfl, _⟩ := rsL_mem.1 h2
  exact ⟨x, t, by simp, by simp⟩
theorem rsT_nodup {m : Nat} (IH : ∀ first Y, Y.Nodup → (rsL m first Y).Nodup) : ∀ {first Y : List F3}, Y.Nodup → (rsT (rsL m) first Y).Nodup
  | first, [], _ => List.Pairwise.nil
  | first, y :: Y, h => by
    obtain ⟨h1, h2⟩ := List.nodup_cons.1 h
    rw [rsT, List.nodup_append]
    refine ⟨?_, rsT_nodup IH h2, fun a ha b hb e => ?_⟩
    · split
      · exact IH _ _ h2
      · exact List.Pairwise.nil
    · subst e
      obtain ⟨x, t, hx, e1⟩ := rsT_pre hb
      split at ha
      · obtain ⟨t2, e2, _⟩ := rsL_mem.1 ha
        rw [e1, List.append_assoc] at e2
        have := List.append_cancel_left e2
        simp only [List.cons_append, List.nil_append, List.cons.injEq] at this
        rw [this.1] at hx
        exact h1 hx
      · simp at ha
theorem rsL_nodup : ∀ (m : Nat) (first Y : List F3), Y.Nodup → (rsL m first Y).Nodup
  | 0, first, Y, _ => by rw [rsL]; simp
  | m + 1, first, Y, h => by
    rw [rsL, List.nodup_cons]
    refine ⟨fun hm => ?_, rsT_nodup (rsL_nodup m) h⟩
    obtain ⟨x, t, _, e⟩ := rsT_pre hm
    have := congrArg List.length e
    simp at this
theorem allF_nodup {L N : Int} (hL : 1 ≤ L ∧ L ≤ 5) (hN : 1 ≤ N ∧ N ≤ 5) : (allF L N).Nodup := (allF_sorted hL hN).imp fun {a b} h e => by
  rw [e] at h; exact cmpF_asymm h h
theorem levL_nodup {F : List F3} (hF : F.Nodup) : ∀ m, (levL F m).Nodup
  | 0 => by rw [levL]; simp
  | m + 1 => by
    rw [levL]
    unfold groL groIn
    show List.Pairwise _ _
    rw [List.pairwise_flatMap]
    refine ⟨fun s _ => ?_, (levL_nodup hF m).imp fun {a b} hab x hx y hy e => ?_⟩
    · rw [List.pairwise_map]
      exact (hF.filter _).imp fun {a b} hab e => hab (by simpa using e)
    · obtain ⟨f, _, rfl⟩ := List.mem_map.1 hx
      obtain ⟨g, _, e2⟩ := List.mem_map.1 hy
      rw [← e2] at e
      exact hab (List.append_inj' e rfl).1
theorem setsL_nodup {L N : Int} (hL : 1 ≤ L ∧ L ≤ 5) (hN : 1 ≤ N ∧ N ≤ 5) (m : Nat) : (setsL L N m).Nodup := by
  rw [setsL_eq]
  show List.Pairwise _ _
  rw [List.pairwise_flatMap]
  refine ⟨fun i _ => levL_nodup (allF_nodup hL hN) i, List.pairwise_lt_range.imp fun {i j} hij s hs t ht e => ?_⟩
  have h1 := ((levL_mem hL hN).1 hs).2
  have h2 := ((levL_mem hL hN).1 ht).2
  rw [e] at h1
  omega
theorem perm_of {X Y : List (List F3)} (hX : X.Nodup) (hY : Y.Nodup) (h : ∀ s, s ∈ X ↔ s ∈ Y) : X.Perm Y := by
  rw [List.perm_iff_count]
  intro a
  have h1 := List.nodup_iff_count.1 hX a
  have h2 := List.nodup_iff_count.1 hY a
  by_cases hm : a ∈ X
  · have h3 := List.count_pos_iff.2 hm
    have h4 := List.count_pos_iff.2 ((h a).1 hm)
    omega
  · rw [List.count_eq_zero.2 hm, List.count_eq_zero.2 (fun q => hm ((h a).2 q))]
/-- The reference's sets are the program's, in another order. -/
theorem rs_perm {L N : Int} (hL : 1 ≤ L ∧ L ≤ 5) (hN : 1 ≤ N ∧ N ≤ 5) (m : Nat) : (rsL m [] (allF L N)).Perm (setsL L N m) :=
  perm_of (rsL_nodup m [] _ (allF_nodup hL hN)) (setsL_nodup hL hN m) (fun _ => rs_mem hL hN)
end Go.Proofs.Ytmpihcencnkpbaa
