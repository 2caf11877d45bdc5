import Derived.Test.YtipdohpbilabiaaM6
/-! More copies, more changes, fewer keeps, or greater earnings: what comes of it. -/
namespace Go.Proofs.Ytipdohpbilabiaa
set_option linter.unusedSimpArgs false
set_option linter.unusedVariables false
open Go.RowKit

structure MoreP (X Y : Sw) : Prop where
  bs : Y.bs = X.bs
  stl : Y.st.length = X.st.length
  st : ∀ i, X.st.getD i 0 ≤ Y.st.getD i 0
  er : ∀ k i, earI X.vz k i ≤ earI Y.vz k i
  ks : ∃ m, Y.ks = X.ks.take m
  ch : X.ch ≤ Y.ch
theorem more_now {X Y : Sw} (h : MoreP X Y) : Y.vz.now = X.vz.now := by show planM Y.bs = planM X.bs; rw [h.bs]
theorem more_ch {X Y : Sw} (h : MoreP X Y) (p : Pl) (k : Nat) : chO Y.vz p k = chO X.vz p k := by unfold chO; rw [more_now h]
theorem more_chT {X Y : Sw} (h : MoreP X Y) (p : Pl) : chT Y.vz p = chT X.vz p := by
  unfold chT
  rw [show Y.vz.nb = X.vz.nb from by show Y.bs.length = X.bs.length; rw [h.bs]]
  have : ∀ k, chA Y.vz p k = chA X.vz p k := fun k => by
    induction k with
    | zero => rfl
    | succ k ih => rw [chA_succ, chA_succ, ih, more_ch h]
  exact this _
theorem more_plans {X Y : Sw} (hX : XOk X) (hY : XOk Y) (h : MoreP X Y) {p : Pl} (hp : p ∈ plansV X.vz) : p ∈ plansV Y.vz := by
  have hnb : Y.vz.nb = X.vz.nb := by show Y.bs.length = X.bs.length; rw [h.bs]
  obtain ⟨h1, h2, h3⟩ := (plans_mem hX.nb3 p).1 hp
  refine (plans_mem hY.nb3 p).2 ⟨fun j hj hjb => h1 j hj (by rw [← hnb]; exact hjb), fun k hk => ?_, ?_⟩
  · rw [hnb] at hk
    obtain ⟨a1, a2, a3⟩ := h2 k hk
    refine ⟨by rw [show Y.vz.st.length = X.vz.st.length from h.stl]; exact a1, by rw [more_now h]; exact a2, ?_⟩
    unfold fitB at a3 ⊢
    simp only [Bool.and_eq_true, decide_eq_true_eq, beq_iff_eq] at a3 ⊢
    rw [more_ch h]
    refine ⟨Int.le_trans a3.1 h.ch, ?_⟩
    have hk3 : k < 3 := Nat.lt_of_lt_of_le hk hX.nb3
    have b1 := wo_zero.1 a3.2
    refine wo_zero.2 fun i hi => b1 i ?_
    have e1 : (Y.vz.stay.get k).testBit i = _ := stay_bits _ Y.ks rfl (fun q hq => by have := hY.keep q hq; have := hY.nb3; omega) k hk3 i
    have e2 : (X.vz.stay.get k).testBit i = _ := stay_bits _ X.ks rfl (fun q hq => by have := hX.keep q hq; have := hX.nb3; omega) k hk3 i
    rw [e1] at hi
    rw [e2]
    obtain ⟨m, hm⟩ := h.ks
    rw [hm] at hi
    obtain ⟨q, hq, he⟩ := List.any_eq_true.1 hi
    exact List.any_eq_true.2 ⟨q, List.mem_of_mem_take hq, he⟩
  · unfold hasC at h3 ⊢
    rw [List.all_eq_true] at h3 ⊢
    intro i hi
    have := h3 i (by rw [show X.vz.st.length = Y.vz.st.length from h.stl.symm]; exact hi)
    unfold hasI at this ⊢
    rw [decide_eq_true_eq] at this ⊢
    have e1 : X.vz.st.getD i 0 = X.st.getD i 0 := rfl
    have e2 : Y.vz.st.getD i 0 = Y.st.getD i 0 := rfl
    have e3 := h.st i
    rw [more_now h]
    omega
theorem sumE_mono {V U : Vz} (h : ∀ k i, earI V k i ≤ earI U k i) (k : Nat) : ∀ (l : List Nat) (a b : Int), a ≤ b → l.foldl (fun s i => s + earI V k i) a ≤ l.foldl (fun s i => s + earI U k i) b
  | [], a, b, hab => hab
  | i :: l, a, b, hab => sumE_mono h k l (a + earI V k i) (b + earI U k i) (by have := h k i; omega)
theorem earB_mono {X Y : Sw} (h : MoreP X Y) (p : Pl) (k : Nat) : earB X.vz p k ≤ earB Y.vz p k := sumE_mono h.er k _ 0 0 (Int.le_refl _)
theorem earL_get (V : Vz) (p : Pl) {n j : Nat} (hj : j < n) : (earL V p n).getD j 0 = earB V p j := by
  unfold earL
  rw [List.getD_eq_getElem?_getD, List.getElem?_map, List.getElem?_range hj]
  rfl
theorem sumL_mono : ∀ (l m : List Int) (a b : Int), l.length = m.length → (∀ j, l.getD j 0 ≤ m.getD j 0) → a ≤ b → l.foldl (· + ·) a ≤ m.foldl (· + ·) b
  | [], [], a, b, _, _, hab => hab
  | x :: l, y :: m, a, b, hl, h, hab => sumL_mono l m (a + x) (b + y) (by simpa using hl) (fun j => h (j + 1)) (by have : x ≤ y := h 0; omega)
  | [], _ :: _, _, _, hl, _, _ => by simp at hl
  | _ :: _, [], _, _, hl, _, _ => by simp at hl
theorem earL_mono {X Y : Sw} (h : MoreP X Y) (p : Pl) (n : Nat) (j : Nat) : (earL X.vz p n).getD j 0 ≤ (earL Y.vz p n).getD j 0 := by
  rcases Nat.lt_or_ge j n with hj | hj
  · rw [earL_get _ _ hj, earL_get _ _ hj]; exact earB_mono h p j
  · rw [List.getD_eq_getElem?_getD, List.getD_eq_getElem?_getD, List.getElem?_eq_none (by rw [earL_len]; exact hj), List.getElem?_eq_none (by rw [earL_len]; exact hj)]
    exact Int.le_refl _
theorem earn_mono {X Y : Sw} (h : MoreP X Y) (p : Pl) : earn X.vz p ≤ earn Y.vz p := by
  unfold earn
  rw [show Y.vz.nb = X.vz.nb from by show Y.bs.length = X.bs.length; rw [h.bs]]
  exact sumL_mono _ _ 0 0 (by rw [earL_len, earL_len]) (earL_mono h p _) (Int.le_refl _)
theorem more_best {X Y : Sw} (hX : XOk X) (hY : XOk Y) (h : MoreP X Y) : earn X.vz (bestP X.vz) ≤ earn Y.vz (bestP Y.vz) :=
  Int.le_trans (earn_mono h _) (earn_bestP (more_plans hX hY h (best_in hX)))
theorem more_fair {X Y : Sw} (hX : XOk X) (hY : XOk Y) (h : MoreP X Y) (h1 : 1 ≤ X.bs.length) : fairV X.vz ≤ fairV Y.vz := by
  obtain ⟨_, _, a3⟩ := fair_max X.vz (plansV X.vz)
  obtain ⟨b1, b2, _⟩ := fair_max Y.vz (plansV Y.vz)
  rcases a3 with a3 | ⟨p, hp, a3⟩
  · show fairF X.vz (plansV X.vz) ≤ _; rw [a3]; exact b1
  · have h2 := b2 p (more_plans hX hY h hp)
    show fairF X.vz (plansV X.vz) ≤ _
    rw [a3]
    refine Int.le_trans ?_ h2
    rw [show Y.vz.nb = X.vz.nb from by show Y.bs.length = X.bs.length; rw [h.bs]]
    have hm := minL_mem (l := earL Y.vz p X.vz.nb) (by rw [earL_len]; exact h1)
    obtain ⟨j, hj, e⟩ := mem_getD 0 hm
    rw [earL_len] at hj
    rw [← e]
    refine Int.le_trans (minL_le _ (getD_mem' _ 0 (by rw [earL_len]; exact hj))) (earL_mono h p _ j)
theorem more_few {X Y : Sw} (hX : XOk X) (hY : XOk Y) (h : MoreP X Y) (goal : Int) (hf : (fewV X.vz goal).2 = true) : (fewV Y.vz goal).2 = true ∧ (fewV Y.vz goal).1 ≤ (fewV X.vz goal).1 := by
  obtain ⟨⟨p, hp, hg, he⟩, _⟩ := (few_ok X.vz goal (plansV X.vz)).2 hf
  obtain ⟨h1, h2⟩ := few_le (more_plans hX hY h hp) (Int.le_trans hg (earn_mono h p))
  refine ⟨h1, ?_⟩
  rw [more_chT h] at h2
  show _ ≤ (fewF X.vz goal (plansV X.vz)).1
  rw [← he]
  exact h2
end Go.Proofs.Ytipdohpbilabiaa
