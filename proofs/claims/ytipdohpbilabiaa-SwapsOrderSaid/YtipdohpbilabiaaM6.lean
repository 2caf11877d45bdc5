import Derived.Test.YtipdohpbilabiaaM5
import Derived.Test.YtipdohpbilabiaaN3
/-! Which plans fit; what all best plans have; the fewest changes. -/
namespace Go.Proofs.Ytipdohpbilabiaa
set_option linter.unusedSimpArgs false
set_option linter.unusedVariables false
open Go.RowKit

theorem Pl.ext_get {p q : Pl} (h : ∀ j, j < 3 → p.get j = q.get j) : p = q := by
  obtain ⟨a, b, c⟩ := p
  obtain ⟨a', b', c'⟩ := q
  have h0 : a = a' := h 0 (by omega)
  have h1 : b = b' := h 1 (by omega)
  have h2 : c = c' := h 2 (by omega)
  rw [h0, h1, h2]
theorem fitB_get {V : Vz} {p q : Pl} {k : Nat} (h : p.get k = q.get k) : fitB V p k = fitB V q k := by
  unfold fitB chO; rw [h]
theorem plansF_mem {V : Vz} (hn : V.nb ≤ 3) : ∀ (r : Nat) (p0 : Pl) (box : Nat), box + r = V.nb → ∀ q, q ∈ plansF V r p0 box ↔
    ((∀ j, j < 3 → (j < box ∨ V.nb ≤ j) → q.get j = p0.get j) ∧ (∀ k, box ≤ k → k < V.nb → q.get k < 2 ^ V.st.length ∧ cnt (q.get k) = cnt (V.now.get k) ∧ fitB V q k = true) ∧ hasC V q = true)
  | 0, p0, box, hb, q => by
    unfold plansF
    constructor
    · intro h
      split at h
      · rename_i hc
        rw [List.mem_singleton.1 h]
        exact ⟨fun _ _ _ => rfl, fun k h1 h2 => by omega, hc⟩
      · exact (nomatch h)
    · rintro ⟨h1, _, h3⟩
      have e : q = p0 := Pl.ext_get fun j hj => h1 j hj (by omega)
      rw [← e, if_pos h3]
      exact List.mem_singleton.2 rfl
  | r + 1, p0, box, hb, q => by
    have hbox : box < V.nb := by omega
    have hb3 : box < 3 := by omega
    unfold plansF
    rw [List.mem_flatMap]
    constructor
    · rintro ⟨t, ht, h⟩
      split at h
      · rename_i hc
        rw [Bool.and_eq_true, beq_iff_eq] at hc
        obtain ⟨h1, h2, h3⟩ := (plansF_mem hn r (p0.set box t) (box + 1) (by omega) q).1 h
        have hq : q.get box = t := by rw [h1 box hb3 (.inl (by omega)), Pl.get_set hb3]
        refine ⟨fun j hj hjb => ?_, fun k hk1 hk2 => ?_, h3⟩
        · rw [h1 j hj (by omega), Pl.get_set_ne hb3 hj (by omega)]
        · by_cases e : k = box
          · subst e
            rw [hq]
            exact ⟨List.mem_range.1 ht, hc.1, by rw [← hc.2]; exact fitB_get (by rw [hq, Pl.get_set hb3])⟩
          · exact h2 k (by omega) hk2
      · exact (nomatch h)
    · rintro ⟨h1, h2, h3⟩
      obtain ⟨a1, a2, a3⟩ := h2 box (Nat.le_refl _) hbox
      refine ⟨q.get box, List.mem_range.2 a1, ?_⟩
      have hf : fitB V (p0.set box (q.get box)) box = true := by rw [← a3]; exact fitB_get (Pl.get_set hb3)
      rw [if_pos (by rw [Bool.and_eq_true, beq_iff_eq]; exact ⟨a2, hf⟩)]
      refine (plansF_mem hn r _ (box + 1) (by omega) q).2 ⟨fun j hj hjb => ?_, fun k hk1 hk2 => h2 k (by omega) hk2, h3⟩
      by_cases e : j = box
      · subst e; rw [Pl.get_set hb3]
      · rw [Pl.get_set_ne hb3 hj (by omega)]
        exact h1 j hj (by omega)
/-- The plans that fit. -/
theorem plans_mem {V : Vz} (hn : V.nb ≤ 3) (q : Pl) : q ∈ plansV V ↔ ((∀ j, j < 3 → V.nb ≤ j → q.get j = 0) ∧ (∀ k, k < V.nb → q.get k < 2 ^ V.st.length ∧ cnt (q.get k) = cnt (V.now.get k) ∧ fitB V q k = true) ∧ hasC V q = true) := by
  unfold plansV
  rw [plansF_mem hn V.nb pl0 0 (by omega) q]
  have h0 : ∀ j, j < 3 → pl0.get j = 0 := fun j hj => by
    match j, hj with
    | 0, _ => rfl
    | 1, _ => rfl
    | 2, _ => rfl
  constructor
  · rintro ⟨h1, h2, h3⟩
    exact ⟨fun j hj hjb => by rw [h1 j hj (.inr hjb), h0 j hj], fun k hk => h2 k (by omega) hk, h3⟩
  · rintro ⟨h1, h2, h3⟩
    exact ⟨fun j hj hjb => by rw [h0 j hj]; exact h1 j hj (by omega), fun k _ hk => h2 k hk, h3⟩
theorem plans_fit {V : Vz} (hn : V.nb ≤ 3) {q : Pl} (h : q ∈ plansV V) : fitA V q = true := by
  obtain ⟨_, h2, h3⟩ := (plans_mem hn q).1 h
  unfold fitA
  rw [Bool.and_eq_true, List.all_eq_true]
  exact ⟨fun k hk => (h2 k (List.mem_range.1 hk)).2.2, h3⟩
theorem best_in {X : Sw} (hok : XOk X) : bestP X.vz ∈ plansV X.vz := by
  rcases (best_max X.vz (plansV X.vz)).1 with h | h
  · unfold bestP; rw [h]; exact now_in hok
  · exact h
theorem now_fits {X : Sw} (hok : XOk X) : fitA X.vz (planM X.bs) = true := plans_fit hok.nb3 (now_in hok)
theorem plB_self {X : Sw} (hok : XOk X) : plB X X.bs = true := by
  unfold plB plI
  simp only [decide_true, Bool.true_and, List.all_eq_true, List.mem_range]
  exact fun i hi => (hok.b3 i hi).2

theorem andP_get (c q : Pl) {k : Nat} (hk : k < 3) : (andP c q).get k = c.get k &&& q.get k := by
  match k, hk with
  | 0, _ => rfl
  | 1, _ => rfl
  | 2, _ => rfl
/-- What all best plans have. -/
theorem alw_bits (V : Vz) (m : Int) {k : Nat} (hk : k < 3) (i : Nat) : ∀ (l : List Pl) (c : Pl), ((alwF V m c l).get k).testBit i = true ↔ ((c.get k).testBit i = true ∧ ∀ q ∈ l, m ≤ earn V q → (q.get k).testBit i = true)
  | [], c => ⟨fun h => ⟨h, fun q hq => (nomatch hq)⟩, fun h => h.1⟩
  | x :: l, c => by
    have e : alwF V m c (x :: l) = alwF V m (if earn V x < m then c else andP c x) l := rfl
    rw [e, alw_bits V m hk i l]
    by_cases hx : earn V x < m
    · rw [if_pos hx]
      refine ⟨fun ⟨h1, h2⟩ => ⟨h1, fun q hq hm => ?_⟩, fun ⟨h1, h2⟩ => ⟨h1, fun q hq hm => h2 q (List.mem_cons_of_mem _ hq) hm⟩⟩
      rcases List.mem_cons.1 hq with rfl | hq
      · omega
      · exact h2 q hq hm
    · rw [if_neg hx, andP_get c x hk, Nat.testBit_and, Bool.and_eq_true]
      refine ⟨fun ⟨⟨h1, h3⟩, h2⟩ => ⟨h1, fun q hq hm => ?_⟩, fun ⟨h1, h2⟩ => ⟨⟨h1, h2 x List.mem_cons_self (by omega)⟩, fun q hq hm => h2 q (List.mem_cons_of_mem _ hq) hm⟩⟩
      rcases List.mem_cons.1 hq with rfl | hq
      · exact h3
      · exact h2 q hq hm
theorem alw_ok64 {X : Sw} (hok : XOk X) : (alwP X.vz).ok 64 := by
  have h := vz_ok hok
  exact alwF_ok _ _ _ _ ((plansV_ok (best_in hok)).le h.p64) (fun q hq => (plansV_ok hq).le h.p64)
theorem alw_best {X : Sw} {q : Pl} (hq : q ∈ plansV X.vz) (he : earn X.vz q = earn X.vz (bestP X.vz)) {k : Nat} (hk : k < 3) {i : Nat} (h : ((alwP X.vz).get k).testBit i = true) : (q.get k).testBit i = true :=
  ((alw_bits X.vz _ hk i (plansV X.vz) (bestP X.vz)).1 h).2 q hq (by omega)
/-- A plan that fits and earns as much as it can has all that is always there. -/
theorem each_law {X : Sw} {P : List (List Int)} (hpl : plB X P = true) (hok : XOk X) (hq : planM P ∈ plansV X.vz) (he : earn X.vz (planM P) = earn X.vz (bestP X.vz)) : ∀ x ∈ keepL (alwP X.vz), 0 ≤ x.1 ∧ x.1 < (P.length : Int) ∧ inL x.2 (P.getD x.1.toNat []) = true := fun x hx => by
  unfold keepL keepK at hx
  rw [List.mem_flatMap] at hx
  obtain ⟨k, hk, hx⟩ := hx
  have hk3 : k < 3 := List.mem_range.1 hk
  unfold keepR at hx
  rw [List.mem_map] at hx
  obtain ⟨i, hi, rfl⟩ := hx
  obtain ⟨hb, hi6⟩ := mem_bits hi
  have ht := alw_best hq he hk3 hb
  obtain ⟨hl, hp⟩ := plB_parts hpl
  have hn3 := hok.nb3
  have hkl : k < P.length := by
    rcases Nat.lt_or_ge k P.length with h | h
    · exact h
    · have h0 := ((plans_mem hok.nb3 _).1 hq).1 k hk3 (by show X.bs.length ≤ k; omega)
      rw [h0] at ht; simp at ht
  rw [show (planM P).get k = mask (P.getD k []) from now_get P hkl (by omega)] at ht
  rw [mask_test (fun y hy => ((plB_title hok hpl).2 _ (getD_mem' P [] hkl) y hy).1) i] at ht
  exact ⟨by simp, by show (k : Int) < _; omega, ht⟩
theorem few_le {V : Vz} {goal : Int} {p : Pl} (hp : p ∈ plansV V) (hg : goal ≤ earn V p) : (fewV V goal).2 = true ∧ (fewV V goal).1 ≤ (chT V p : Int) := by
  obtain ⟨h1, h2⟩ := few_ok V goal (plansV V)
  have h : (fewV V goal).2 = true := h1.2 ⟨p, hp, hg⟩
  exact ⟨h, (h2 h).2 p hp hg⟩
/-- All changes of the first boxes. -/
def acF (X : Sw) (P : List (List Int)) (k : Nat) : Int := ((List.range k).map fun j => (coF (P.getD j []) (X.bs.getD j []) : Int)).foldl (· + ·) 0
theorem acF_succ (X : Sw) (P : List (List Int)) (k : Nat) : acF X P (k + 1) = acF X P k + (coF (P.getD k []) (X.bs.getD k []) : Int) := by simp [acF, List.range_succ]
theorem ac_ch {X : Sw} (hok : XOk X) {P : List (List Int)} (hpl : plB X P = true) : ∀ k, k ≤ X.bs.length → acF X P k = (chA X.vz (planM P) k : Int)
  | 0, _ => rfl
  | k + 1, hk => by rw [acF_succ, ac_ch hok hpl k (by omega), chA_succ, chO_co hok hpl (by omega)]; omega
theorem earn_ea {X : Sw} (hok : XOk X) {P : List (List Int)} (hpl : plB X P = true) : eaF X P P.length = earn X.vz (planM P) := by
  obtain ⟨hl, hp⟩ := plB_parts hpl
  have hn3 := hok.nb3
  have h6 : ntI X < 6 := by unfold ntI; have := hok.t6; omega
  unfold eaF earn earL
  rw [show X.vz.nb = P.length from hl.symm]
  congr 1
  refine List.map_congr_left fun k hk => ?_
  have hk' : k < P.length := List.mem_range.1 hk
  obtain ⟨hlen, hr⟩ := hp k hk'
  have h3 := (hok.b3 k (by omega)).1
  unfold eiF earB
  rw [show (planM P).get k = mask (P.getD k []) from now_get P hk' (by omega), bits_mask hr h6 (by omega)]
end Go.Proofs.Ytipdohpbilabiaa
