import Derived.Test.YtipdohpbilabiaaM2
import Derived.Test.YtipdohpbilabiaaVL
import Derived.Test.YtipdohpbilabiaaN3
import Derived.Test.YtipdohpbilabiaaNE
set_option linter.unusedSimpArgs false
set_option linter.unusedVariables false
/-! A plan's lists and its masks say the same of what fits. -/
namespace Go.Proofs.Ytipdohpbilabiaa
set_option linter.unusedSimpArgs false
set_option linter.unusedVariables false
open Go Go.RowKit

theorem mask_test {l : List Int} (hl : ∀ x ∈ l, 0 ≤ x) (t : Nat) : (mask l).testBit t = inL (t : Int) l := by
  unfold mask
  rw [mask_bits, Nat.zero_testBit, Bool.false_or]
  unfold inL
  rw [Bool.eq_iff_iff, List.any_eq_true, List.any_eq_true]
  constructor
  · rintro ⟨x, hx, e⟩
    have h0 := hl x hx
    have e' := eq_of_beq e
    exact ⟨x, hx, by rw [beq_iff_eq]; omega⟩
  · rintro ⟨x, hx, e⟩
    have h0 := hl x hx
    have e' := eq_of_beq e
    exact ⟨x, hx, by rw [beq_iff_eq]; omega⟩
theorem wo_bits (t u i : Nat) : (wo t u).testBit i = (t.testBit i && !u.testBit i) := by
  unfold wo
  rw [Nat.testBit_xor, Nat.testBit_and]
  cases t.testBit i <;> cases u.testBit i <;> rfl
theorem bits_wo (t u : Nat) : bitsOf (wo t u) = (bitsOf t).filter fun i => !u.testBit i := by
  unfold bitsOf bitsTo
  rw [List.filter_filter]
  refine List.filter_congr fun i _ => ?_
  rw [wo_bits, Bool.and_comm]
theorem plB_parts {X : Sw} {P : List (List Int)} (h : plB X P = true) : P.length = X.bs.length ∧ ∀ k, k < P.length → (P.getD k []).length = (X.bs.getD k []).length ∧ risB (ntI X) (P.getD k []) = true := by
  unfold plB at h
  simp only [Bool.and_eq_true, decide_eq_true_eq] at h
  refine ⟨h.1, fun k hk => ?_⟩
  have := all_at h.2 hk
  unfold plI at this
  simpa only [Bool.and_eq_true, decide_eq_true_eq] using this
theorem chO_co {X : Sw} (hok : XOk X) {P : List (List Int)} (hpl : plB X P = true) {k : Nat} (hk : k < X.bs.length) : chO X.vz (planM P) k = coF (P.getD k []) (X.bs.getD k []) := by
  obtain ⟨hl, hp⟩ := plB_parts hpl
  have hkP : k < P.length := by omega
  obtain ⟨hlen, hr⟩ := hp k hkP
  obtain ⟨hb3, hbr⟩ := hok.b3 k hk
  have hn3 := hok.nb3
  have h6 : ntI X < 6 := by unfold ntI; have := hok.t6; omega
  have hg1 : (planM P).get k = mask (P.getD k []) := now_get P hkP (by omega)
  have hg2 : X.vz.now.get k = mask (X.bs.getD k []) := now_get X.bs hk hn3
  have hm1 := ris_mem hr
  have hm2 := ris_mem hbr
  unfold chO cnt coF
  rw [hg1, hg2, bits_wo, bits_mask hr h6 (by omega), List.filter_map, List.length_map]
  congr 1
  refine List.filter_congr fun x hx => ?_
  show (!(mask (X.bs.getD k [])).testBit x.toNat) = !inL x (X.bs.getD k [])
  rw [mask_test (fun y hy => (hm2 y hy).1), Int.toNat_of_nonneg (hm1 x hx).1]
theorem cop_cn {P : List (List Int)} (h3 : P.length ≤ 3) (hP : ∀ l ∈ P, ∀ x ∈ l, 0 ≤ x) (i : Nat) : cop (planM P) i = cnF P (i : Int) := by
  unfold cop copK cnF
  rw [show List.range 3 = [0, 1, 2] from rfl]
  match P, h3 with
  | [], _ => simp [planM, planL, Pl.get]
  | [a], _ =>
    have ha := mask_test (hP a (by simp)) i
    simp only [planM, planL, Pl.get, List.filter_cons, List.filter_nil, List.length_cons, List.length_nil, List.getD_cons_zero, Nat.zero_testBit]
    simp [ha]
    cases inL (i : Int) a <;> simp
  | [a, b], _ =>
    have ha := mask_test (hP a (by simp)) i
    have hb := mask_test (hP b (by simp)) i
    simp [planM, planL, Pl.get, List.filter_cons, ha, hb]
    cases inL (i : Int) a <;> cases inL (i : Int) b <;> simp
  | [a, b, c], _ =>
    have ha := mask_test (hP a (by simp)) i
    have hb := mask_test (hP b (by simp)) i
    have hc := mask_test (hP c (by simp)) i
    simp [planM, planL, Pl.get, List.filter_cons, ha, hb, hc]
    cases inL (i : Int) a <;> cases inL (i : Int) b <;> cases inL (i : Int) c <;> simp
  | a :: b :: c :: d :: l, h3 => simp at h3
/-- The bits of what stays. -/
theorem stay_bits : ∀ (n : Nat) (l : List (Int × Int)), l.length = n → (∀ k ∈ l, 0 ≤ k.1 ∧ k.1 < 3 ∧ 0 ≤ k.2) → ∀ b, b < 3 → ∀ i, ((stayF l).get b).testBit i = l.any fun k => k.1 == (b : Int) && k.2 == (i : Int) := by
  intro n
  induction n with
  | zero =>
    intro l hl _ b hb i
    have : l = [] := List.length_eq_zero_iff.1 hl
    subst this
    have e : (stayF []).get b = 0 := by
      match b, hb with
      | 0, _ => rfl
      | 1, _ => rfl
      | 2, _ => rfl
    rw [e, Nat.zero_testBit]
    rfl
  | succ n ih =>
    intro l hl hk b hb i
    obtain ⟨l', p, rfl⟩ : ∃ l' p, l = l' ++ [p] := ⟨l.dropLast, l.getLast (by intro e; rw [e] at hl; cases hl), (List.dropLast_concat_getLast _).symm⟩
    have hl' : l'.length = n := by simpa using hl
    have h0 := ih l' hl' (fun k hk' => hk k (List.mem_append_left _ hk')) b hb i
    obtain ⟨h1, h2, h3⟩ := hk p (by simp)
    have hp3 : p.1.toNat < 3 := by omega
    rw [stayF_snoc, List.any_append, ← h0]
    by_cases hbp : b = p.1.toNat
    · have e1 : (p.1 == (b : Int)) = true := by rw [beq_iff_eq]; omega
      rw [hbp, Pl.get_set hp3, mask_one, Nat.testBit_or, Nat.testBit_two_pow, ← hbp]
      congr 1
      simp only [List.any_cons, List.any_nil, Bool.or_false, e1, Bool.true_and]
      rw [Bool.eq_iff_iff, decide_eq_true_eq, beq_iff_eq]
      omega
    · have e1 : (p.1 == (b : Int)) = false := by rw [beq_eq_false_iff_ne]; omega
      rw [Pl.get_set_ne hp3 hb hbp]
      simp [e1]
theorem wo_zero {t u : Nat} : wo t u = 0 ↔ ∀ i, t.testBit i = true → u.testBit i = true := by
  constructor
  · intro h i hi
    have := congrArg (fun n => n.testBit i) h
    simp only [wo_bits, hi, Nat.zero_testBit, Bool.true_and] at this
    simpa using this
  · intro h
    apply Nat.eq_of_testBit_eq
    intro i
    rw [wo_bits, Nat.zero_testBit]
    cases ht : t.testBit i
    · rfl
    · rw [h i ht]; rfl
/-- Lists fit just if their masks do. -/
theorem dfB_fit {X : Sw} (hok : XOk X) {P : List (List Int)} (hpl : plB X P = true) : dfB X P = fitA X.vz (planM P) := by
  obtain ⟨hl, hp⟩ := plB_parts hpl
  have hn3 := hok.nb3
  have hPn : ∀ l ∈ P, ∀ x ∈ l, 0 ≤ x := fun l hl' x hx => by
    obtain ⟨k, hk, rfl⟩ := mem_getD [] hl'
    exact (ris_mem (hp k hk).2 x hx).1
  have hbn : ∀ l ∈ X.bs, ∀ x ∈ l, 0 ≤ x := fun l hl' x hx => (hok.title l hl' x hx).1
  have hkm := hok.kmem
  have hks := hok.keep
  have hst := stay_bits _ X.ks rfl (fun k hk => ⟨(hks k hk).1, by have := (hks k hk).2.1; omega, (hks k hk).2.2.1⟩)
  rw [Bool.eq_iff_iff]
  unfold dfB fitA hasC
  simp only [Bool.and_eq_true, List.all_eq_true, List.mem_range]
  have h3 : ∀ i, df3 X P i = hasI X.vz (planM P) i := fun i => by
    unfold df3 hasI
    rw [cop_cn (by omega) hPn, show X.vz.now = planM X.bs from rfl, cop_cn hn3 hbn]
    rfl
  have hget : ∀ k, k < X.bs.length → (planM P).get k = mask (P.getD k []) := fun k hk => now_get P (by omega) (by omega)
  have hPm : ∀ k, k < X.bs.length → ∀ x ∈ P.getD k [], 0 ≤ x := fun k hk x hx => (ris_mem (hp k (by omega)).2 x hx).1
  constructor
  · rintro ⟨⟨a1, a2⟩, a3⟩
    refine ⟨fun k hk => ?_, fun i hi => by rw [← h3 i]; exact a3 i hi⟩
    have hk' : k < X.bs.length := hk
    have b1 := a1 k (by omega)
    unfold df1 at b1
    rw [decide_eq_true_eq] at b1
    unfold fitB
    rw [Bool.and_eq_true, decide_eq_true_eq, beq_iff_eq, chO_co hok hpl hk']
    refine ⟨b1, wo_zero.2 fun i hi => ?_⟩
    rw [hget k hk', mask_test (hPm k hk')]
    have hi' : ((stayF X.ks).get k).testBit i = true := hi
    rw [hst k (by omega) i, List.any_eq_true] at hi'
    obtain ⟨q, hq, e⟩ := hi'
    simp only [Bool.and_eq_true, beq_iff_eq] at e
    obtain ⟨j, hj, rfl⟩ := mem_getD (0, 0) hq
    have b2 := a2 j hj
    unfold df2 at b2
    rw [e.1, e.2, Int.toNat_natCast] at b2
    exact b2
  · rintro ⟨a1, a3⟩
    refine ⟨⟨fun k hk => ?_, fun j hj => ?_⟩, fun i hi => by rw [h3 i]; exact a3 i hi⟩
    · have hk' : k < X.bs.length := by omega
      have b1 := a1 k hk'
      unfold fitB at b1
      rw [Bool.and_eq_true, decide_eq_true_eq, chO_co hok hpl hk'] at b1
      unfold df1
      rw [decide_eq_true_eq]
      exact b1.1
    · obtain ⟨q0, q1, q2⟩ := hks _ (getD_mem' X.ks (0, 0) hj)
      have hkb : (X.ks.getD j (0, 0)).1.toNat < X.bs.length := by omega
      have b1 := a1 _ hkb
      unfold fitB at b1
      rw [Bool.and_eq_true, beq_iff_eq] at b1
      have b2 := wo_zero.1 b1.2 (X.ks.getD j (0, 0)).2.toNat (by
        show ((stayF X.ks).get _).testBit _ = true
        rw [hst _ (by omega) _, List.any_eq_true]
        refine ⟨_, getD_mem' X.ks (0, 0) hj, ?_⟩
        simp only [Bool.and_eq_true, beq_iff_eq]
        omega)
      rw [hget _ hkb, mask_test (hPm _ hkb), Int.toNat_of_nonneg q2.1] at b2
      exact b2
end Go.Proofs.Ytipdohpbilabiaa
/-! A plan that fits is among all plans; the fairest is the greatest of the least. -/
namespace Go.Proofs.Ytipdohpbilabiaa
set_option linter.unusedSimpArgs false
set_option linter.unusedVariables false
open Go Go.RowKit

theorem fit_in {X : Sw} (hok : XOk X) {P : List (List Int)} (hpl : plB X P = true) (hf : fitA X.vz (planM P) = true) : planM P ∈ plansV X.vz := by
  obtain ⟨hl, hp⟩ := plB_parts hpl
  have hn3 := hok.nb3
  have h6 : ntI X < 6 := by unfold ntI; have := hok.t6; omega
  have htl : ∀ l ∈ P, ∀ x ∈ l, 0 ≤ x ∧ x < (X.st.length : Int) := fun l hl' x hx => by
    obtain ⟨k, hk, rfl⟩ := mem_getD [] hl'
    have h := ris_mem (hp k hk).2 x hx
    unfold ntI at h
    omega
  have hget : ∀ k, k < X.bs.length → (planM P).get k = mask (P.getD k []) := fun k hk => now_get P (by omega) (by omega)
  have hms : ∀ k, k < X.bs.length → mask (P.getD k []) < 2 ^ X.st.length := fun k hk => by
    rw [← hget k hk]
    exact (planM_ok htl).get k
  unfold fitA at hf
  simp only [Bool.and_eq_true, List.all_eq_true, List.mem_range] at hf
  obtain ⟨hfb, hC⟩ := hf
  suffices h : ∀ (r box : Nat), box + r = X.bs.length → planM P ∈ plansF X.vz r (planL P box) box by
    have h0 := h X.bs.length 0 (by omega)
    exact h0
  intro r
  induction r with
  | zero =>
    intro box hb
    have e : planL P box = planM P := by rw [show box = P.length by omega]; rfl
    rw [e]
    unfold plansF
    rw [if_pos hC]
    exact List.mem_singleton.2 rfl
  | succ r ih =>
    intro box hb
    have hbox : box < X.bs.length := by omega
    have hb3 : box < 3 := by omega
    unfold plansF
    rw [List.mem_flatMap]
    have hg : X.vz.now.get box = mask (X.bs.getD box []) := now_get X.bs hbox hn3
    refine ⟨mask (P.getD box []), List.mem_range.2 (hms box hbox), ?_⟩
    have hcnt : (cnt (mask (P.getD box [])) == cnt (mask (X.bs.getD box []))) = true := by
      rw [beq_iff_eq]
      obtain ⟨h3, hr⟩ := hok.b3 box hbox
      obtain ⟨hlen, hr'⟩ := hp box (by omega)
      unfold cnt
      rw [bits_mask hr h6 h3, bits_mask hr' h6 (by omega), List.length_map, List.length_map]
      exact hlen
    have hfit : fitB X.vz ((planL P box).set box (mask (P.getD box []))) box = true := by
      have h := hfb box hbox
      unfold fitB chO at h ⊢
      rw [Pl.get_set hb3]
      rw [hget box hbox] at h
      exact h
    rw [hg, hcnt, hfit, Bool.and_true, if_pos rfl, ← planL_succ P hb3]
    exact ih (box + 1) (by omega)
theorem fair_max (V : Vz) (l : List Pl) : 0 ≤ fairF V l ∧ (∀ p ∈ l, minL (earL V p V.nb) ≤ fairF V l) ∧ (fairF V l = 0 ∨ ∃ p ∈ l, fairF V l = minL (earL V p V.nb)) := by
  suffices h : ∀ (n : Nat) (l : List Pl), l.length = n → 0 ≤ fairF V l ∧ (∀ p ∈ l, minL (earL V p V.nb) ≤ fairF V l) ∧ (fairF V l = 0 ∨ ∃ p ∈ l, fairF V l = minL (earL V p V.nb)) from h _ l rfl
  intro n
  induction n with
  | zero =>
    intro l hl
    have : l = [] := List.length_eq_zero_iff.1 hl
    subst this
    exact ⟨Int.le_refl _, fun p hp => (nomatch hp), .inl rfl⟩
  | succ n ih =>
    intro l hl
    obtain ⟨l', p, rfl⟩ : ∃ l' p, l = l' ++ [p] := ⟨l.dropLast, l.getLast (by intro e; rw [e] at hl; cases hl), (List.dropLast_concat_getLast _).symm⟩
    have hl' : l'.length = n := by simpa using hl
    obtain ⟨h0, h1, h2⟩ := ih l' hl'
    rw [fairF_snoc]
    generalize fairF V l' = s at *
    obtain ⟨y, hy⟩ : ∃ y, y = minL (earL V p V.nb) := ⟨_, rfl⟩
    rw [← hy]
    refine ⟨by omega, fun q hq => ?_, ?_⟩
    · rcases List.mem_append.1 hq with hq | hq
      · have := h1 q hq; omega
      · rw [List.mem_singleton.1 hq, ← hy]; omega
    · by_cases hsy : s ≤ y
      · exact .inr ⟨p, by simp, by rw [← hy]; omega⟩
      · rcases h2 with h2 | ⟨q, hq, e⟩
        · exact .inl (by omega)
        · exact .inr ⟨q, List.mem_append_left _ hq, by rw [← e]; omega⟩
end Go.Proofs.Ytipdohpbilabiaa
/-! The greatest of the least earnings: what it is at most. -/
namespace Go.Proofs.Ytipdohpbilabiaa
set_option linter.unusedSimpArgs false
set_option linter.unusedVariables false
open Go.RowKit

theorem fold_min_le : ∀ (l : List Int) (a : Int), l.foldl min a ≤ a ∧ ∀ x ∈ l, l.foldl min a ≤ x
  | [], a => ⟨Int.le_refl _, fun x hx => (nomatch hx)⟩
  | y :: l, a => by
    obtain ⟨h1, h2⟩ := fold_min_le l (min a y)
    refine ⟨by simp only [List.foldl_cons]; omega, fun x hx => ?_⟩
    simp only [List.foldl_cons]
    rcases List.mem_cons.1 hx with rfl | hx
    · omega
    · exact h2 x hx
theorem fold_min_mem : ∀ (l : List Int) (a : Int), l.foldl min a = a ∨ l.foldl min a ∈ l
  | [], a => .inl rfl
  | y :: l, a => by
    simp only [List.foldl_cons]
    rcases fold_min_mem l (min a y) with h | h
    · rcases Int.le_total a y with h' | h'
      · left; rw [h]; omega
      · right; rw [h, show min a y = y by omega]; exact List.mem_cons_self
    · right; exact List.mem_cons_of_mem _ h
theorem minL_le {l : List Int} : ∀ x ∈ l, minL l ≤ x := fun x hx => (fold_min_le l (l.getD 0 0)).2 x hx
theorem minL_mem {l : List Int} (h : 1 ≤ l.length) : minL l ∈ l := by
  rcases fold_min_mem l (l.getD 0 0) with h' | h'
  · unfold minL; rw [h']; exact getD_mem' l 0 (by omega)
  · exact h'
theorem sum_ge (m : Int) : ∀ (l : List Int) (a : Int), (∀ x ∈ l, m ≤ x) → a + m * (l.length : Int) ≤ l.foldl (· + ·) a
  | [], a, _ => by simp
  | y :: l, a, h => by
    have h1 := sum_ge m l (a + y) (fun x hx => h x (List.mem_cons_of_mem _ hx))
    have h2 := h y (List.mem_cons_self)
    simp only [List.foldl_cons, List.length_cons]
    have e : m * ((l.length + 1 : Nat) : Int) = m * (l.length : Int) + m := by
      rw [Int.natCast_add, Int.mul_add]; simp
    rw [e]
    omega
theorem earn_bestP {X : Sw} {p : Pl} (hp : p ∈ plansV X.vz) : earn X.vz p ≤ earn X.vz (bestP X.vz) := (best_max X.vz (plansV X.vz)).2.2 p hp

theorem fair_law {X : Sw} (hok : XOk X) : 0 ≤ fairV X.vz ∧ fairV X.vz * (X.bs.length : Int) ≤ earn X.vz (bestP X.vz) := by
  obtain ⟨h0, h1, h2⟩ := fair_max X.vz (plansV X.vz)
  refine ⟨h0, ?_⟩
  have hbe := (earn_le (vz_ok hok) (bestP X.vz)).1
  rcases h2 with h2 | ⟨p, hp, e⟩
  · show fairF X.vz (plansV X.vz) * (X.bs.length : Int) ≤ _
    rw [h2, Int.zero_mul]; exact hbe
  · have hb := earn_bestP hp
    have hs := sum_ge (minL (earL X.vz p X.vz.nb)) (earL X.vz p X.vz.nb) 0 (fun x hx => minL_le x hx)
    rw [earL_len, ← e] at hs
    have e2 : earn X.vz p = (earL X.vz p X.vz.nb).foldl (· + ·) 0 := rfl
    rw [← e2] at hs
    have e3 : fairV X.vz = fairF X.vz (plansV X.vz) := rfl
    have e4 : X.vz.nb = X.bs.length := rfl
    rw [e4] at hs
    rw [e3]
    omega
/-- A plan that fits earns in some box at most Fair. -/
theorem fair_box {X : Sw} (hok : XOk X) {P : List (List Int)} (hpl : plB X P = true) (hf : fitA X.vz (planM P) = true) (h1 : 1 ≤ X.bs.length) : ∃ j, j < X.bs.length ∧ (earL X.vz (planM P) X.bs.length).getD j 0 ≤ fairV X.vz := by
  have h := (fair_max X.vz (plansV X.vz)).2.1 (planM P) (fit_in hok hpl hf)
  have hm := minL_mem (l := earL X.vz (planM P) X.vz.nb) (by rw [earL_len]; exact h1)
  obtain ⟨j, hj, e⟩ := mem_getD 0 hm
  rw [earL_len] at hj
  exact ⟨j, hj, by show (earL X.vz (planM P) X.vz.nb).getD j 0 ≤ _; rw [e]; exact h⟩
end Go.Proofs.Ytipdohpbilabiaa
/-! Which plans fit; what all best plans have; the fewest changes. -/
namespace Go.Proofs.Ytipdohpbilabiaa
set_option linter.unusedSimpArgs false
set_option linter.unusedVariables false
open Go.RowKit

theorem Pl.ext_get {p q : Pl} (h : ∀ j, j < 3 → p.get j = q.get j) : p = q := by
  obtain ⟨a, b, c⟩ := p
  obtain ⟨a', b', c'⟩ := q
  have h0 : a = a' := h 0 (by omega)
  have h1 : b = b' := h 1 (by omega)
  have h2 : c = c' := h 2 (by omega)
  rw [h0, h1, h2]
theorem fitB_get {V : Vz} {p q : Pl} {k : Nat} (h : p.get k = q.get k) : fitB V p k = fitB V q k := by
  unfold fitB chO; rw [h]
theorem plansF_mem {V : Vz} (hn : V.nb ≤ 3) : ∀ (r : Nat) (p0 : Pl) (box : Nat), box + r = V.nb → ∀ q, q ∈ plansF V r p0 box ↔
    ((∀ j, j < 3 → (j < box ∨ V.nb ≤ j) → q.get j = p0.get j) ∧ (∀ k, box ≤ k → k < V.nb → q.get k < 2 ^ V.st.length ∧ cnt (q.get k) = cnt (V.now.get k) ∧ fitB V q k = true) ∧ hasC V q = true)
  | 0, p0, box, hb, q => by
    unfold plansF
    constructor
    · intro h
      split at h
      · rename_i hc
        rw [List.mem_singleton.1 h]
        exact ⟨fun _ _ _ => rfl, fun k h1 h2 => by omega, hc⟩
      · exact (nomatch h)
    · rintro ⟨h1, _, h3⟩
      have e : q = p0 := Pl.ext_get fun j hj => h1 j hj (by omega)
      rw [← e, if_pos h3]
      exact List.mem_singleton.2 rfl
  | r + 1, p0, box, hb, q => by
    have hbox : box < V.nb := by omega
    have hb3 : box < 3 := by omega
    unfold plansF
    rw [List.mem_flatMap]
    constructor
    · rintro ⟨t, ht, h⟩
      split at h
      · rename_i hc
        rw [Bool.and_eq_true, beq_iff_eq] at hc
        obtain ⟨h1, h2, h3⟩ := (plansF_mem hn r (p0.set box t) (box + 1) (by omega) q).1 h
        have hq : q.get box = t := by rw [h1 box hb3 (.inl (by omega)), Pl.get_set hb3]
        refine ⟨fun j hj hjb => ?_, fun k hk1 hk2 => ?_, h3⟩
        · rw [h1 j hj (by omega), Pl.get_set_ne hb3 hj (by omega)]
        · by_cases e : k = box
          · subst e
            rw [hq]
            exact ⟨List.mem_range.1 ht, hc.1, by rw [← hc.2]; exact fitB_get (by rw [hq, Pl.get_set hb3])⟩
          · exact h2 k (by omega) hk2
      · exact (nomatch h)
    · rintro ⟨h1, h2, h3⟩
      obtain ⟨a1, a2, a3⟩ := h2 box (Nat.le_refl _) hbox
      refine ⟨q.get box, List.mem_range.2 a1, ?_⟩
      have hf : fitB V (p0.set box (q.get box)) box = true := by rw [← a3]; exact fitB_get (Pl.get_set hb3)
      rw [if_pos (by rw [Bool.and_eq_true, beq_iff_eq]; exact ⟨a2, hf⟩)]
      refine (plansF_mem hn r _ (box + 1) (by omega) q).2 ⟨fun j hj hjb => ?_, fun k hk1 hk2 => h2 k (by omega) hk2, h3⟩
      by_cases e : j = box
      · subst e; rw [Pl.get_set hb3]
      · rw [Pl.get_set_ne hb3 hj (by omega)]
        exact h1 j hj (by omega)
/-- The plans that fit. -/
theorem plans_mem {V : Vz} (hn : V.nb ≤ 3) (q : Pl) : q ∈ plansV V ↔ ((∀ j, j < 3 → V.nb ≤ j → q.get j = 0) ∧ (∀ k, k < V.nb → q.get k < 2 ^ V.st.length ∧ cnt (q.get k) = cnt (V.now.get k) ∧ fitB V q k = true) ∧ hasC V q = true) := by
  unfold plansV
  rw [plansF_mem hn V.nb pl0 0 (by omega) q]
  have h0 : ∀ j, j < 3 → pl0.get j = 0 := fun j hj => by
    match j, hj with
    | 0, _ => rfl
    | 1, _ => rfl
    | 2, _ => rfl
  constructor
  · rintro ⟨h1, h2, h3⟩
    exact ⟨fun j hj hjb => by rw [h1 j hj (.inr hjb), h0 j hj], fun k hk => h2 k (by omega) hk, h3⟩
  · rintro ⟨h1, h2, h3⟩
    exact ⟨fun j hj hjb => by rw [h0 j hj]; exact h1 j hj (by omega), fun k _ hk => h2 k hk, h3⟩
theorem plans_fit {V : Vz} (hn : V.nb ≤ 3) {q : Pl} (h : q ∈ plansV V) : fitA V q = true := by
  obtain ⟨_, h2, h3⟩ := (plans_mem hn q).1 h
  unfold fitA
  rw [Bool.and_eq_true, List.all_eq_true]
  exact ⟨fun k hk => (h2 k (List.mem_range.1 hk)).2.2, h3⟩
theorem best_in {X : Sw} (hok : XOk X) : bestP X.vz ∈ plansV X.vz := by
  rcases (best_max X.vz (plansV X.vz)).1 with h | h
  · unfold bestP; rw [h]; exact now_in hok
  · exact h
theorem now_fits {X : Sw} (hok : XOk X) : fitA X.vz (planM X.bs) = true := plans_fit hok.nb3 (now_in hok)
theorem plB_self {X : Sw} (hok : XOk X) : plB X X.bs = true := by
  unfold plB plI
  simp only [decide_true, Bool.true_and, List.all_eq_true, List.mem_range]
  exact fun i hi => (hok.b3 i hi).2

theorem andP_get (c q : Pl) {k : Nat} (hk : k < 3) : (andP c q).get k = c.get k &&& q.get k := by
  match k, hk with
  | 0, _ => rfl
  | 1, _ => rfl
  | 2, _ => rfl
/-- What all best plans have. -/
theorem alw_bits (V : Vz) (m : Int) {k : Nat} (hk : k < 3) (i : Nat) : ∀ (l : List Pl) (c : Pl), ((alwF V m c l).get k).testBit i = true ↔ ((c.get k).testBit i = true ∧ ∀ q ∈ l, m ≤ earn V q → (q.get k).testBit i = true)
  | [], c => ⟨fun h => ⟨h, fun q hq => (nomatch hq)⟩, fun h => h.1⟩
  | x :: l, c => by
    have e : alwF V m c (x :: l) = alwF V m (if earn V x < m then c else andP c x) l := rfl
    rw [e, alw_bits V m hk i l]
    by_cases hx : earn V x < m
    · rw [if_pos hx]
      refine ⟨fun ⟨h1, h2⟩ => ⟨h1, fun q hq hm => ?_⟩, fun ⟨h1, h2⟩ => ⟨h1, fun q hq hm => h2 q (List.mem_cons_of_mem _ hq) hm⟩⟩
      rcases List.mem_cons.1 hq with rfl | hq
      · omega
      · exact h2 q hq hm
    · rw [if_neg hx, andP_get c x hk, Nat.testBit_and, Bool.and_eq_true]
      refine ⟨fun ⟨⟨h1, h3⟩, h2⟩ => ⟨h1, fun q hq hm => ?_⟩, fun ⟨h1, h2⟩ => ⟨⟨h1, h2 x List.mem_cons_self (by omega)⟩, fun q hq hm => h2 q (List.mem_cons_of_mem _ hq) hm⟩⟩
      rcases List.mem_cons.1 hq with rfl | hq
      · exact h3
      · exact h2 q hq hm
theorem alw_ok64 {X : Sw} (hok : XOk X) : (alwP X.vz).ok 64 := by
  have h := vz_ok hok
  exact alwF_ok _ _ _ _ ((plansV_ok (best_in hok)).le h.p64) (fun q hq => (plansV_ok hq).le h.p64)
theorem alw_best {X : Sw} {q : Pl} (hq : q ∈ plansV X.vz) (he : earn X.vz q = earn X.vz (bestP X.vz)) {k : Nat} (hk : k < 3) {i : Nat} (h : ((alwP X.vz).get k).testBit i = true) : (q.get k).testBit i = true :=
  ((alw_bits X.vz _ hk i (plansV X.vz) (bestP X.vz)).1 h).2 q hq (by omega)
/-- A plan that fits and earns as much as it can has all that is always there. -/
theorem each_law {X : Sw} {P : List (List Int)} (hpl : plB X P = true) (hok : XOk X) (hq : planM P ∈ plansV X.vz) (he : earn X.vz (planM P) = earn X.vz (bestP X.vz)) : ∀ x ∈ keepL (alwP X.vz), 0 ≤ x.1 ∧ x.1 < (P.length : Int) ∧ inL x.2 (P.getD x.1.toNat []) = true := fun x hx => by
  unfold keepL keepK at hx
  rw [List.mem_flatMap] at hx
  obtain ⟨k, hk, hx⟩ := hx
  have hk3 : k < 3 := List.mem_range.1 hk
  unfold keepR at hx
  rw [List.mem_map] at hx
  obtain ⟨i, hi, rfl⟩ := hx
  obtain ⟨hb, hi6⟩ := mem_bits hi
  have ht := alw_best hq he hk3 hb
  obtain ⟨hl, hp⟩ := plB_parts hpl
  have hn3 := hok.nb3
  have hkl : k < P.length := by
    rcases Nat.lt_or_ge k P.length with h | h
    · exact h
    · have h0 := ((plans_mem hok.nb3 _).1 hq).1 k hk3 (by show X.bs.length ≤ k; omega)
      rw [h0] at ht; simp at ht
  rw [show (planM P).get k = mask (P.getD k []) from now_get P hkl (by omega)] at ht
  rw [mask_test (fun y hy => ((plB_title hok hpl).2 _ (getD_mem' P [] hkl) y hy).1) i] at ht
  exact ⟨by simp, by show (k : Int) < _; omega, ht⟩
theorem few_le {V : Vz} {goal : Int} {p : Pl} (hp : p ∈ plansV V) (hg : goal ≤ earn V p) : (fewV V goal).2 = true ∧ (fewV V goal).1 ≤ (chT V p : Int) := by
  obtain ⟨h1, h2⟩ := few_ok V goal (plansV V)
  have h : (fewV V goal).2 = true := h1.2 ⟨p, hp, hg⟩
  exact ⟨h, (h2 h).2 p hp hg⟩
/-- All changes of the first boxes. -/
def acF (X : Sw) (P : List (List Int)) (k : Nat) : Int := ((List.range k).map fun j => (coF (P.getD j []) (X.bs.getD j []) : Int)).foldl (· + ·) 0
theorem acF_succ (X : Sw) (P : List (List Int)) (k : Nat) : acF X P (k + 1) = acF X P k + (coF (P.getD k []) (X.bs.getD k []) : Int) := by simp [acF, List.range_succ]
theorem ac_ch {X : Sw} (hok : XOk X) {P : List (List Int)} (hpl : plB X P = true) : ∀ k, k ≤ X.bs.length → acF X P k = (chA X.vz (planM P) k : Int)
  | 0, _ => rfl
  | k + 1, hk => by rw [acF_succ, ac_ch hok hpl k (by omega), chA_succ, chO_co hok hpl (by omega)]; omega
theorem earn_ea {X : Sw} (hok : XOk X) {P : List (List Int)} (hpl : plB X P = true) : eaF X P P.length = earn X.vz (planM P) := by
  obtain ⟨hl, hp⟩ := plB_parts hpl
  have hn3 := hok.nb3
  have h6 : ntI X < 6 := by unfold ntI; have := hok.t6; omega
  unfold eaF earn earL
  rw [show X.vz.nb = P.length from hl.symm]
  congr 1
  refine List.map_congr_left fun k hk => ?_
  have hk' : k < P.length := List.mem_range.1 hk
  obtain ⟨hlen, hr⟩ := hp k hk'
  have h3 := (hok.b3 k (by omega)).1
  unfold eiF earB
  rw [show (planM P).get k = mask (P.getD k []) from now_get P hk' (by omega), bits_mask hr h6 (by omega)]
end Go.Proofs.Ytipdohpbilabiaa
/-! Always; all changes of a plan. -/
namespace Go.Proofs.Ytipdohpbilabiaa
set_option linter.unusedSimpArgs false
set_option linter.unusedVariables false
open Go Go.RowKit

theorem always_X (ab ast ae ak : Option Addr) (cb cs ce ck : Nat) (X : Sw) (hok : XOk X) (p q : Pl) (hp : p = planM X.bs) (hq : q = stayF X.ks) (s : Pl) (hs : s = alwP X.vz) (w : World) (hX : Swp w ab ast ae ak X) : Calls Try.prog 63 #[.agg #[.slice ab X.bs.length cb, .slice ast X.st.length cs, .slice ae X.er.length ce, .slice ak X.ks.length ck, .int .i64 X.ch, .int .u8 (p.a : Int), .int .u8 (p.b : Int), .int .u8 (p.c : Int), .int .u8 (q.a : Int), .int .u8 (q.b : Int), .int .u8 (q.c : Int)]] w fun e w' => e = .returned (.agg #[.int .u8 (s.a : Int), .int .u8 (s.b : Int), .int .u8 (s.c : Int)]) ∧ Below w.heap.size w w' := by
  subst hp hq
  exact always_any ab ast ae ak cb cs ce X.ks.length ck X.vz (vz_ok hok) w ⟨hX.2.1, hX.2.2.1⟩ s hs

set_option maxRecDepth 100000 in
set_option maxHeartbeats 2000000 in
theorem Always_ok (ab ast ae ak : Option Addr) (cb cs ce ck : Nat) (X : Sw) (w : World) (hX : Swp w ab ast ae ak X) (hv : vB X = true) (L : List (Int × Int)) (hL : L = keepL (alwP X.vz)) : Calls Try.prog 29 #[.agg #[.slice ab X.bs.length cb, .slice ast X.st.length cs, .slice ae X.er.length ce, .slice ak X.ks.length ck, .int .i64 X.ch]] w fun e w' => Below w.heap.size w w' ∧ ∃ a c, e = .returned (.tuple #[.slice a L.length c, .int .i64 0]) ∧ Prs w' a L := by
  obtain ⟨p, hp⟩ : ∃ p, p = planM X.bs := ⟨_, rfl⟩
  obtain ⟨q, hq⟩ : ∃ q, q = stayF X.ks := ⟨_, rfl⟩
  obtain ⟨s, hs⟩ : ∃ s, s = alwP X.vz := ⟨_, rfl⟩
  have hok := vB_iff hv
  obtain ⟨W, hW, hbw, _, x0⟩ := boxes1 w #[.slice ab X.bs.length cb, .slice ast X.st.length cs, .slice ae X.er.length ce, .slice ak X.ks.length ck, .int .i64 X.ch] 26
  have hvo := visitOf_ok ab ast ae ak cb cs ce ck X W (hX.below hbw (Nat.le_refl _)) hv p q hp hq
  have hal := fun W' (h : Below w.heap.size w W') => always_X ab ast ae ak cb cs ce ck X hok p q hp hq s hs W' (hX.below h (Nat.le_refl _))
  have hke := fun W' => keeps_any s (by rw [hs]; exact alw_ok64 hok) W'
  rw [← hs] at hL
  rw [← hL] at hke
  clear hX hp hq hs hL hok hv
  have c0 := x0.cell 0 rfl; have c1 := x0.cell 1 rfl; have c2 := x0.cell 2 rfl; have c3 := x0.cell 3 rfl; have c4 := x0.cell 4 rfl
  go_enter Try.func29, Try.ntmps29
  go_wp2_with fail
  refine hvo.mono ?_
  rintro e W1 ⟨rfl, hb1⟩
  replace hbw := hbw.trans (hb1.mono hbw.size)
  obtain ⟨W2, hW2, hb2, _, x4⟩ := boxes1 W1 #[.slice ab X.bs.length cb, .slice ast X.st.length cs, .slice ae X.er.length ce, .slice ak X.ks.length ck, .int .i64 X.ch, .int .u8 (p.a : Int), .int .u8 (p.b : Int), .int .u8 (p.c : Int), .int .u8 (q.a : Int), .int .u8 (q.b : Int), .int .u8 (q.c : Int)] 72
  replace hbw := hbw.trans (hb2.mono hbw.size)
  replace x0 := (x0.below hb1).below hb2
  clear hW c0 c1 c2 c3 c4 hvo
  have d0 := x4.cell 0 rfl; have d1 := x4.cell 1 rfl; have d2 := x4.cell 2 rfl; have d3 := x4.cell 3 rfl; have d4 := x4.cell 4 rfl; have d5 := x4.cell 5 rfl; have d6 := x4.cell 6 rfl; have d7 := x4.cell 7 rfl; have d8 := x4.cell 8 rfl; have d9 := x4.cell 9 rfl; have d10 := x4.cell 10 rfl
  have c0 := x0.cell 0 rfl; have c1 := x0.cell 1 rfl; have c2 := x0.cell 2 rfl; have c3 := x0.cell 3 rfl; have c4 := x0.cell 4 rfl
  go_wp2_with fail
  refine (hal _ hbw).mono ?_
  rintro e W3 ⟨rfl, hb3⟩
  replace hbw := hbw.trans (hb3.mono hbw.size)
  clear c0 c1 c2 c3 c4 d0 d1 d2 d3 d4 d5 d6 d7 d8 d9 d10 hW2 hal x0 x4
  go_wp2_with fail
  refine (hke _).mono ?_
  rintro e W4 ⟨hb4, a, c, rfl, hP⟩
  replace hbw := hbw.trans (hb4.mono hbw.size)
  clear hke hb4
  go_wp2
  go_ret2
  exact ⟨hbw, a, c, rfl, hP⟩

set_option maxRecDepth 100000 in
set_option maxHeartbeats 2000000 in
theorem Always_bad (ab ast ae ak : Option Addr) (cb cs ce ck : Nat) (X : Sw) (w : World) (hX : Swp w ab ast ae ak X) (hv : vB X = false) : Calls Try.prog 29 #[.agg #[.slice ab X.bs.length cb, .slice ast X.st.length cs, .slice ae X.er.length ce, .slice ak X.ks.length ck, .int .i64 X.ch]] w fun e w' => e = .returned (.tuple #[.slice none 0 0, .int .i64 70]) ∧ Below w.heap.size w w' := by
  obtain ⟨W, hW, hbw, _, x0⟩ := boxes1 w #[.slice ab X.bs.length cb, .slice ast X.st.length cs, .slice ae X.er.length ce, .slice ak X.ks.length ck, .int .i64 X.ch] 26
  have hvo := visitOf_bad ab ast ae ak cb cs ce ck X true W (hX.below hbw (Nat.le_refl _)) 70 (by rw [hv]; rfl) (fun h => by rw [hv] at h; cases h)
  clear hX
  have c0 := x0.cell 0 rfl; have c1 := x0.cell 1 rfl; have c2 := x0.cell 2 rfl; have c3 := x0.cell 3 rfl; have c4 := x0.cell 4 rfl
  go_enter Try.func29, Try.ntmps29
  go_wp2_with fail
  refine hvo.mono ?_
  rintro e W1 ⟨rfl, hb1⟩
  replace hbw := hbw.trans (hb1.mono hbw.size)
  have hb2 := hbw.trans ((below_one (w := W1) (.cells #[.slice none 0 0, .slice none 0 0, .slice none 0 0, .slice none 0 0, .int .i64 0, .int .u8 0, .int .u8 0, .int .u8 0, .int .u8 0, .int .u8 0, .int .u8 0] 72)).mono hbw.size)
  clear hW c0 c1 c2 c3 c4 hb1 hvo x0
  go_wp2
  go_ret2
  exact ⟨rfl, hb2⟩


set_option maxRecDepth 100000 in
set_option maxHeartbeats 3000000 in
theorem AllChanges_any (ab ast ae ak : Option Addr) (cb cs ce ck : Nat) (X : Sw) (ap : Option Addr) (cp : Nat) (P : List (List Int)) (hPl : P.length = X.bs.length) (hPn : P.length ≤ 3) (hP : ∀ l ∈ P, l.length ≤ 6) (w : World) (hX : Swp w ab ast ae ak X) (hL : Lss w ap P) : Calls Try.prog 45 #[.agg #[.slice ab X.bs.length cb, .slice ast X.st.length cs, .slice ae X.er.length ce, .slice ak X.ks.length ck, .int .i64 X.ch], .slice ap P.length cp] w fun e w' => e = .returned (.int .i64 (acF X P P.length)) ∧ Below w.heap.size w w' := by
  obtain ⟨W, hW, hb, _, x0⟩ := boxes1 w #[.slice ab X.bs.length cb, .slice ast X.st.length cs, .slice ae X.er.length ce, .slice ak X.ks.length ck, .int .i64 X.ch] 26
  have hbd : ∀ j, j ≤ P.length → 0 ≤ acF X P j ∧ acF X P j ≤ 6 * (j : Int) := fun j => by
    induction j with
    | zero => intro _; exact ⟨Int.le_refl _, Int.le_refl _⟩
    | succ j ih =>
      intro hj
      have h := ih (by omega)
      have h2 := coF_le (P.getD j []) (X.bs.getD j [])
      have h3 := hP _ (getD_mem' P [] (show j < P.length by omega))
      rw [acF_succ]
      omega
  have HBD := hid hbd
  have hgX := fun V (h : Below w.heap.size w V) => hX.below h (Nat.le_refl _)
  clear hX hbd hP
  obtain ⟨m, hm⟩ : ∃ m, m = X.bs.length := ⟨_, rfl⟩
  rw [← hm] at hPl x0 hW ⊢
  have HM := hid hm
  obtain ⟨n, hn⟩ : ∃ n, n = P.length := ⟨_, rfl⟩
  rw [← hn] at hPl hPn ⊢
  have HN := hid hn
  clear hn hm
  subst hPl
  have c0 := x0.cell 0 rfl; have c1 := x0.cell 1 rfl; have c2 := x0.cell 2 rfl; have c3 := x0.cell 3 rfl; have c4 := x0.cell 4 rfl
  go_enter Try.func45, Try.ntmps45
  go_wp2
  clear hW c0 c1 c2 c3 c4
  go_loopw [5, 6] (fun v5 v6 wr => ∃ j : Nat, j ≤ n ∧ v6 = .int .i64 (j : Int) ∧ v5 = .int .i64 (acF X P j) ∧ Below W.heap.size W wr) (fun _ v6 _ => n - (intOf v6).toNat)
  case atStart => exact ⟨0, Nat.zero_le _, rfl, rfl, Below.refl _ _⟩
  case round =>
    obtain ⟨j, hj, rfl, rfl, hb1⟩ := hrel
    by_cases hlt : j < n
    · have hbr := hb.trans (hb1.mono hb.size)
      have hL1 := hL.below hbr (Nat.le_refl _)
      replace x0 := x0.below hb1
      obtain ⟨b, off, a', c', hap, hbl, hc, hI⟩ := hL1.at (k := j) (by rw [← HN.out]; exact hlt)
      subst hap
      obtain ⟨b2, off2, a2, c2, hap2, hbl2, hc2, hI2⟩ := (hgX _ hbr).1.at (k := j) (by rw [← HM.out]; exact hlt)
      have hjI : (j : Int) < n := by omega
      have hj0 : (0 : Int) ≤ (j : Int) := by omega
      have hco := fun (t : Ext wr) => ChangesOf_any a2 a' c2 c' (X.bs.getD j []) (P.getD j []) t.w (hI2.below t.below (Nat.le_refl _)) (hI.below t.below (Nat.le_refl _))
      have hsn := acF_succ X P j
      have hs1 := HBD.out (j + 1) (by rw [← HN.out]; omega)
      have hs0 := HBD.out j (by rw [← HN.out]; omega)
      rw [hsn] at hs1
      have HS := hid hsn
      generalize acF X P j = sj at *
      generalize coF (P.getD j []) (X.bs.getD j []) = y at *
      generalize (P.getD j []).length = m1 at *
      generalize (X.bs.getD j []).length = m2 at *
      have hwr : IntKind.i64.wrap (sj + (y : Int)) = sj + (y : Int) := IntWalk.i64_in _ (by omega)
      subst hap2
      have d0 := x0.ext 0 rfl; have d1 := x0.ext 1 rfl; have d2 := x0.ext 2 rfl; have d3 := x0.ext 3 rfl; have d4 := x0.ext 4 rfl; 
      have f1 := fun t => Ext.cell hc t
      have f2 := fun t => Ext.cell hc2 t
      clear hsn hs1 hs0 hL1 hI hL hbl hbl2 hI2
      go_upto_region 5 with fail
      refine wp_region_ext_lit (by kernel_rfl) (by kernel_rfl) ?_
      repeat (quiet_step (first | (go_at_call 68; exact quiet_ext ((hco _).mono (fun e w' h => ⟨h.1, Below.of_eq h.2⟩)))))
      refine wpQuiet_nil ?_
      intro _ hw'
      obtain ⟨t, rfl⟩ := hw'
      have hb14 := hb1.trans (t.below.mono hb1.size)
      go_wp2
      go_roundw
      case rel => exact ⟨j + 1, by omega, by simp, by rw [HS.out], hb14⟩
      case measure => simp [intOf]; omega
    · obtain rfl : j = n := by omega
      go_wp2
      go_ret
      exact ⟨rfl, hb.trans (hb1.mono hb.size)⟩
end Go.Proofs.Ytipdohpbilabiaa
/-! The lists of a plan; Plan. -/
namespace Go.Proofs.Ytipdohpbilabiaa
set_option linter.unusedSimpArgs false
set_option linter.unusedVariables false
open Go Go.RowKit

def bitL (t : Nat) : List Int := (bitsOf t).map fun (i : Nat) => (i : Int)
/-- The lists of a plan. -/
def listsL (p : Pl) (n : Nat) : List (List Int) := (List.range n).map fun k => bitL (p.get k)
/-- What the rows hold while the lists are made. -/
def lrow (p : Pl) (k : Nat) (pre : List Nat) (j : Nat) : List Int := if j < k then bitL (p.get j) else if j = k then pre.map (fun (i : Nat) => (i : Int)) else []
def nilS : Value := .slice none 0 0
theorem made_nils (n : Nat) : (madeCells (Value.slice none 0 0).cells (n * 1)).toList.toArray = (List.replicate n (Value.slice none 0 0)).toArray := by
  congr 1
  have e : ∀ x : Nat, (Value.slice none 0 0).cells[x % (Value.slice none 0 0).cells.size]! = .slice none 0 0 := fun x => by
    have : x % (Value.slice none 0 0).cells.size = 0 := Nat.mod_one x
    rw [this]; rfl
  simp only [madeCells, Nat.mul_one]
  refine List.ext_getElem (by simp) fun i h1 h2 => ?_
  simp [e]
theorem make_rows (n : Nat) (hn : n ≤ 1000) (w : World) : (Instr.makeSlice 22 (.int .i64 (n : Int)) (.int .i64 (n : Int))).run Try.prog w = .ok (.slice (some ⟨w.heap.size, 0, none⟩) n n) (w.alloc (.cells (List.replicate n (Value.slice none 0 0)).toArray 23)) := by
  obtain ⟨i0, hi, hz0, hz1, hz2⟩ := info_parts info23
  have h := run_makeSlice (P := Try.prog) (w := w) 22 23 i0 (.slice none 0 0) under22 hi hz0 .i64 .i64 (n : Int) (n : Int) (by omega) (Int.le_refl _) (by rw [hz1]; simp; omega) (by rw [hz2]; omega) (by omega)
  rw [hz1, Int.toNat_natCast] at h
  rw [h, ← made_nils n]

/-- The world while lists runs. -/
structure LiW (w : World) (s0 : Nat) (p : Pl) (n : Nat) (vs : List Value) (R : Nat → List Int) (wr : World) : Prop where
  x0 : Bx wr s0 #[.int .u8 (p.a : Int), .int .u8 (p.b : Int), .int .u8 (p.c : Int)] 70
  x1 : Bx wr (s0 + 1) vs.toArray 23
  x2 : Bx wr (s0 + 2) #[.slice (some ⟨s0 + 1, 0, none⟩) n n] 22
  hb : Below s0 w wr
  len : vs.length = n
  row : ∀ j, j < n → wr.ownsRow (s0 + 3) 3 1 (vs.getD j nilS) (R j).length ((R j).map (Value.int .i64))
  dis : ∀ i j g, i < n → j < n → i ≠ j → (vs.getD i nilS).ownBlock = some g → (vs.getD j nilS).ownBlock ≠ some g
theorem LiW.sta {w : World} {s0 : Nat} {p : Pl} {n : Nat} {vs : List Value} {R : Nat → List Int} {W W' : World} (h : LiW w s0 p n vs R W) {B : Nat} (hB : s0 + 3 ≤ B) (hW : B ≤ W.heap.size) (hne : ∀ j g, j < n → (vs.getD j nilS).ownBlock = some g → g ≠ B ∧ g ≠ B + 1) (hs : Sta B W W') : LiW w s0 p n vs R W' := by
  have hb := hs.below hW
  have f : ∀ {b : Nat} {vs : Array Value} {T : TypeId}, Bx W b vs T → b < s0 + 3 → Bx W' b vs T := fun hx hlt => by
    unfold Bx at *; rw [hb.block _ (by omega)]; exact hx
  refine ⟨f h.x0 (by omega), f h.x1 (by omega), f h.x2 (by omega), h.hb.trans (hb.mono (by omega)), h.len, fun j hj => own_heap (h.row j hj) (fun g hg => ?_), h.dis⟩
  obtain ⟨n1, n2⟩ := hne j g hj hg
  exact hs.block g ((h.row j hj).lt g hg).2 n1 n2
theorem getD_set_eq (vs : List Value) {k : Nat} (hk : k < vs.length) (v d : Value) : (vs.set k v).getD k d = v := by simp [List.getD, hk]
theorem getD_set_ne (vs : List Value) {j k : Nat} (h : j ≠ k) (v d : Value) : (vs.set k v).getD j d = vs.getD j d := by simp [List.getD, List.getElem?_set_ne (Ne.symm h)]
/-- One more number in a row. -/
theorem LiW.put {w W W3 : World} {s0 B b6 n m k : Nat} {p : Pl} {vs : List Value} {R R' : Nat → List Int} {x : Int} {a0 a3 : Option Addr} {c0 c3 : Nat} {ds : List Deferred} (h : LiW w s0 p n vs R W) (hk : k < n) (hv : vs.getD k nilS = .slice a0 m c0) (hm : m = (R k).length) (i3 : Bx W b6 #[.int .i64 (k : Int)] 3) (hb6 : s0 + 3 ≤ b6 ∧ ∀ j g, j < n → (vs.getD j nilS).ownBlock = some g → g ≠ b6) (i4 : Marks (s0 + 3) W ds)
    (i5 : ∀ j g, j < n → (vs.getD j nilS).ownBlock = some g → g ≠ B ∧ g ≠ B + 1) (hB : b6 < B) (hW : B + 2 ≤ W.heap.size)
    (hown3 : W3.ownsRow (s0 + 3) 3 1 (.slice a3 (m + 1) c3) (m + 1) ((R k).map (Value.int .i64) ++ [.int .i64 x])) (hg3 : (W.alloc (.cells #[.int .i64 x] 3)).grownBy W3 (Value.slice a0 m c0).ownBlock)
    (hat : (Value.slice a3 (m + 1) c3).ownBlock = (Value.slice a0 m c0).ownBlock ∨ (Value.slice a3 (m + 1) c3).ownBlock = some (W.alloc (.cells #[.int .i64 x] 3)).heap.size)
    (hR1 : R' k = R k ++ [x]) (hR2 : ∀ j, j ≠ k → R' j = R j) :
    Kep s0 B W (W3.setCell ⟨s0 + 1, k, none⟩ (.slice a3 (m + 1) c3)) ∧ B ≤ W3.heap.size ∧
      LiW w s0 p n (vs.set k (.slice a3 (m + 1) c3)) R' (W3.setCell ⟨s0 + 1, k, none⟩ (.slice a3 (m + 1) c3)) ∧ Bx (W3.setCell ⟨s0 + 1, k, none⟩ (.slice a3 (m + 1) c3)) b6 #[.int .i64 (k : Int)] 3 ∧
      Marks (s0 + 3) (W3.setCell ⟨s0 + 1, k, none⟩ (.slice a3 (m + 1) c3)) ds ∧ (∀ j g, j < n → ((vs.set k (.slice a3 (m + 1) c3)).getD j nilS).ownBlock = some g → g ≠ B ∧ g ≠ B + 1) ∧ ∀ j g, j < n → ((vs.set k (.slice a3 (m + 1) c3)).getD j nilS).ownBlock = some g → g ≠ b6 := by
  have hown := h.row k hk
  rw [hv, ← hm] at hown
  have hbW := below_one (w := W) (.cells #[.int .i64 x] 3)
  have hge := own_ge2 hown
  have hge3 := own_ge2 hown3
  have hgc := own_cells hown
  have hlt := fun g (h : (Value.slice a0 m c0).ownBlock = some g) => (hown.lt g h).2
  have hsz3 := hg3.size
  have hsA : (W.alloc (.cells #[.int .i64 x] 3)).heap.size = W.heap.size + 1 := by simp
  rw [hsA] at hsz3 hat
  have i5k : ∀ q, (Value.slice a0 m c0).ownBlock = some q → q ≠ B ∧ q ≠ B + 1 := fun q hq => i5 k q hk (by rw [hv]; exact hq)
  have b6k : ∀ q, (Value.slice a0 m c0).ownBlock = some q → q ≠ b6 := fun q hq => hb6.2 k q hk (by rw [hv]; exact hq)
  have hdk : ∀ j g, j < n → j ≠ k → (vs.getD j nilS).ownBlock = some g → (Value.slice a0 m c0).ownBlock ≠ some g := fun j g hj hne hg => by
    have := h.dis j k g hj hk hne hg
    rw [hv] at this
    exact this
  have hlj : ∀ j g, j < n → (vs.getD j nilS).ownBlock = some g → g < W.heap.size := fun j g hj hg => ((h.row j hj).lt g hg).2
  have hgj : ∀ j g, j < n → (vs.getD j nilS).ownBlock = some g → s0 + 3 ≤ g := fun j g hj hg => own_ge2 (h.row j hj) g hg
  have hlen := h.len
  refine ⟨((Kep.of_below hbW (by omega)).trans (Kep.grown hg3 (by omega) (fun q hq => by have := hge q hq; have := i5k q hq; omega))).trans (Kep.set (by show s0 ≤ s0 + 1; omega) (by show s0 + 1 ≠ B; omega) (by show s0 + 1 ≠ B + 1; omega) _), by omega, ⟨?_, ?_, ?_, ?_, ?_, ?_, ?_⟩, ?_, ?_, ?_, ?_⟩
  · exact ((h.x0.below hbW).gb hg3 (fun q hq => by have := hge q hq; omega)).other (by show s0 ≠ s0 + 1; omega) _
  · have := ((h.x1.below hbW).gb hg3 (fun q hq => by have := hge q hq; omega)).set k (.slice a3 (m + 1) c3)
    simpa using this
  · exact ((h.x2.below hbW).gb hg3 (fun q hq => by have := hge q hq; omega)).other (by show s0 + 2 ≠ s0 + 1; omega) _
  · exact (((h.hb.trans (hbW.mono (by omega))).trans ((Kep.grown (n0 := s0) (B := B) hg3 (by omega) (fun q hq => by have := hge q hq; have := i5k q hq; omega)).below)).setCell (by show s0 ≤ s0 + 1; omega) _)
  · rw [List.length_set]; exact hlen
  · intro j hj
    by_cases e : j = k
    · subst e
      rw [getD_set_eq vs (by omega), hR1]
      have e2 : (R j ++ [x]).length = m + 1 := by rw [List.length_append, ← hm]; rfl
      rw [e2, List.map_append]
      exact own_keep hown3 (gset _ _ _) (fun q hq e => by have := hge3 q hq; have e' : s0 + 1 = q := (by simpa using e); omega)
    · rw [getD_set_ne vs e, hR2 j e]
      have h1 := own_below2 (h.row j hj) hbW
      have h2 := own_keep h1 hg3 (fun q hq => hdk j q hj e hq)
      exact own_keep h2 (gset _ _ _) (fun q hq e => by have := hgj j q hj hq; have e' : s0 + 1 = q := (by simpa using e); omega)
  · intro i j g hi hj hne hgi hgj2
    by_cases ei : i = k
    · subst ei
      rw [getD_set_eq vs (by omega)] at hgi
      rw [getD_set_ne vs (fun e => hne e.symm)] at hgj2
      rcases hat with e | e
      · exact hdk j g hj (fun e => hne e.symm) hgj2 (by rw [← e]; exact hgi)
      · rw [e] at hgi; cases hgi; have := hlj j _ hj hgj2; omega
    · rw [getD_set_ne vs ei] at hgi
      by_cases ej : j = k
      · subst ej
        rw [getD_set_eq vs (by omega)] at hgj2
        rcases hat with e | e
        · exact hdk i g hi ei hgi (by rw [← e]; exact hgj2)
        · rw [e] at hgj2; cases hgj2; have := hlj i _ hi hgi; omega
      · rw [getD_set_ne vs ej] at hgj2
        exact h.dis i j g hi hj hne hgi hgj2
  · exact ((i3.below hbW).gb hg3 (fun q hq => Ne.symm (b6k q hq))).other (by show b6 ≠ s0 + 1; omega) _
  · refine Marks.set ((i4.below hbW).grown hg3 (fun q hq => ?_)) (by show s0 + 1 < s0 + 3; omega) _
    obtain ⟨cur, hc⟩ := hgc q hq
    exact ⟨cur, 3, (hbW.block q (hlt q hq)).trans hc⟩
  · intro j g hj hg
    by_cases e : j = k
    · subst e
      rw [getD_set_eq vs (by omega)] at hg
      rcases hat with e | e
      · exact i5k g (e ▸ hg)
      · rw [e] at hg; cases hg; omega
    · rw [getD_set_ne vs e] at hg
      exact i5 j g hj hg
  · intro j g hj hg
    by_cases e : j = k
    · subst e
      rw [getD_set_eq vs (by omega)] at hg
      rcases hat with e | e
      · exact b6k g (e ▸ hg)
      · rw [e] at hg; cases hg; omega
    · rw [getD_set_ne vs e] at hg
      exact hb6.2 j g hj hg
end Go.Proofs.Ytipdohpbilabiaa
/-! The lists of a plan: the walk. -/
namespace Go.Proofs.Ytipdohpbilabiaa
set_option linter.unusedSimpArgs false
set_option linter.unusedVariables false
open Go Go.RowKit

theorem lrow_step (p : Pl) (k : Nat) : lrow p k (bitsOf (p.get k)) = lrow p (k + 1) [] := by
  funext j
  unfold lrow
  by_cases h1 : j < k
  · rw [if_pos h1, if_pos (by omega)]
  · rw [if_neg h1]
    by_cases h2 : j = k
    · rw [if_pos h2, if_pos (by omega), h2]; rfl
    · rw [if_neg h2, if_neg (by omega)]
      split <;> rfl
theorem lrow_app (p : Pl) (k : Nat) (pre : List Nat) (i : Nat) : lrow p k (pre ++ [i]) k = lrow p k pre k ++ [(i : Int)] := by
  unfold lrow
  simp
theorem lrow_ne (p : Pl) (k : Nat) (pre pre' : List Nat) {j : Nat} (h : j ≠ k) : lrow p k pre j = lrow p k pre' j := by
  unfold lrow
  rw [if_neg h, if_neg h]
theorem bitL_len (t : Nat) : (bitL t).length ≤ 6 := by unfold bitL; rw [List.length_map]; exact cnt_le t
theorem bitL_rng (t : Nat) : ∀ x ∈ bitL t, 0 ≤ x ∧ x < 6 := fun x hx => by
  unfold bitL at hx
  rw [List.mem_map] at hx
  obtain ⟨i, hi, rfl⟩ := hx
  have := (mem_bits hi).2
  omega

set_option maxRecDepth 100000 in
set_option maxHeartbeats 4000000 in
theorem lists_any (p : Pl) (hp : p.ok 64) (n : Nat) (hn : n ≤ 3) (w : World) : Calls Try.prog 67 #[.agg #[.int .u8 (p.a : Int), .int .u8 (p.b : Int), .int .u8 (p.c : Int)], .int .i64 (n : Int)] w fun e w' => Below w.heap.size w w' ∧ ∃ a, e = .returned (.slice a n n) ∧ Lss w' a (listsL p n) := by
  obtain ⟨j0, hj, jz0, jz1, jz2⟩ := info_parts info3i
  refine calls_of_wp_marks Try.func67 rfl ?_
  simp only [Try.ntmps67, List.size_toArray, List.length_cons, List.length_nil, Nat.reduceAdd, Nat.reduceSub, Array.replicate_succ, Array.replicate_zero, List.push_toArray, List.append_toArray, List.nil_append, List.cons_append]
  have hnI : (n : Int) ≤ 3 := by omega
  have hmk : ∀ w : World, (Instr.makeSlice 22 (.int .i64 (n : Int)) (.int .i64 (n : Int))).run Try.prog w = .ok (.slice (some ⟨w.heap.size, 0, none⟩) n n) (w.alloc (.cells (Array.replicate n (Value.slice none 0 0)) 23)) := fun w => by rw [make_rows n (by omega), List.toArray_replicate]
  obtain ⟨W1, hW1, hb1, hs1, x0, x1, x2⟩ := boxes3 w #[.int .u8 (p.a : Int), .int .u8 (p.b : Int), .int .u8 (p.c : Int)] 70 (Array.replicate n (Value.slice none 0 0)) 23 #[.slice (some ⟨w.heap.size + 1, 0, none⟩) n n] 22
  have hE0 : LiW w w.heap.size p n (List.replicate n nilS) (lrow p 0 []) W1 := by
    have hg : ∀ j, j < n → (List.replicate n nilS).getD j nilS = nilS := fun j hj => by simp [List.getD, hj]
    refine ⟨x0, by have := x1; rw [← List.toArray_replicate] at this; exact this, x2, hb1, by simp, fun j hj => ?_, fun i j g hi hj hne h => ?_⟩
    · rw [hg j hj, show lrow p 0 [] j = [] by unfold lrow; rw [if_neg (Nat.not_lt_zero _)]; split <;> rfl]
      exact World.ownsRow_nil _ _ _ _
    · rw [hg i hi] at h; cases h
  have e2 := x2.cell 0 rfl
  go_wp2
  obtain ⟨s0, hs0⟩ : ∃ s0, s0 = w.heap.size := ⟨_, rfl⟩
  rw [← hs0] at hE0 hs1 ⊢
  have HS0 := hid hs0
  clear hs0 hW1 x0 x1 x2 hb1 hmk e2
  refine wp_loop (fun a' wr => ∃ (k : Nat) (vs : List Value) (u6 u13 u14 u15 u16 u17 u18 u30 : Value) (ds : List Deferred), a' = { tmps := #[.agg #[.int .u8 (p.a : Int), .int .u8 (p.b : Int), .int .u8 (p.c : Int)], .int .i64 (n : Int), .pointer (some ⟨s0, 0, none⟩), undef, .slice none 0 0, .pointer (some ⟨s0 + 1 + 1, 0, none⟩), u6, undef, .int .i64 (n : Int), .slice (some ⟨s0 + 1, 0, none⟩) n n, .slice (some ⟨s0 + 1, 0, none⟩) n n, .int .i64 (n : Int), .int .i64 (k : Int), u13, u14, u15, u16, u17, u18, undef, undef, undef, undef, undef, undef, undef, undef, undef, undef, undef, u30, undef], defers := ds } ∧
      k ≤ n ∧ Marks (s0 + 3) wr ds ∧ (∀ d ∈ ds, ∀ D, d.target = .collected D → D < wr.heap.size) ∧ s0 + 3 ≤ wr.heap.size ∧ LiW w s0 p n vs (lrow p k []) wr) (fun a' _ => 4 - (intOf (a'.tmps.getD 12 undef)).toNat) ?_ ?_
  · exact ⟨0, List.replicate n nilS, undef, undef, undef, undef, undef, undef, undef, undef, [], rfl, Nat.zero_le _, trivial, (fun d hd => by cases hd), by omega, hE0⟩
  rintro a' wr ⟨k, vs, u6, u13, u14, u15, u16, u17, u18, u30, ds, rfl, hk, hM, hMD, hsz, hE⟩
  clear hE0 hs1
  by_cases hlt : k < n
  · have hkI : (k : Int) < n := by omega
    have hk0 : (0 : Int) ≤ (k : Int) := by omega
    have hk3 : (k : Int) < 3 := by omega
    go_upto_region 5 with fail
    have hlt0 : ∀ j g, j < n → (vs.getD j nilS).ownBlock = some g → g < wr.heap.size := fun j g hj hg => ((hE.row j hj).lt g hg).2
    have hE2 := hE.sta (B := wr.heap.size) (by omega) (Nat.le_refl _) (fun j g hj hg => by have := hlt0 j g hj hg; omega) (Sta.of_below (below_one (.cells #[.int .i64 (k : Int)] 3)))
    have hM2 : Marks (s0 + 3) (wr.alloc (.cells #[.int .i64 (k : Int)] 3)) ds := hM.keep fun D hD => (below_one (w := wr) (.cells #[.int .i64 (k : Int)] 3)).block D (by obtain ⟨d, h1, h2⟩ := hD; exact hMD d h1 D h2)
    have y6 := Bx.new wr #[.int .i64 (k : Int)] 3
    obtain ⟨b6, hb6⟩ : ∃ b6, b6 = wr.heap.size := ⟨_, rfl⟩
    obtain ⟨W2, hW2⟩ : ∃ W2, W2 = wr.alloc (.cells #[.int .i64 (k : Int)] 3) := ⟨_, rfl⟩
    have hz2 : W2.heap.size = b6 + 1 := by rw [hW2, hb6]; simp
    rw [← hW2] at hE2 hM2 y6 ⊢
    rw [← hb6] at y6 hsz hMD hlt0 ⊢
    clear hb6 hW2 hE hM
    have c6 := y6.cell 0 rfl
    have y0 := hE2.x0.cell k (pl_at p (by omega))
    obtain ⟨g, hg⟩ : ∃ g, g = p.get k := ⟨_, rfl⟩
    have hg64 : g < 64 := by rw [hg]; exact hp.get k
    have HG := hid hg
    rw [← hg] at y0
    clear hg
    go_wp2_with fail
    refine wp_rangeFuncC (α := Nat) s0 (by omega) (gf := 83) (bd := #[.int .u8 (g : Int)]) (lb := #[]) (encs := fun x : Nat => #[.int .i64 (x : Int)]) (xs := bitsOf g) (StI := fun W W' => Below W.heap.size W W') (St := fun W W' => W2.heap.size ≤ W.heap.size → Sta W2.heap.size W W')
      rfl (enters_of Try.func83 (by kernel_rfl) rfl) (fun _ => rfl) (each_itr g hg64 _ _ _) (fun W W' h _ => h) (fun W W' h1 h2 => h2.mono h1) (fun W W' h _ => Sta.of_below h)
      (fun pre W => W2.heap.size ≤ W.heap.size ∧ ∃ us : List Value, LiW w s0 p n us (lrow p k pre) W ∧ Bx W b6 #[.int .i64 (k : Int)] 3 ∧ Marks (s0 + 3) W ds ∧ (∀ j g, j < n → (us.getD j nilS).ownBlock = some g → g ≠ W2.heap.size ∧ g ≠ W2.heap.size + 1) ∧ ∀ j g, j < n → (us.getD j nilS).ownBlock = some g → g ≠ b6)
      ?hI ?h0 (fun i a' W => a' = { tmps := #[.agg #[.int .u8 (p.a : Int), .int .u8 (p.b : Int), .int .u8 (p.c : Int)], .int .i64 (n : Int), .pointer (some ⟨s0, 0, none⟩), undef, .slice none 0 0, .pointer (some ⟨s0 + 1 + 1, 0, none⟩), .pointer (some ⟨b6, 0, none⟩), .int .i64 (i : Int), .int .i64 (n : Int), .slice (some ⟨s0 + 1, 0, none⟩) n n, .slice (some ⟨s0 + 1, 0, none⟩) n n, .int .i64 (n : Int), .int .i64 (k : Int), .bool true, .int .i64 (k : Int), .int .i64 (k : Int), .pointer (some ⟨s0, k, none⟩), .int .u8 (g : Int), .func (.func 83) #[.int .u8 (g : Int)] #[], .int .i64 (i : Int), undef, undef, undef, undef, undef, undef, undef, undef, undef, undef, u30, undef], defers := [] }) (fun _ _ _ _ h _ => h) ?assign ?body ?done
    case hI =>
      rintro pre W W' ⟨i1, us, i2, i3, i4, i5, i6⟩ hs
      have hs := hs i1
      refine ⟨Nat.le_trans i1 hs.size, us, i2.sta (by omega) i1 i5 hs, ?_, i4.keep fun D hD => hs.block D ?_ ?_ ?_, i5, i6⟩
      · unfold Bx at *
        rw [hs.block b6 (by omega) (by omega) (by omega)]; exact i3
      all_goals
        obtain ⟨d, h1, h2⟩ := hD
        have := hMD d h1 D h2
        omega
    case h0 => exact ⟨Nat.le_refl _, vs, hE2, y6, hM2, fun j g hj hg => by have := hlt0 j g hj hg; omega, fun j g hj hg => by have := hlt0 j g hj hg; omega⟩
    case assign =>
      intro l pre i W K hx hi hsz3 hK
      refine wpIn_region_plain rfl ?_
      go_wp2_with fail
      exact hK _ _ (Kep.refl _ _ _) hi rfl
    case body =>
      rintro l pre i a' W hx ⟨i1, us, i2, i3, i4, i5, i6⟩ rfl hsz3
      have hpl : pre.length ≤ 6 := by
        obtain ⟨r, hr⟩ := hx
        have := cnt_le g
        unfold cnt at this
        rw [hr] at this
        simp at this; omega
      have hYb := (Below.refl W.heap.size W).drew
      have hltu : ∀ j g, j < n → (us.getD j nilS).ownBlock = some g → g < W.heap.size := fun j g hj hg => ((i2.row j hj).lt g hg).2
      have l2 := i2.sta (B := W.heap.size) (by omega) (Nat.le_refl _) (fun j g hj hg => by have := hltu j g hj hg; omega) (Sta.of_below hYb)
      have l3 := i3.below hYb
      have l4 := i4.below hYb
      have hK0 : Kep s0 W2.heap.size W W.drew := Kep.of_below hYb (by omega)
      have hsY : W2.heap.size + 2 ≤ W.drew.heap.size := Nat.le_trans hsz3 hYb.size
      have hrk := l2.row k hlt
      have hrl : (lrow p k pre k).length = pre.length := by unfold lrow; simp
      obtain ⟨m, hm⟩ : ∃ m, m = (lrow p k pre k).length := ⟨_, rfl⟩
      have hm6 : m ≤ 6 := by omega
      obtain ⟨a0, c0, hv0⟩ := own_slice2 hrk
      rw [← hm] at hrk hv0
      rw [hv0] at hrk
      have hus : us.toArray[k]? = some (.slice a0 m c0) := by
        have hl := l2.len
        rw [← hv0]
        simp [List.getD, show k < us.length by omega]
      have HR1 := hid (lrow_app p k pre i)
      have hz2W : s0 + 3 ≤ W2.heap.size := by omega
      have hb6W : b6 < W2.heap.size := by omega
      have HZ := hid hz2
      have HMm := hid hm
      have S0 := And.intro l2.x2 (And.intro l3 l2.x1)
      clear i2 i3 i4 hYb hltu hx hz2 hm hrl
      refine wpIn_block (wpIn_region_head 10 (fun w' => Bx w' (s0 + 2) #[.slice (some ⟨s0 + 1, 0, none⟩) n n] 22 ∧ Bx w' b6 #[.int .i64 (k : Int)] 3 ∧ Bx w' (s0 + 1) us.toArray 23) (by kernel_rfl) (by kernel_rfl) ?_)
      obtain ⟨Y0, hY0⟩ : ∃ Y, Y = W.drew := ⟨_, rfl⟩
      rw [← hY0] at S0 l2 l3 l4 hrk hK0 hsY ⊢
      clear hY0
      refine HeadAt.take (i := 0) (.slice (some ⟨s0 + 1, 0, none⟩) n n) rfl (by kernel_rfl) (.inl ⟨rfl, fun w' z => ?_⟩) S0 ?_
      · (have z0 := z.1.cell 0 rfl; simp [go_sem, z0])
      refine HeadAt.take (i := 1) (.int .i64 (k : Int)) rfl (by kernel_rfl) (.inl ⟨rfl, fun w' z => ?_⟩) S0 ?_
      · (have z0 := z.2.1.cell 0 rfl; simp [go_sem, z0])
      refine HeadAt.take (i := 2) (.slice (some ⟨s0 + 1, 0, none⟩) n n) rfl (by kernel_rfl) (.inl ⟨rfl, fun w' z => ?_⟩) S0 ?_
      · (have z0 := z.1.cell 0 rfl; simp [go_sem, z0])
      refine HeadAt.take (i := 3) (.int .i64 (k : Int)) rfl (by kernel_rfl) (.inl ⟨rfl, fun w' z => ?_⟩) S0 ?_
      · (have z0 := z.2.1.cell 0 rfl; simp [go_sem, z0])
      (try simp only [Act.put, List.getElem_toArray, List.getElem_cons_succ, List.getElem_cons_zero, List.setIfInBounds_toArray, List.set_cons_succ, List.set_cons_zero])
      refine HeadAt.take (i := 4) (.pointer (some ⟨s0 + 1, k, none⟩)) rfl (by kernel_rfl) (.inl ⟨rfl, fun w' z => ?_⟩) S0 ?_
      · (simp [go_sem, hkI, hk0])
      (try simp only [Act.put, List.getElem_toArray, List.getElem_cons_succ, List.getElem_cons_zero, List.setIfInBounds_toArray, List.set_cons_succ, List.set_cons_zero])
      refine HeadAt.take (i := 5) (.slice a0 m c0) rfl (by kernel_rfl) (.inl ⟨rfl, fun w' z => ?_⟩) S0 ?_
      · (have z0 := z.2.2.cell k hus; simp [go_sem, z0])
      refine HeadAt.take (i := 6) (.int .i64 (i : Int)) rfl (by kernel_rfl) (.inl ⟨rfl, fun _ _ => by simp [go_sem]⟩) S0 ?_
      (try simp only [Act.put, List.getElem_toArray, List.getElem_cons_succ, List.getElem_cons_zero, List.setIfInBounds_toArray, List.set_cons_succ, List.set_cons_zero])
      have hbA := below_one (w := Y0) (.cells #[.int .i64 (i : Int)] 3)
      have S1 := And.intro (S0.1.below hbA) (And.intro (S0.2.1.below hbA) (S0.2.2.below hbA))
      have hcl := Cls.of_bx (Bx.new Y0 #[.int .i64 (i : Int)] 3)
      have hownA := own_below2 hrk hbA
      refine HeadAt.one (i := 7) rfl (by kernel_rfl) ?_
      generalize hK : Upto _ _ = K0
      (try simp only [Act.put, List.getElem_toArray, List.getElem_cons_succ, List.getElem_cons_zero, List.setIfInBounds_toArray, List.set_cons_succ, List.set_cons_zero])
      go_wp2_with fail
      subst hK
      refine ⟨S1, ?_⟩
      (try simp only [Act.put, List.getElem_toArray, List.getElem_cons_succ, List.getElem_cons_zero, List.setIfInBounds_toArray, List.set_cons_succ, List.set_cons_zero])
      have hge := own_ge2 hrk
      have hgb6 : ∀ q, (Value.slice a0 m c0).ownBlock = some q → q ≠ b6 := fun q hq => i6 k q hlt (by rw [hv0]; exact hq)
      have hbase : s0 + 3 ≤ Y0.heap.size := by omega
      refine HeadAt.one (i := 8) rfl (by kernel_rfl) ?_
      generalize hK : Upto _ _ = K0
      (try simp only [Act.put, List.getElem_toArray, List.getElem_cons_succ, List.getElem_cons_zero, List.setIfInBounds_toArray, List.set_cons_succ, List.set_cons_zero])
      go_wp2_with (at_builtin; go_loud (refine wpList_appAt rfl (.tmp 25) (.tmp 27) 23 rfl (s0 + 3) 3 j0 (.int .i64 0) 1 8 under23 hj jz0 jz1 jz2 rfl (by decide) (.slice a0 m c0) m _ rfl hownA (some ⟨Y0.heap.size, 0, none⟩) 1 1 [.int .i64 (i : Int)] rfl rfl hcl (ints_oneCell .i64 [(i : Int)]) (by unfold maxLen; omega) (by omega) (by simp; omega) ?_); intro v3 W3 hown3 hg3 hat)
      obtain ⟨a3, c3, rfl⟩ := own_slice2 hown3
      have S2 := And.intro (S1.1.gb hg3 (fun q hq => by have := hge q hq; omega)) (And.intro (S1.2.1.gb hg3 (fun q hq => Ne.symm (hgb6 q hq))) (S1.2.2.gb hg3 (fun q hq => by have := hge q hq; omega)))
      have hput := LiW.put (R' := lrow p k (pre ++ [i])) l2 hlt hv0 HMm.out l3 ⟨by omega, i6⟩ l4 i5 hb6W hsY hown3 hg3 hat HR1.out (fun j hj => lrow_ne p k _ _ hj)
      have HP := hid hput
      clear hput hown3 hg3 hat hcl hownA l2 l4 hrk
      subst hK
      refine ⟨S2, ?_⟩
      (try simp only [Act.put, List.getElem_toArray, List.getElem_cons_succ, List.getElem_cons_zero, List.setIfInBounds_toArray, List.set_cons_succ, List.set_cons_zero])
      refine HeadAt.take (i := 9) (.pointer (some ⟨s0 + 1, k, none⟩)) rfl (by kernel_rfl) (.inl ⟨rfl, fun w' z => ?_⟩) S2 ?_
      · (simp [go_sem, hkI, hk0])
      refine HeadAt.done (by kernel_rfl) ?_
      (try simp only [Act.put, List.drop_succ_cons, List.drop_zero, List.getElem_toArray, List.getElem_cons_succ, List.getElem_cons_zero])
      have z1 := S2.2.2.cell k hus
      have z2 := S2.2.2.free k
      clear S0 S1
      go_wp2_with fail
      obtain ⟨q1, q2, q3, q4, q5, q6, q7⟩ := HP.out
      exact ⟨hK0.trans q1, by simpa [World.setCell] using q2, _, q3, q4, q5, q6, q7⟩
    case done =>
      rintro W ⟨i1, us, i2, i3, i4, i5, i6⟩ hD hsz3
      go_wp2_with fail
      refine ⟨⟨k + 1, us, _, _, _, _, _, _, _, _, _, rfl, by omega, ⟨W2.heap.size, rfl, by omega, hD, i4, fun d' hd' e => by have := hMD d' hd' _ e; omega⟩, ?_, by omega, ?_⟩, by simp [intOf]; omega⟩
      · intro d hd D e
        rcases List.mem_cons.1 hd with rfl | hd
        · cases e; omega
        · have := hMD d hd D e; omega
      · rw [← lrow_step, ← HG.out]; exact i2
  · obtain rfl : k = n := by omega
    have c3 := hE.x2.cell 0 rfl
    go_wp2_with fail
    refine leaves_marks ds wr hM fun w' hc => ?_
    refine ⟨_, results_tmp rfl _ _ _, ?_, some ⟨s0 + 1, 0, none⟩, rfl, ?_⟩
    · rw [← HS0.out]; exact hE.hb.trans (hc.1.mono (by omega))
    · refine Lss.of_bx (hc.bx hE.x1) (by unfold listsL; simp; omega) (fun i ks hi => ?_)
      have hik : i < k := by
        rcases Nat.lt_or_ge i k with h | h
        · exact h
        · unfold listsL at hi
          rw [List.getElem?_eq_none (by simp; exact h)] at hi; cases hi
      have hks : ks = lrow p k [] i := by
        unfold listsL at hi
        rw [List.getElem?_map, List.getElem?_range hik] at hi
        unfold lrow
        rw [if_pos hik]
        simpa using hi.symm
      have hr := own_heap (w' := w') (hE.row i hik) (fun g hg => by
        obtain ⟨cur, h⟩ := own_cells (hE.row i hik) g hg
        rw [h]; exact hc.2 _ _ _ _ h)
      rw [← hks] at hr
      have hkb : ks = bitL (p.get i) := by rw [hks]; unfold lrow; rw [if_pos hik]
      obtain ⟨a2, c2, e2, hI⟩ := Ints.of_own hr (by have := bitL_len (p.get i); rw [hkb]; omega) (fun x hx => by have := bitL_rng (p.get i) x (by rw [← hkb]; exact hx); omega)
      refine ⟨a2, c2, ?_, hI⟩
      have hl := hE.len
      rw [← e2]
      simp [List.getD, show i < vs.length by omega]
end Go.Proofs.Ytipdohpbilabiaa
/-! Plan; what the lists of the best plan are. -/
namespace Go.Proofs.Ytipdohpbilabiaa
set_option linter.unusedSimpArgs false
set_option linter.unusedVariables false
open Go Go.RowKit

theorem mask_bitL : ∀ t : Nat, t < 64 → mask (bitL t) = t := by decide +kernel
theorem ris_bitL : ∀ n : Nat, n < 7 → ∀ t : Nat, t < 64 → t < 2 ^ n → risB ((n : Int) - 1) (bitL t) = true := by decide +kernel
theorem listsL_len (p : Pl) (n : Nat) : (listsL p n).length = n := by simp [listsL]
theorem listsL_get (p : Pl) {n k : Nat} (hk : k < n) : (listsL p n).getD k [] = bitL (p.get k) := by
  unfold listsL
  rw [List.getD_eq_getElem?_getD, List.getElem?_map, List.getElem?_range hk]
  rfl
theorem cnt_mask {hi : Int} {l : List Int} (h : risB hi l = true) (h6 : hi < 6) (h3 : l.length ≤ 3) : cnt (mask l) = l.length := by
  unfold cnt; rw [bits_mask h h6 h3, List.length_map]
/-- The lists of a plan that fits are a plan, and that plan. -/
theorem lists_plan {X : Sw} (hok : XOk X) {p : Pl} (hp : p ∈ plansV X.vz) : plB X (listsL p X.bs.length) = true ∧ planM (listsL p X.bs.length) = p := by
  have hn3 := hok.nb3
  have h6 : ntI X < 6 := by unfold ntI; have := hok.t6; omega
  obtain ⟨h1, h2, _⟩ := (plans_mem hn3 p).1 hp
  have hp6 : 2 ^ X.st.length ≤ 64 := Nat.pow_le_pow_right (n := 2) (by omega) hok.t6
  have hgk : ∀ k, k < X.bs.length → p.get k < 2 ^ X.st.length := fun k hk => (h2 k hk).1
  constructor
  · unfold plB
    rw [listsL_len, decide_eq_true rfl, Bool.true_and, List.all_eq_true]
    intro k hk
    have hk' : k < X.bs.length := List.mem_range.1 hk
    unfold plI
    rw [listsL_get p hk', Bool.and_eq_true, decide_eq_true_eq]
    obtain ⟨c1, c2, _⟩ := h2 k hk'
    refine ⟨?_, ris_bitL X.st.length (by have := hok.t6; omega) _ (by have := hgk k hk'; omega) (hgk k hk')⟩
    obtain ⟨h3, hr⟩ := hok.b3 k hk'
    rw [show X.vz.now.get k = mask (X.bs.getD k []) from now_get X.bs hk' hn3, cnt_mask hr h6 h3] at c2
    unfold bitL
    rw [List.length_map]
    exact c2
  · refine Pl.ext_get fun j hj => ?_
    rcases Nat.lt_or_ge j X.bs.length with h | h
    · rw [show (planM (listsL p X.bs.length)).get j = mask ((listsL p X.bs.length).getD j []) from now_get _ (by rw [listsL_len]; exact h) (by rw [listsL_len]; exact hn3), listsL_get p h]
      exact mask_bitL _ (by have := hgk j h; omega)
    · rw [h1 j hj h]
      unfold planM planL
      rw [listsL_len]
      match j, hj with
      | 0, _ => show (if 0 < _ then _ else _) = _; rw [if_neg (by omega)]
      | 1, _ => show (if 1 < _ then _ else _) = _; rw [if_neg (by omega)]
      | 2, _ => show (if 2 < _ then _ else _) = _; rw [if_neg (by omega)]
def lexR (x y : Int × Int) : Prop := x.1 < y.1 ∨ (x.1 = y.1 ∧ x.2 < y.2)
theorem keepK_sorted (p : Pl) : ∀ n, (keepK p n).Pairwise lexR
  | 0 => by unfold keepK; simp
  | n + 1 => by
    rw [keepK_succ, List.pairwise_append]
    refine ⟨keepK_sorted p n, ?_, fun a ha b hb => ?_⟩
    · unfold keepR
      rw [List.pairwise_map]
      have h : (bitsOf (p.get n)).Pairwise (· < ·) := by
        unfold bitsOf bitsTo
        exact List.pairwise_lt_range.filter _
      refine h.imp fun {a b} hab => .inr ⟨rfl, ?_⟩
      show (a : Int) < (b : Int)
      omega
    · unfold keepK at ha
      rw [List.mem_flatMap] at ha
      obtain ⟨j, hj, ha⟩ := ha
      unfold keepR at ha hb
      rw [List.mem_map] at ha hb
      obtain ⟨i, _, rfl⟩ := ha
      obtain ⟨i', _, rfl⟩ := hb
      have : j < n := List.mem_range.1 hj
      left
      show (j : Int) < (n : Int)
      omega
theorem keepL_lex (p : Pl) {k : Nat} (hk : k + 1 < (keepL p).length) : lexR ((keepL p).getD k (0, 0)) ((keepL p).getD (k + 1) (0, 0)) := by
  have h := List.pairwise_iff_getElem.1 (keepK_sorted p 3) k (k + 1) (show k < (keepL p).length by omega) hk (by omega)
  rw [List.getD_eq_getElem?_getD, List.getD_eq_getElem?_getD, List.getElem?_eq_getElem (show k < (keepL p).length by omega), List.getElem?_eq_getElem hk]
  exact h
theorem bestPlan_X (ab ast ae ak : Option Addr) (cb cs ce ck : Nat) (X : Sw) (hok : XOk X) (p q : Pl) (hp : p = planM X.bs) (hq : q = stayF X.ks) (s : Pl) (hs : s = bestP X.vz) (w : World) (hX : Swp w ab ast ae ak X) : Calls Try.prog 66 #[.agg #[.slice ab X.bs.length cb, .slice ast X.st.length cs, .slice ae X.er.length ce, .slice ak X.ks.length ck, .int .i64 X.ch, .int .u8 (p.a : Int), .int .u8 (p.b : Int), .int .u8 (p.c : Int), .int .u8 (q.a : Int), .int .u8 (q.b : Int), .int .u8 (q.c : Int)]] w fun e w' => e = .returned (.agg #[.int .u8 (s.a : Int), .int .u8 (s.b : Int), .int .u8 (s.c : Int)]) ∧ Below w.heap.size w w' := by
  subst hp hq
  exact bestPlan_any ab ast ae ak cb cs ce X.ks.length ck X.vz (vz_ok hok) w ⟨hX.2.1, hX.2.2.1⟩ s hs

set_option maxRecDepth 100000 in
set_option maxHeartbeats 2000000 in
theorem Plan_ok (ab ast ae ak : Option Addr) (cb cs ce ck : Nat) (X : Sw) (w : World) (hX : Swp w ab ast ae ak X) (hv : vB X = true) : Calls Try.prog 33 #[.agg #[.slice ab X.bs.length cb, .slice ast X.st.length cs, .slice ae X.er.length ce, .slice ak X.ks.length ck, .int .i64 X.ch]] w fun e w' => Below w.heap.size w w' ∧ ∃ a, e = .returned (.tuple #[.slice a X.bs.length X.bs.length, .int .i64 0]) ∧ Lss w' a (listsL (bestP X.vz) X.bs.length) := by
  obtain ⟨p, hp⟩ : ∃ p, p = planM X.bs := ⟨_, rfl⟩
  obtain ⟨q, hq⟩ : ∃ q, q = stayF X.ks := ⟨_, rfl⟩
  obtain ⟨s, hs⟩ : ∃ s, s = bestP X.vz := ⟨_, rfl⟩
  have hok := vB_iff hv
  have hn3 := hok.nb3
  obtain ⟨W, hW, hbw, _, x0⟩ := boxes1 w #[.slice ab X.bs.length cb, .slice ast X.st.length cs, .slice ae X.er.length ce, .slice ak X.ks.length ck, .int .i64 X.ch] 26
  have hvo := visitOf_ok ab ast ae ak cb cs ce ck X W (hX.below hbw (Nat.le_refl _)) hv p q hp hq
  have hbp := fun W' (h : Below w.heap.size w W') => bestPlan_X ab ast ae ak cb cs ce ck X hok p q hp hq s hs W' (hX.below h (Nat.le_refl _))
  have hli := fun W' => lists_any s (by rw [hs]; exact (plansV_ok (best_in hok)).le (vz_ok hok).p64) X.bs.length hn3 W'
  rw [← hs]
  clear hX hp hq hs hok hv
  have c0 := x0.cell 0 rfl; have c1 := x0.cell 1 rfl; have c2 := x0.cell 2 rfl; have c3 := x0.cell 3 rfl; have c4 := x0.cell 4 rfl
  go_enter Try.func33, Try.ntmps33
  go_wp2_with fail
  refine hvo.mono ?_
  rintro e W1 ⟨rfl, hb1⟩
  replace hbw := hbw.trans (hb1.mono hbw.size)
  obtain ⟨W2, hW2, hb2, _, x4⟩ := boxes1 W1 #[.slice ab X.bs.length cb, .slice ast X.st.length cs, .slice ae X.er.length ce, .slice ak X.ks.length ck, .int .i64 X.ch, .int .u8 (p.a : Int), .int .u8 (p.b : Int), .int .u8 (p.c : Int), .int .u8 (q.a : Int), .int .u8 (q.b : Int), .int .u8 (q.c : Int)] 72
  replace hbw := hbw.trans (hb2.mono hbw.size)
  replace x0 := (x0.below hb1).below hb2
  have hws : W1.heap.size = W1.heap.size := rfl
  clear hW c0 c1 c2 c3 c4 hvo
  have d0 := x4.cell 0 rfl; have d1 := x4.cell 1 rfl; have d2 := x4.cell 2 rfl; have d3 := x4.cell 3 rfl; have d4 := x4.cell 4 rfl; have d5 := x4.cell 5 rfl; have d6 := x4.cell 6 rfl; have d7 := x4.cell 7 rfl; have d8 := x4.cell 8 rfl; have d9 := x4.cell 9 rfl; have d10 := x4.cell 10 rfl
  have c0 := x0.cell 0 rfl; have c1 := x0.cell 1 rfl; have c2 := x0.cell 2 rfl; have c3 := x0.cell 3 rfl; have c4 := x0.cell 4 rfl
  go_upto_region 4 with fail
  obtain ⟨g, hg⟩ : ∃ g, g = W1.heap.size := ⟨_, rfl⟩
  rw [← hg] at x4 ⊢
  clear hg c0 c1 c2 c3 c4 d0 d1 d2 d3 d4 d5 d6 d7 d8 d9 d10 hW2 hws
  have hbd := (Below.refl W2.heap.size W2).drew
  have S0 := And.intro (x4.below hbd) (x0.below hbd)
  replace hbw := hbw.trans (hbd.mono hbw.size)
  clear hbd x4 x0
  refine wp_region_head 6 (fun w' => Bx w' g #[.slice ab X.bs.length cb, .slice ast X.st.length cs, .slice ae X.er.length ce, .slice ak X.ks.length ck, .int .i64 X.ch, .int .u8 (p.a : Int), .int .u8 (p.b : Int), .int .u8 (p.c : Int), .int .u8 (q.a : Int), .int .u8 (q.b : Int), .int .u8 (q.c : Int)] 72 ∧ Bx w' w.heap.size #[.slice ab X.bs.length cb, .slice ast X.st.length cs, .slice ae X.er.length ce, .slice ak X.ks.length ck, .int .i64 X.ch] 26) (by kernel_rfl) rfl ?_
  generalize W2.drew = Y0 at *
  refine HeadAt.take (i := 0) (.agg #[.slice ab X.bs.length cb, .slice ast X.st.length cs, .slice ae X.er.length ce, .slice ak X.ks.length ck, .int .i64 X.ch, .int .u8 (p.a : Int), .int .u8 (p.b : Int), .int .u8 (p.c : Int), .int .u8 (q.a : Int), .int .u8 (q.b : Int), .int .u8 (q.c : Int)]) rfl (by kernel_rfl) (.inl ⟨rfl, fun w' z => ?_⟩) S0 ?_
  · (have z0 := z.1.cell 0 rfl; have z1 := z.1.cell 1 rfl; have z2 := z.1.cell 2 rfl; have z3 := z.1.cell 3 rfl; have z4 := z.1.cell 4 rfl; have z5 := z.1.cell 5 rfl; have z6 := z.1.cell 6 rfl; have z7 := z.1.cell 7 rfl; have z8 := z.1.cell 8 rfl; have z9 := z.1.cell 9 rfl; have z10 := z.1.cell 10 rfl; simp [go_sem, z0, z1, z2, z3, z4, z5, z6, z7, z8, z9, z10])
  refine HeadAt.take (i := 2) (.pointer (some ⟨w.heap.size, 0, none⟩)) rfl (by kernel_rfl) (.inl ⟨rfl, fun _ _ => by simp [go_sem]⟩) S0 ?_
  (try simp only [Act.put, List.getElem_toArray, List.getElem_cons_succ, List.getElem_cons_zero, List.setIfInBounds_toArray, List.set_cons_succ, List.set_cons_zero])
  refine HeadAt.take (i := 3) (.slice ab X.bs.length cb) rfl (by kernel_rfl) (.inl ⟨rfl, fun w' z => ?_⟩) S0 ?_
  · (have z0 := z.2.cell 0 rfl; simp [go_sem, z0])
  (try simp only [Act.put, List.getElem_toArray, List.getElem_cons_succ, List.getElem_cons_zero, List.setIfInBounds_toArray, List.set_cons_succ, List.set_cons_zero])
  refine HeadAt.take (i := 4) (.int .i64 (X.bs.length : Int)) rfl (by kernel_rfl) (.inl ⟨rfl, fun w' z => ?_⟩) S0 ?_
  · (simp [go_sem])
  (try simp only [Act.put, List.getElem_toArray, List.getElem_cons_succ, List.getElem_cons_zero, List.setIfInBounds_toArray, List.set_cons_succ, List.set_cons_zero])
  refine HeadAt.one (i := 1) rfl (by kernel_rfl) ?_
  generalize hK : Upto _ _ = K0
  (try simp only [Act.put, List.getElem_toArray, List.getElem_cons_succ, List.getElem_cons_zero, List.setIfInBounds_toArray, List.set_cons_succ, List.set_cons_zero])
  go_wp2_with fail
  refine (hbp _ hbw).mono ?_
  rintro e V1 ⟨rfl, hb1⟩
  replace S0 := And.intro (S0.1.below hb1) (S0.2.below hb1)
  replace hbw := hbw.trans (hb1.mono hbw.size)
  clear hb1 hbp
  go_wp2_with fail
  subst hK
  refine ⟨S0, ?_⟩
  (try simp only [Act.put, List.getElem_toArray, List.getElem_cons_succ, List.getElem_cons_zero, List.setIfInBounds_toArray, List.set_cons_succ, List.set_cons_zero])
  refine HeadAt.one (i := 5) rfl (by kernel_rfl) ?_
  generalize hK : Upto _ _ = K0
  (try simp only [Act.put, List.getElem_toArray, List.getElem_cons_succ, List.getElem_cons_zero, List.setIfInBounds_toArray, List.set_cons_succ, List.set_cons_zero])
  go_wp2_with fail
  refine (hli _).mono ?_
  rintro e V2 ⟨hb1, a, rfl, hL⟩
  replace S0 := And.intro (S0.1.below hb1) (S0.2.below hb1)
  replace hbw := hbw.trans (hb1.mono hbw.size)
  clear hb1 hli
  go_wp2_with fail
  subst hK
  refine ⟨S0, ?_⟩
  (try simp only [Act.put, List.getElem_toArray, List.getElem_cons_succ, List.getElem_cons_zero, List.setIfInBounds_toArray, List.set_cons_succ, List.set_cons_zero])
  refine HeadAt.done (by kernel_rfl) ?_
  (try simp only [Act.put, List.drop_succ_cons, List.drop_zero, List.getElem_toArray, List.getElem_cons_succ, List.getElem_cons_zero])
  clear S0
  go_wp2_with fail
  refine NoPanic.normal ?_
  go_wp2
  go_ret2
  exact ⟨hbw, a, rfl, hL⟩
end Go.Proofs.Ytipdohpbilabiaa
/-! Earnings that are all greater by as much in a box: what comes of it. -/
namespace Go.Proofs.Ytipdohpbilabiaa
set_option linter.unusedSimpArgs false
set_option linter.unusedVariables false
open Go.RowKit

def Vz.erd (V : Vz) (e : List (List Int)) : Vz := { V with er := e }
theorem erd_plansF (V : Vz) (e : List (List Int)) : ∀ (r : Nat) (p : Pl) (box : Nat), plansF (V.erd e) r p box = plansF V r p box
  | 0, p, box => rfl
  | r + 1, p, box => by
    unfold plansF
    show (List.range (2 ^ V.st.length)).flatMap _ = _
    congr 1
    funext t
    show (if cnt t == cnt (V.now.get box) && fitB V (p.set box t) box then plansF (V.erd e) r (p.set box t) (box + 1) else []) = _
    rw [erd_plansF V e r]
theorem erd_plans (V : Vz) (e : List (List Int)) : plansV (V.erd e) = plansV V := erd_plansF V e _ _ _
/-- Earnings are greater by K in box b. -/
structure Shf (V : Vz) (e : List (List Int)) (b : Nat) (K : Int) : Prop where
  nb : V.nb ≤ 3
  lt : b < V.nb
  now : V.now.ok (2 ^ V.st.length)
  er : ∀ k i, i < V.st.length → earI (V.erd e) k i = earI V k i + (if k = b then K else 0)
theorem bits_below {t n : Nat} (ht : t < 2 ^ n) : ∀ i ∈ bitsOf t, i < n := fun i hi => by
  have hb := (mem_bits hi).1
  rcases Nat.lt_or_ge i n with h | h
  · exact h
  · have : t < 2 ^ i := Nat.lt_of_lt_of_le ht (Nat.pow_le_pow_right (by omega) h)
    rw [Nat.testBit_lt_two_pow this] at hb; cases hb
theorem shf_sumE {V : Vz} {e : List (List Int)} {b : Nat} {K : Int} (h : Shf V e b K) (k : Nat) : ∀ (l : List Nat) (a c : Int), (∀ i ∈ l, i < V.st.length) → l.foldl (fun s i => s + earI (V.erd e) k i) (a + c) = l.foldl (fun s i => s + earI V k i) a + (c + (if k = b then K * (l.length : Int) else 0))
  | [], a, c, _ => by simp
  | i :: l, a, c, hl => by
    simp only [List.foldl_cons, List.length_cons]
    rw [h.er k i (hl i List.mem_cons_self), show a + c + (earI V k i + if k = b then K else 0) = (a + earI V k i) + (c + if k = b then K else 0) by omega, shf_sumE h k l _ _ (fun j hj => hl j (List.mem_cons_of_mem _ hj))]
    have e1 : K * ((l.length + 1 : Nat) : Int) = K * (l.length : Int) + K := by rw [Int.natCast_add, Int.mul_add]; simp
    rw [e1]
    split <;> omega
theorem shf_earB {V : Vz} {e : List (List Int)} {b : Nat} {K : Int} (h : Shf V e b K) {q : Pl} (hq : q.ok (2 ^ V.st.length)) (k : Nat) : earB (V.erd e) q k = earB V q k + (if k = b then K * (cnt (q.get b) : Int) else 0) := by
  have h1 := shf_sumE h k (bitsOf (q.get k)) 0 0 (bits_below (hq.get k))
  unfold earB sumE
  rw [show (0 : Int) = 0 + 0 from rfl, h1]
  simp only [Int.zero_add]
  congr 1
  split
  · rename_i e; rw [e]; rfl
  · rfl
theorem shf_sum {V : Vz} {e : List (List Int)} {b : Nat} {K : Int} (h : Shf V e b K) {q : Pl} (hq : q.ok (2 ^ V.st.length)) : ∀ n, (earL (V.erd e) q n).foldl (· + ·) 0 = (earL V q n).foldl (· + ·) 0 + (if b < n then K * (cnt (q.get b) : Int) else 0)
  | 0 => by simp [earL]
  | n + 1 => by
    rw [earL_succ, earL_succ, addup_snoc, addup_snoc, shf_sum h hq n, shf_earB h hq n]
    by_cases h1 : b < n
    · rw [if_pos h1, if_neg (by omega), if_pos (by omega)]; omega
    · rw [if_neg h1]
      by_cases h2 : n = b
      · rw [if_pos h2, if_pos (by omega)]; omega
      · rw [if_neg h2, if_neg (by omega)]; omega
theorem shf_earn {V : Vz} {e : List (List Int)} {b : Nat} {K : Int} (h : Shf V e b K) {q : Pl} (hq : q.ok (2 ^ V.st.length)) (hc : cnt (q.get b) = cnt (V.now.get b)) : earn (V.erd e) q = earn V q + K * (cnt (V.now.get b) : Int) := by
  unfold earn
  rw [show (V.erd e).nb = V.nb from rfl, shf_sum h hq V.nb, if_pos h.lt, hc]
theorem shf_in {V : Vz} {e : List (List Int)} {b : Nat} {K : Int} (h : Shf V e b K) {q : Pl} (hq : q = V.now ∨ q ∈ plansV V) : earn (V.erd e) q = earn V q + K * (cnt (V.now.get b) : Int) := by
  rcases hq with rfl | hq
  · exact shf_earn h h.now rfl
  · exact shf_earn h (plansV_ok hq) (((plans_mem h.nb q).1 hq).2.1 b h.lt).2.1
theorem shf_bestF {V : Vz} {e : List (List Int)} {b : Nat} {K : Int} (h : Shf V e b K) : ∀ (l : List Pl) (c : Pl), (c = V.now ∨ c ∈ plansV V) → (∀ q ∈ l, q ∈ plansV V) → l.foldl (fun b p => if earn (V.erd e) b < earn (V.erd e) p then p else b) c = l.foldl (fun b p => if earn V b < earn V p then p else b) c
  | [], c, _, _ => rfl
  | q :: l, c, hc, hl => by
    have hq := hl q List.mem_cons_self
    simp only [List.foldl_cons]
    have e1 := shf_in h hc
    have e2 := shf_in h (.inr hq)
    have e3 : (if earn (V.erd e) c < earn (V.erd e) q then q else c) = (if earn V c < earn V q then q else c) := by
      rw [e1, e2]
      by_cases h1 : earn V c < earn V q
      · rw [if_pos h1, if_pos (by omega)]
      · rw [if_neg h1, if_neg (by omega)]
    rw [e3]
    refine shf_bestF h l _ ?_ (fun p hp => hl p (List.mem_cons_of_mem _ hp))
    split
    · exact .inr hq
    · exact hc
theorem shf_best {V : Vz} {e : List (List Int)} {b : Nat} {K : Int} (h : Shf V e b K) : bestP (V.erd e) = bestP V := by
  unfold bestP bestF
  rw [erd_plans]
  exact shf_bestF h (plansV V) V.now (.inl rfl) (fun q hq => hq)
theorem shf_bestE {V : Vz} {e : List (List Int)} {b : Nat} {K : Int} (h : Shf V e b K) : earn (V.erd e) (bestP (V.erd e)) = earn V (bestP V) + K * (cnt (V.now.get b) : Int) := by
  rw [shf_best h]
  exact shf_in h (best_max V (plansV V)).1
theorem shf_alw {V : Vz} {e : List (List Int)} {b : Nat} {K : Int} (h : Shf V e b K) : alwP (V.erd e) = alwP V := by
  unfold alwP
  rw [shf_bestE h, shf_best h, erd_plans]
  have : ∀ (l : List Pl) (c : Pl) (m : Int), (∀ q ∈ l, q ∈ plansV V) → alwF (V.erd e) (m + K * (cnt (V.now.get b) : Int)) c l = alwF V m c l := by
    intro l
    induction l with
    | nil => intro c m _; rfl
    | cons q l ih =>
      intro c m hl
      have e2 := shf_in h (.inr (hl q List.mem_cons_self))
      show alwF (V.erd e) _ (if earn (V.erd e) q < m + K * (cnt (V.now.get b) : Int) then c else andP c q) l = alwF V m (if earn V q < m then c else andP c q) l
      rw [e2]
      have e3 : (if earn V q + K * (cnt (V.now.get b) : Int) < m + K * (cnt (V.now.get b) : Int) then c else andP c q) = (if earn V q < m then c else andP c q) := by
        by_cases h1 : earn V q < m
        · rw [if_pos h1, if_pos (by omega)]
        · rw [if_neg h1, if_neg (by omega)]
      rw [e3]
      exact ih _ _ (fun p hp => hl p (List.mem_cons_of_mem _ hp))
  exact this (plansV V) (bestP V) (earn V (bestP V)) (fun q hq => hq)
/-- Rows whose number at place b is greater by K, the first k of them. -/
def movE (b : Nat) (K : Int) (er : List (List Int)) (k : Nat) : List (List Int) := er.mapIdx fun i ks => if i < k then ks.set b (ks.getD b 0 + K) else ks
theorem movE_len (b : Nat) (K : Int) (er : List (List Int)) (k : Nat) : (movE b K er k).length = er.length := by unfold movE; simp
theorem movE_at (b : Nat) (K : Int) (er : List (List Int)) (k i : Nat) : (movE b K er k)[i]? = er[i]?.map fun ks => if i < k then ks.set b (ks.getD b 0 + K) else ks := by unfold movE; simp
theorem movE_zero (b : Nat) (K : Int) (er : List (List Int)) : movE b K er 0 = er := by
  refine List.ext_getElem? fun i => ?_
  rw [movE_at]
  cases er[i]? <;> simp
theorem movE_succ (b : Nat) (K : Int) (er : List (List Int)) {k : Nat} {ks : List Int} (hk : er[k]? = some ks) : movE b K er (k + 1) = (movE b K er k).set k (ks.set b (ks.getD b 0 + K)) := by
  refine List.ext_getElem? fun i => ?_
  rw [movE_at, List.getElem?_set, movE_len, movE_at]
  have hkl : k < er.length := (List.getElem?_eq_some_iff.1 hk).1
  by_cases e : k = i
  · subst e
    rw [if_pos rfl, if_pos hkl, hk]
    simp
  · rw [if_neg e]
    cases er[i]? with
    | none => rfl
    | some l =>
      simp only [Option.map_some]
      by_cases h1 : i < k
      · rw [if_pos h1, if_pos (by omega)]
      · rw [if_neg h1, if_neg (by omega)]
theorem movE_ear {X : Sw} (hok : XOk X) {b : Nat} {K : Int} (hb : b < X.bs.length) (k i : Nat) (hi : i < X.st.length) : earI (X.vz.erd (movE b K X.er X.er.length)) k i = earI X.vz k i + (if k = b then K else 0) := by
  have hie : i < X.er.length := by rw [hok.er1]; exact hi
  obtain ⟨ks, hks⟩ : ∃ ks, X.er[i]? = some ks := ⟨_, List.getElem?_eq_getElem hie⟩
  have h2 := (hok.er2 i hie).1
  have e0 : X.er.getD i [] = ks := by rw [List.getD_eq_getElem?_getD, hks]; rfl
  have e1 : (movE b K X.er X.er.length).getD i [] = ks.set b (ks.getD b 0 + K) := by
    rw [List.getD_eq_getElem?_getD, movE_at, hks]
    simp [hie]
  rw [e0] at h2
  show ((movE b K X.er X.er.length).getD i []).getD k 0 = (X.er.getD i []).getD k 0 + _
  rw [e0, e1, List.getD_eq_getElem?_getD (l := ks.set b _), List.getElem?_set]
  by_cases e : b = k
  · subst e
    rw [if_pos rfl, if_pos (by omega), if_pos rfl]; rfl
  · rw [if_neg e, if_neg (fun h => e h.symm), Int.add_zero, List.getD_eq_getElem?_getD]
theorem moved_shf {X : Sw} (hok : XOk X) {b : Nat} {K : Int} (hb : b < X.bs.length) : Shf X.vz (movE b K X.er X.er.length) b K :=
  ⟨hok.nb3, hb, (vz_ok hok).now, fun k i hi => movE_ear hok hb k i hi⟩
theorem more_shf {V : Vz} {e : List (List Int)} {b : Nat} {K : Int} (h : Shf V e b K) (t : Nat) : Shf (V.more t) e b K := by
  have hl : (V.more t).st.length = V.st.length := by show (V.st.set t _).length = _; rw [List.length_set]
  exact ⟨h.nb, h.lt, by rw [hl]; exact h.now, fun k i hi => h.er k i (by rw [← hl]; exact hi)⟩
theorem moved_copy {X : Sw} (hok : XOk X) {b : Nat} {K : Int} (hb : b < X.bs.length) (t : Nat) : copyV (X.vz.erd (movE b K X.er X.er.length)) t = copyV X.vz t := by
  have h := moved_shf (K := K) hok hb
  unfold copyV
  have e : (X.vz.erd (movE b K X.er X.er.length)).more t = (X.vz.more t).erd (movE b K X.er X.er.length) := rfl
  rw [e, shf_bestE (more_shf h t), shf_bestE h]
  show earn (X.vz.more t) (bestP (X.vz.more t)) + K * (cnt (X.vz.now.get b) : Int) - (earn X.vz (bestP X.vz) + K * (cnt (X.vz.now.get b) : Int)) = _
  omega
theorem now_cnt {X : Sw} (hok : XOk X) {b : Nat} (hb : b < X.bs.length) : cnt (X.vz.now.get b) = (X.bs.getD b []).length := by
  have h6 : ntI X < 6 := by unfold ntI; have := hok.t6; omega
  obtain ⟨h3, hr⟩ := hok.b3 b hb
  rw [show X.vz.now.get b = mask (X.bs.getD b []) from now_get X.bs hb hok.nb3]
  unfold cnt
  rw [bits_mask hr h6 h3, List.length_map]
end Go.Proofs.Ytipdohpbilabiaa
/-! The reference's plans: which they are, and what is the most that they earn. -/
namespace Go.Proofs.Ytipdohpbilabiaa
set_option linter.unusedSimpArgs false
set_option linter.unusedVariables false
open Go Go.RowKit

set_option maxRecDepth 100000 in
theorem chL_ris : ∀ n : Nat, n < 7 → ∀ m : Nat, m < 4 → ((chL n m 0).all fun l => risB ((n : Int) - 1) l && l.length == m) = true := by decide +kernel
set_option maxRecDepth 100000 in
theorem chL_all : ∀ n : Nat, n < 7 → ((List.range (2 ^ n)).all fun t => decide (3 < cnt t) || (chL n (cnt t) 0).contains (bitL t)) = true := by decide +kernel
/-- All plans that fit and begin with some boxes. -/
def ftL (X : Sw) : Nat → List (List Int) → List (List (List Int))
  | 0, P => if dfB X P then [P] else []
  | r + 1, P => (chL X.st.length (X.bs.getD P.length []).length 0).flatMap fun l => if (coF l (X.bs.getD P.length []) : Int) ≤ X.ch then ftL X r (P ++ [l]) else []
theorem ft_sound {X : Sw} (hok : XOk X) : ∀ (r : Nat) (P : List (List Int)), P.length + r = X.bs.length → (∀ k, k < P.length → plI X P k = true) → ∀ Q ∈ ftL X r P, plB X Q = true ∧ dfB X Q = true
  | 0, P, hl, hp, Q, hQ => by
    unfold ftL at hQ
    split at hQ
    · rename_i h
      simp at hQ; subst hQ
      refine ⟨?_, h⟩
      unfold plB
      rw [Bool.and_eq_true, List.all_eq_true]
      exact ⟨by simp; omega, fun k hk => hp k (List.mem_range.1 hk)⟩
    · simp at hQ
  | r + 1, P, hl, hp, Q, hQ => by
    unfold ftL at hQ
    simp only [List.mem_flatMap] at hQ
    obtain ⟨l, hlm, hQ⟩ := hQ
    split at hQ
    · refine ft_sound hok r (P ++ [l]) (by simp; omega) (fun k hk => ?_) Q hQ
      have h3 := hok.b3 P.length (by omega)
      have h1 := List.all_eq_true.1 (chL_ris X.st.length (by have := hok.t6; omega) (X.bs.getD P.length []).length (by omega)) l hlm
      simp only [Bool.and_eq_true, beq_iff_eq] at h1
      rw [List.length_append, List.length_singleton] at hk
      rcases Nat.lt_or_ge k P.length with h | h
      · have := hp k h
        unfold plI at this ⊢
        rw [show (P ++ [l]).getD k [] = P.getD k [] by rw [List.getD_eq_getElem?_getD, List.getD_eq_getElem?_getD, List.getElem?_append_left h]]
        exact this
      · have e : k = P.length := by omega
        subst e
        unfold plI
        rw [show (P ++ [l]).getD P.length [] = l by rw [List.getD_eq_getElem?_getD]; simp]
        simp only [Bool.and_eq_true, decide_eq_true_eq]
        exact ⟨h1.2, h1.1⟩
    · simp at hQ
theorem ft_all {X : Sw} (hok : XOk X) {p : Pl} (hp : p ∈ plansV X.vz) : ∀ r, r ≤ X.bs.length → listsL p X.bs.length ∈ ftL X r ((listsL p X.bs.length).take (X.bs.length - r)) := by
  obtain ⟨hpl, hpm⟩ := lists_plan hok hp
  obtain ⟨_, hq, _⟩ := (plans_mem hok.nb3 p).1 hp
  intro r
  induction r with
  | zero =>
    intro _
    rw [Nat.sub_zero, List.take_of_length_le (by rw [listsL_len]; omega)]
    unfold ftL
    rw [dfB_fit hok hpl, hpm, plans_fit hok.nb3 hp]
    simp
  | succ r ih =>
    intro hr
    obtain ⟨k, hk⟩ : ∃ k, k = X.bs.length - (r + 1) := ⟨_, rfl⟩
    have hkl : k < X.bs.length := by omega
    have ih := ih (by omega)
    rw [← hk]
    have hlen : ((listsL p X.bs.length).take k).length = k := by rw [List.length_take, listsL_len]; omega
    have hg : (listsL p X.bs.length)[k]? = some (bitL (p.get k)) := by
      have := listsL_get p hkl
      rw [List.getD_eq_getElem?_getD, List.getElem?_eq_getElem (by rw [listsL_len]; exact hkl)] at this
      rw [List.getElem?_eq_getElem (by rw [listsL_len]; exact hkl)]
      simpa using this
    unfold ftL
    rw [List.mem_flatMap, hlen]
    obtain ⟨h1, h2, h3⟩ := hq k hkl
    have hc : cnt (p.get k) = (X.bs.getD k []).length := h2.trans (now_cnt hok hkl)
    have hb3 := (hok.b3 k hkl).1
    refine ⟨bitL (p.get k), ?_, ?_⟩
    · have := List.all_eq_true.1 (chL_all X.st.length (by have := hok.t6; omega)) (p.get k) (List.mem_range.2 h1)
      rw [Bool.or_eq_true] at this
      rcases this with h | h
      · have := of_decide_eq_true h; omega
      · rw [hc] at h; simpa using h
    · have hch : (coF (bitL (p.get k)) (X.bs.getD k []) : Int) ≤ X.ch := by
        have e := chO_co hok hpl hkl
        rw [hpm, listsL_get p hkl] at e
        unfold fitB at h3
        rw [Bool.and_eq_true, e] at h3
        exact of_decide_eq_true h3.1
      rw [if_pos hch]
      have e : (listsL p X.bs.length).take k ++ [bitL (p.get k)] = (listsL p X.bs.length).take (X.bs.length - r) := by
        rw [show X.bs.length - r = k + 1 by omega, List.take_add_one, hg]; rfl
      rw [e]; exact ih
/-- The most that lists earn. -/
def mstF (X : Sw) (l : List (List (List Int))) : Int := l.foldl (fun n P => max n (eaF X P P.length)) 0
theorem mst_facts (X : Sw) (l : List (List (List Int))) : ∀ a : Int, a ≤ l.foldl (fun n P => max n (eaF X P P.length)) a ∧ (∀ P ∈ l, eaF X P P.length ≤ l.foldl (fun n P => max n (eaF X P P.length)) a) ∧ (l.foldl (fun n P => max n (eaF X P P.length)) a = a ∨ ∃ P ∈ l, l.foldl (fun n P => max n (eaF X P P.length)) a = eaF X P P.length) := by
  induction l with
  | nil => intro a; simp
  | cons Q l ih =>
    intro a
    obtain ⟨h1, h2, h3⟩ := ih (max a (eaF X Q Q.length))
    simp only [List.foldl_cons]
    refine ⟨by omega, fun P hP => ?_, ?_⟩
    · rcases List.mem_cons.1 hP with rfl | hP
      · omega
      · exact h2 P hP
    · rcases h3 with h3 | ⟨P, hP, h3⟩
      · rcases Int.le_total a (eaF X Q Q.length) with h | h
        · exact .inr ⟨Q, List.mem_cons_self, by rw [h3]; omega⟩
        · exact .inl (by rw [h3]; omega)
      · exact .inr ⟨P, List.mem_cons_of_mem _ hP, h3⟩
theorem mst_best {X : Sw} (hok : XOk X) : mstF X (ftL X X.bs.length []) = earn X.vz (bestP X.vz) := by
  obtain ⟨h1, h2, h3⟩ := mst_facts X (ftL X X.bs.length []) 0
  have hb := best_in hok
  have hin : listsL (bestP X.vz) X.bs.length ∈ ftL X X.bs.length [] := by
    have := ft_all hok hb X.bs.length (Nat.le_refl _)
    rw [Nat.sub_self, List.take_zero] at this
    exact this
  obtain ⟨hpl, hpm⟩ := lists_plan hok hb
  have h4 := h2 _ hin
  rw [earn_ea hok hpl, hpm] at h4
  refine Int.le_antisymm ?_ h4
  rcases h3 with h3 | ⟨P, hP, h3⟩
  · have h5 := (earn_le (vz_ok hok) (bestP X.vz)).1
    show mstF X _ ≤ _
    unfold mstF
    omega
  · obtain ⟨g1, g2⟩ := ft_sound hok X.bs.length [] (by simp) (fun k hk => by simp at hk) P hP
    show mstF X _ ≤ _
    unfold mstF
    rw [h3, earn_ea hok g1]
    exact earn_bestP (fit_in hok g1 (by rw [← dfB_fit hok g1]; exact g2))
end Go.Proofs.Ytipdohpbilabiaa
