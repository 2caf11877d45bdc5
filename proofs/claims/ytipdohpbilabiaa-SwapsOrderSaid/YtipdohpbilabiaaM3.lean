import Derived.Test.YtipdohpbilabiaaM2
import Derived.Test.YtipdohpbilabiaaVL
/-! A plan's lists and its masks say the same of what fits. -/
namespace Go.Proofs.Ytipdohpbilabiaa
set_option linter.unusedSimpArgs false
set_option linter.unusedVariables false
open Go Go.RowKit

theorem mask_test {l : List Int} (hl : ∀ x ∈ l, 0 ≤ x) (t : Nat) : (mask l).testBit t = inL (t : Int) l := by
  unfold mask
  rw [mask_bits, Nat.zero_testBit, Bool.false_or]
  unfold inL
  rw [Bool.eq_iff_iff, List.any_eq_true, List.any_eq_true]
  constructor
  · rintro ⟨x, hx, e⟩
    have h0 := hl x hx
    have e' := eq_of_beq e
    exact ⟨x, hx, by rw [beq_iff_eq]; omega⟩
  · rintro ⟨x, hx, e⟩
    have h0 := hl x hx
    have e' := eq_of_beq e
    exact ⟨x, hx, by rw [beq_iff_eq]; omega⟩
theorem wo_bits (t u i : Nat) : (wo t u).testBit i = (t.testBit i && !u.testBit i) := by
  unfold wo
  rw [Nat.testBit_xor, Nat.testBit_and]
  cases t.testBit i <;> cases u.testBit i <;> rfl
theorem bits_wo (t u : Nat) : bitsOf (wo t u) = (bitsOf t).filter fun i => !u.testBit i := by
  unfold bitsOf bitsTo
  rw [List.filter_filter]
  refine List.filter_congr fun i _ => ?_
  rw [wo_bits, Bool.and_comm]
theorem plB_parts {X : Sw} {P : List (List Int)} (h : plB X P = true) : P.length = X.bs.length ∧ ∀ k, k < P.length → (P.getD k []).length = (X.bs.getD k []).length ∧ risB (ntI X) (P.getD k []) = true := by
  unfold plB at h
  simp only [Bool.and_eq_true, decide_eq_true_eq] at h
  refine ⟨h.1, fun k hk => ?_⟩
  have := all_at h.2 hk
  unfold plI at this
  simpa only [Bool.and_eq_true, decide_eq_true_eq] using this
theorem chO_co {X : Sw} (hok : XOk X) {P : List (List Int)} (hpl : plB X P = true) {k : Nat} (hk : k < X.bs.length) : chO X.vz (planM P) k = coF (P.getD k []) (X.bs.getD k []) := by
  obtain ⟨hl, hp⟩ := plB_parts hpl
  have hkP : k < P.length := by omega
  obtain ⟨hlen, hr⟩ := hp k hkP
  obtain ⟨hb3, hbr⟩ := hok.b3 k hk
  have hn3 := hok.nb3
  have h6 : ntI X < 6 := by unfold ntI; have := hok.t6; omega
  have hg1 : (planM P).get k = mask (P.getD k []) := now_get P hkP (by omega)
  have hg2 : X.vz.now.get k = mask (X.bs.getD k []) := now_get X.bs hk hn3
  have hm1 := ris_mem hr
  have hm2 := ris_mem hbr
  unfold chO cnt coF
  rw [hg1, hg2, bits_wo, bits_mask hr h6 (by omega), List.filter_map, List.length_map]
  congr 1
  refine List.filter_congr fun x hx => ?_
  show (!(mask (X.bs.getD k [])).testBit x.toNat) = !inL x (X.bs.getD k [])
  rw [mask_test (fun y hy => (hm2 y hy).1), Int.toNat_of_nonneg (hm1 x hx).1]
theorem cop_cn {P : List (List Int)} (h3 : P.length ≤ 3) (hP : ∀ l ∈ P, ∀ x ∈ l, 0 ≤ x) (i : Nat) : cop (planM P) i = cnF P (i : Int) := by
  unfold cop copK cnF
  rw [show List.range 3 = [0, 1, 2] from rfl]
  match P, h3 with
  | [], _ => simp [planM, planL, Pl.get]
  | [a], _ =>
    have ha := mask_test (hP a (by simp)) i
    simp only [planM, planL, Pl.get, List.filter_cons, List.filter_nil, List.length_cons, List.length_nil, List.getD_cons_zero, Nat.zero_testBit]
    simp [ha]
    cases inL (i : Int) a <;> simp
  | [a, b], _ =>
    have ha := mask_test (hP a (by simp)) i
    have hb := mask_test (hP b (by simp)) i
    simp [planM, planL, Pl.get, List.filter_cons, ha, hb]
    cases inL (i : Int) a <;> cases inL (i : Int) b <;> simp
  | [a, b, c], _ =>
    have ha := mask_test (hP a (by simp)) i
    have hb := mask_test (hP b (by simp)) i
    have hc := mask_test (hP c (by simp)) i
    simp [planM, planL, Pl.get, List.filter_cons, ha, hb, hc]
    cases inL (i : Int) a <;> cases inL (i : Int) b <;> cases inL (i : Int) c <;> simp
  | a :: b :: c :: d :: l, h3 => simp at h3
/-- The bits of what stays. -/
theorem stay_bits : ∀ (n : Nat) (l : List (Int × Int)), l.length = n → (∀ k ∈ l, 0 ≤ k.1 ∧ k.1 < 3 ∧ 0 ≤ k.2) → ∀ b, b < 3 → ∀ i, ((stayF l).get b).testBit i = l.any fun k => k.1 == (b : Int) && k.2 == (i : Int) := by
  intro n
  induction n with
  | zero =>
    intro l hl _ b hb i
    have : l = [] := List.length_eq_zero_iff.1 hl
    subst this
    have e : (stayF []).get b = 0 := by
      match b, hb with
      | 0, _ => rfl
      | 1, _ => rfl
      | 2, _ => rfl
    rw [e, Nat.zero_testBit]
    rfl
  | succ n ih =>
    intro l hl hk b hb i
    obtain ⟨l', p, rfl⟩ : ∃ l' p, l = l' ++ [p] := ⟨l.dropLast, l.getLast (by intro e; rw [e] at hl; cases hl), (List.dropLast_concat_getLast _).symm⟩
    have hl' : l'.length = n := by simpa using hl
    have h0 := ih l' hl' (fun k hk' => hk k (List.mem_append_left _ hk')) b hb i
    obtain ⟨h1, h2, h3⟩ := hk p (by simp)
    have hp3 : p.1.toNat < 3 := by omega
    rw [stayF_snoc, List.any_append, ← h0]
    by_cases hbp : b = p.1.toNat
    · have e1 : (p.1 == (b : Int)) = true := by rw [beq_iff_eq]; omega
      rw [hbp, Pl.get_set hp3, mask_one, Nat.testBit_or, Nat.testBit_two_pow, ← hbp]
      congr 1
      simp only [List.any_cons, List.any_nil, Bool.or_false, e1, Bool.true_and]
      rw [Bool.eq_iff_iff, decide_eq_true_eq, beq_iff_eq]
      omega
    · have e1 : (p.1 == (b : Int)) = false := by rw [beq_eq_false_iff_ne]; omega
      rw [Pl.get_set_ne hp3 hb hbp]
      simp [e1]
theorem wo_zero {t u : Nat} : wo t u = 0 ↔ ∀ i, t.testBit i = true → u.testBit i = true := by
  constructor
  · intro h i hi
    have := congrArg (fun n => n.testBit i) h
    simp only [wo_bits, hi, Nat.zero_testBit, Bool.true_and] at this
    simpa using this
  · intro h
    apply Nat.eq_of_testBit_eq
    intro i
    rw [wo_bits, Nat.zero_testBit]
    cases ht : t.testBit i
    · rfl
    · rw [h i ht]; rfl
/-- Lists fit just if their masks do. -/
theorem dfB_fit {X : Sw} (hok : XOk X) {P : List (List Int)} (hpl : plB X P = true) : dfB X P = fitA X.vz (planM P) := by
  obtain ⟨hl, hp⟩ := plB_parts hpl
  have hn3 := hok.nb3
  have hPn : ∀ l ∈ P, ∀ x ∈ l, 0 ≤ x := fun l hl' x hx => by
    obtain ⟨k, hk, rfl⟩ := mem_getD [] hl'
    exact (ris_mem (hp k hk).2 x hx).1
  have hbn : ∀ l ∈ X.bs, ∀ x ∈ l, 0 ≤ x := fun l hl' x hx => (hok.title l hl' x hx).1
  have hkm := hok.kmem
  have hks := hok.keep
  have hst := stay_bits _ X.ks rfl (fun k hk => ⟨(hks k hk).1, by have := (hks k hk).2.1; omega, (hks k hk).2.2.1⟩)
  rw [Bool.eq_iff_iff]
  unfold dfB fitA hasC
  simp only [Bool.and_eq_true, List.all_eq_true, List.mem_range]
  have h3 : ∀ i, df3 X P i = hasI X.vz (planM P) i := fun i => by
    unfold df3 hasI
    rw [cop_cn (by omega) hPn, show X.vz.now = planM X.bs from rfl, cop_cn hn3 hbn]
    rfl
  have hget : ∀ k, k < X.bs.length → (planM P).get k = mask (P.getD k []) := fun k hk => now_get P (by omega) (by omega)
  have hPm : ∀ k, k < X.bs.length → ∀ x ∈ P.getD k [], 0 ≤ x := fun k hk x hx => (ris_mem (hp k (by omega)).2 x hx).1
  constructor
  · rintro ⟨⟨a1, a2⟩, a3⟩
    refine ⟨fun k hk => ?_, fun i hi => by rw [← h3 i]; exact a3 i hi⟩
    have hk' : k < X.bs.length := hk
    have b1 := a1 k (by omega)
    unfold df1 at b1
    rw [decide_eq_true_eq] at b1
    unfold fitB
    rw [Bool.and_eq_true, decide_eq_true_eq, beq_iff_eq, chO_co hok hpl hk']
    refine ⟨b1, wo_zero.2 fun i hi => ?_⟩
    rw [hget k hk', mask_test (hPm k hk')]
    have hi' : ((stayF X.ks).get k).testBit i = true := hi
    rw [hst k (by omega) i, List.any_eq_true] at hi'
    obtain ⟨q, hq, e⟩ := hi'
    simp only [Bool.and_eq_true, beq_iff_eq] at e
    obtain ⟨j, hj, rfl⟩ := mem_getD (0, 0) hq
    have b2 := a2 j hj
    unfold df2 at b2
    rw [e.1, e.2, Int.toNat_natCast] at b2
    exact b2
  · rintro ⟨a1, a3⟩
    refine ⟨⟨fun k hk => ?_, fun j hj => ?_⟩, fun i hi => by rw [h3 i]; exact a3 i hi⟩
    · have hk' : k < X.bs.length := by omega
      have b1 := a1 k hk'
      unfold fitB at b1
      rw [Bool.and_eq_true, decide_eq_true_eq, chO_co hok hpl hk'] at b1
      unfold df1
      rw [decide_eq_true_eq]
      exact b1.1
    · obtain ⟨q0, q1, q2⟩ := hks _ (getD_mem' X.ks (0, 0) hj)
      have hkb : (X.ks.getD j (0, 0)).1.toNat < X.bs.length := by omega
      have b1 := a1 _ hkb
      unfold fitB at b1
      rw [Bool.and_eq_true, beq_iff_eq] at b1
      have b2 := wo_zero.1 b1.2 (X.ks.getD j (0, 0)).2.toNat (by
        show ((stayF X.ks).get _).testBit _ = true
        rw [hst _ (by omega) _, List.any_eq_true]
        refine ⟨_, getD_mem' X.ks (0, 0) hj, ?_⟩
        simp only [Bool.and_eq_true, beq_iff_eq]
        omega)
      rw [hget _ hkb, mask_test (hPm _ hkb), Int.toNat_of_nonneg q2.1] at b2
      exact b2
end Go.Proofs.Ytipdohpbilabiaa
