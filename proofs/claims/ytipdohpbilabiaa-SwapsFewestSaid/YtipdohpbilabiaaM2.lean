import Derived.Test.YtipdohpbilabiaaM1
import Derived.Test.YtipdohpbilabiaaVH
/-! What is there now is a plan that fits, with no change, and earns what the lists earn. -/
namespace Go.Proofs.Ytipdohpbilabiaa
set_option linter.unusedSimpArgs false
set_option linter.unusedVariables false
open Go Go.RowKit

theorem Pl.get_set_ne {p : Pl} {k j t : Nat} (hk : k < 3) (hj : j < 3) (hne : j ≠ k) : (p.set k t).get j = p.get j := by
  match k, j, hk, hj with
  | 0, 0, _, _ => exact absurd rfl hne
  | 0, 1, _, _ => rfl
  | 0, 2, _, _ => rfl
  | 1, 0, _, _ => rfl
  | 1, 1, _, _ => exact absurd rfl hne
  | 1, 2, _, _ => rfl
  | 2, 0, _, _ => rfl
  | 2, 1, _, _ => rfl
  | 2, 2, _, _ => exact absurd rfl hne
theorem wo_self (t : Nat) : wo t t = 0 := by unfold wo; rw [Nat.and_self, Nat.xor_self]
theorem wo_or {t u x : Nat} (h : wo t u = 0) (hx : u.testBit x = true) : wo (t ||| 2 ^ x) u = 0 := by
  apply Nat.eq_of_testBit_eq
  intro i
  have hi := congrArg (fun n => n.testBit i) h
  simp only [wo, Nat.testBit_xor, Nat.testBit_and, Nat.testBit_or, Nat.testBit_two_pow, Nat.zero_testBit] at hi ⊢
  by_cases hxi : x = i
  · subst hxi
    rw [hx] at hi ⊢
    simp
  · rw [decide_eq_false hxi, Bool.or_false]
    exact hi
theorem mask_bits (n : Nat) : ∀ (l : List Int) (t : Nat), (l.foldl (fun t x => t ||| 2 ^ x.toNat) t).testBit n = (t.testBit n || l.any fun x => x.toNat == n)
  | [], t => by simp
  | x :: l, t => by
    rw [List.foldl_cons, mask_bits n l, Nat.testBit_or, Nat.testBit_two_pow, List.any_cons, Bool.or_assoc]
    congr 1
theorem mask_mem {l : List Int} {x : Int} (h : x ∈ l) : (mask l).testBit x.toNat = true := by
  unfold mask
  rw [mask_bits]
  simp only [Nat.zero_testBit, Bool.false_or, List.any_eq_true]
  exact ⟨x, h, by simp⟩
theorem mask_one (x : Int) : mask [x] = 2 ^ x.toNat := by simp [mask]
theorem inL_mem {x : Int} {l : List Int} (h : inL x l = true) : x ∈ l := by
  unfold inL at h
  obtain ⟨y, hy, e⟩ := List.any_eq_true.1 h
  rw [eq_of_beq e]
  exact hy
theorem XOk.kmem {X : Sw} (h : XOk X) : ∀ k ∈ X.ks, 0 ≤ k.1 ∧ k.1 < (X.bs.length : Int) ∧ k.2 ∈ X.bs.getD k.1.toNat [] := fun k hk => by
  obtain ⟨i, hi, rfl⟩ := mem_getD (0, 0) hk
  have := h.kp i hi
  unfold keepI at this
  rw [Bool.and_eq_true] at this
  have h1 := inI_iff.1 this.1
  exact ⟨h1.1, by omega, inL_mem this.2⟩
/-- What stays in a box is in it. -/
theorem stay_in (bs : List (List Int)) (hb3 : bs.length ≤ 3) : ∀ (n : Nat) (l : List (Int × Int)), l.length = n → (∀ k ∈ l, 0 ≤ k.1 ∧ k.1 < (bs.length : Int) ∧ k.2 ∈ bs.getD k.1.toNat []) → ∀ b, b < 3 → wo ((stayF l).get b) (mask (bs.getD b [])) = 0 := by
  intro n
  induction n with
  | zero =>
    intro l hl _ b hb
    have : l = [] := List.length_eq_zero_iff.1 hl
    subst this
    have e : (stayF []).get b = 0 := by
      match b, hb with
      | 0, _ => rfl
      | 1, _ => rfl
      | 2, _ => rfl
    rw [e]
    unfold wo
    rw [Nat.zero_and, Nat.zero_xor]
  | succ n ih =>
    intro l hl hk b hb
    obtain ⟨l', p, rfl⟩ : ∃ l' p, l = l' ++ [p] := ⟨l.dropLast, l.getLast (by intro e; rw [e] at hl; cases hl), (List.dropLast_concat_getLast _).symm⟩
    have hl' : l'.length = n := by simpa using hl
    have h0 := ih l' hl' (fun k hk' => hk k (List.mem_append_left _ hk')) b hb
    obtain ⟨h1, h2, h3⟩ := hk p (by simp)
    have hp3 : p.1.toNat < 3 := by omega
    rw [stayF_snoc]
    by_cases hbp : b = p.1.toNat
    · subst hbp
      rw [Pl.get_set hp3, mask_one]
      exact wo_or h0 (mask_mem h3)
    · rw [Pl.get_set_ne hp3 hb hbp]
      exact h0
theorem now_get (bs : List (List Int)) {k n : Nat} (hk : k < n) (hn : n ≤ 3) : (planL bs n).get k = mask (bs.getD k []) := by
  match k, hk with
  | 0, hk => show (if 0 < n then _ else _) = _; rw [if_pos hk]
  | 1, hk => show (if 1 < n then _ else _) = _; rw [if_pos hk]
  | 2, hk => show (if 2 < n then _ else _) = _; rw [if_pos hk]
  | k + 3, hk => omega
theorem now_in {X : Sw} (hok : XOk X) : X.vz.now ∈ plansV X.vz := by
  have hn3 := hok.nb3
  have hms : ∀ k, k < X.bs.length → mask (X.bs.getD k []) < 2 ^ X.st.length := fun k hk => by
    rw [← now_get X.bs hk hn3]
    exact (planM_ok hok.title).get k
  have hst := stay_in X.bs hn3 _ X.ks rfl hok.kmem
  have hC : hasC X.vz X.vz.now = true := by
    unfold hasC
    rw [List.all_eq_true]
    intro i hi
    have hi' : i < X.st.length := List.mem_range.1 hi
    have := hok.st9 _ (getD_mem' X.st 0 hi')
    unfold hasI
    rw [decide_eq_true_eq]
    show _ ≤ X.st.getD i 0 + _
    omega
  suffices h : ∀ (r box : Nat), box + r = X.bs.length → X.vz.now ∈ plansF X.vz r (planL X.bs box) box by
    have h0 := h X.bs.length 0 (by omega)
    exact h0
  intro r
  induction r with
  | zero =>
    intro box hb
    have e : planL X.bs box = X.vz.now := by rw [show box = X.bs.length by omega]; rfl
    rw [e]
    unfold plansF
    rw [if_pos hC]
    exact List.mem_singleton.2 rfl
  | succ r ih =>
    intro box hb
    have hbox : box < X.bs.length := by omega
    have hb3 : box < 3 := by omega
    unfold plansF
    rw [List.mem_flatMap]
    have hg : X.vz.now.get box = mask (X.bs.getD box []) := now_get X.bs hbox hn3
    refine ⟨mask (X.bs.getD box []), List.mem_range.2 (hms box hbox), ?_⟩
    have hf : fitB X.vz ((planL X.bs box).set box (mask (X.bs.getD box []))) box = true := by
      unfold fitB chO
      rw [Pl.get_set hb3, hg, wo_self]
      have hs : wo (X.vz.stay.get box) (mask (X.bs.getD box [])) = 0 := hst box hb3
      rw [hs, Bool.and_eq_true, decide_eq_true_eq]
      exact ⟨hok.ch3.1, rfl⟩
    rw [hg, hf, beq_self_eq_true, Bool.and_true, if_pos rfl, ← planL_succ X.bs hb3]
    exact ih (box + 1) (by omega)
theorem chT_now (V : Vz) : chT V V.now = 0 := by
  unfold chT
  have : ∀ k, chA V V.now k = 0 := by
    intro k
    induction k with
    | zero => rfl
    | succ k ih => rw [chA_succ, ih]; unfold chO; rw [wo_self]; rfl
  exact this _

theorem bm1 : ∀ a : Nat, a < 6 → bitsOf (mask [(a : Int)]) = [a] := by decide +kernel
theorem bm2 : ∀ a : Nat, a < 6 → ∀ b : Nat, b < 6 → a < b → bitsOf (mask [(a : Int), (b : Int)]) = [a, b] := by decide +kernel
theorem bm3 : ∀ a : Nat, a < 6 → ∀ b : Nat, b < 6 → ∀ c : Nat, c < 6 → (a < b ∧ b < c) → bitsOf (mask [(a : Int), (b : Int), (c : Int)]) = [a, b, c] := by decide +kernel
theorem ris_lt {hi : Int} {l : List Int} (h : risB hi l = true) {i : Nat} (hi' : i + 1 < l.length) : l.getD i 0 < l.getD (i + 1) 0 := by
  have := all_at h hi'
  unfold risI at this
  rw [Bool.and_eq_true] at this
  have h2 := this.2
  rw [Bool.or_eq_true, decide_eq_true_eq, decide_eq_true_eq] at h2
  rcases h2 with h2 | h2
  · omega
  · exact h2
theorem bits_mask {hi : Int} {l : List Int} (h : risB hi l = true) (h6 : hi < 6) (h3 : l.length ≤ 3) : bitsOf (mask l) = l.map Int.toNat := by
  have hm := ris_mem h
  match l, h3 with
  | [], _ => decide
  | [a], _ =>
    have ha := hm a (by simp)
    obtain ⟨a, rfl⟩ := Int.eq_ofNat_of_zero_le ha.1
    exact bm1 a (by omega)
  | [a, b], _ =>
    have ha := hm a (by simp)
    have hb := hm b (by simp)
    have hab : a < b := ris_lt h (i := 0) (by simp)
    obtain ⟨a, rfl⟩ := Int.eq_ofNat_of_zero_le ha.1
    obtain ⟨b, rfl⟩ := Int.eq_ofNat_of_zero_le hb.1
    exact bm2 a (by omega) b (by omega) (by omega)
  | [a, b, c], _ =>
    have ha := hm a (by simp)
    have hb := hm b (by simp)
    have hc := hm c (by simp)
    have hab : a < b := ris_lt h (i := 0) (by simp)
    have hbc : b < c := ris_lt h (i := 1) (by simp)
    obtain ⟨a, rfl⟩ := Int.eq_ofNat_of_zero_le ha.1
    obtain ⟨b, rfl⟩ := Int.eq_ofNat_of_zero_le hb.1
    obtain ⟨c, rfl⟩ := Int.eq_ofNat_of_zero_le hc.1
    exact bm3 a (by omega) b (by omega) c (by omega) (by omega)
  | a :: b :: c :: d :: l, h3 => simp at h3
theorem earn_now {X : Sw} (hok : XOk X) : eaF X X.bs X.bs.length = earn X.vz X.vz.now := by
  unfold eaF earn earL
  congr 1
  refine List.map_congr_left fun k hk => ?_
  have hkn : k < X.bs.length := List.mem_range.1 hk
  obtain ⟨h3, hr⟩ := hok.b3 k hkn
  unfold eiF earB
  have hg : X.vz.now.get k = mask (X.bs.getD k []) := now_get X.bs hkn hok.nb3
  rw [hg, bits_mask hr (by unfold ntI; have := hok.t6; omega) h3]

/-- What the fewest changes say of what is there now, of a goal, and of a greater one. -/
theorem few_facts {X : Sw} (hok : XOk X) (goal : Int) : (fewV X.vz goal).2 = decide (goal ≤ earn X.vz (bestP X.vz)) ∧ ((fewV X.vz goal).2 = true → 0 ≤ (fewV X.vz goal).1) := by
  obtain ⟨h1, h2⟩ := few_ok X.vz goal (plansV X.vz)
  have hn := now_in hok
  obtain ⟨b0, b1, b2⟩ := best_max X.vz (plansV X.vz)
  refine ⟨?_, fun h => ?_⟩
  · have hm : bestP X.vz ∈ plansV X.vz := by
      rcases b0 with h | h
      · show bestF X.vz (plansV X.vz) ∈ _; rw [h]; exact hn
      · exact h
    rw [Bool.eq_iff_iff, decide_eq_true_eq]
    refine h1.trans ⟨fun ⟨p, hp, hg⟩ => ?_, fun hg => ⟨_, hm, hg⟩⟩
    have : earn X.vz p ≤ earn X.vz (bestP X.vz) := b2 p hp
    omega
  · obtain ⟨⟨p, _, _, he⟩, _⟩ := h2 h
    show 0 ≤ (fewF X.vz goal (plansV X.vz)).1
    omega
theorem few_now {X : Sw} (hok : XOk X) : fewV X.vz (earn X.vz X.vz.now) = (0, true) := by
  obtain ⟨h1, h2⟩ := few_ok X.vz (earn X.vz X.vz.now) (plansV X.vz)
  have hn := now_in hok
  have hs := h1.2 ⟨_, hn, Int.le_refl _⟩
  obtain ⟨⟨p, _, _, he⟩, ha⟩ := h2 hs
  have h0 := ha _ hn (Int.le_refl _)
  rw [chT_now] at h0
  refine Prod.ext ?_ hs
  show (fewF X.vz _ (plansV X.vz)).1 = 0
  omega
theorem few_more {X : Sw} (goal goal' : Int) (hle : goal ≤ goal') (h : (fewV X.vz goal').2 = true) : (fewV X.vz goal).1 ≤ (fewV X.vz goal').1 := by
  obtain ⟨h1, h2⟩ := few_ok X.vz goal (plansV X.vz)
  obtain ⟨k1, k2⟩ := few_ok X.vz goal' (plansV X.vz)
  obtain ⟨⟨p, hp, hg, he⟩, _⟩ := k2 h
  have hs := h1.2 ⟨p, hp, by omega⟩
  have := (h2 hs).2 p hp (by omega)
  show (fewF X.vz goal (plansV X.vz)).1 ≤ (fewF X.vz goal' (plansV X.vz)).1
  omega
end Go.Proofs.Ytipdohpbilabiaa
