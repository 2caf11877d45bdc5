import Derived.Test.YtakodllejndfeaaT30
/-! Two writers as one. -/
namespace Go.Proofs.Ytakodllejndfeaa
set_option linter.unusedSimpArgs false
set_option linter.unusedVariables false
set_option linter.unusedSimpArgs false
set_option linter.unusedVariables false

/-- What two writers have of a side. -/
def twoS (ps : List (Int × Int)) (a b : Int) : Int := (ps.map fun q => if q.1 = a ∨ q.1 = b then q.2 else 0).sum
theorem twoS_snoc (ps : List (Int × Int)) (q : Int × Int) (a b : Int) : twoS (ps ++ [q]) a b = twoS ps a b + (if q.1 = a ∨ q.1 = b then q.2 else 0) := by simp [twoS, List.sum_append]
theorem twoS_eq {a b : Int} (h : a ≠ b) : ∀ ps : List (Int × Int), twoS ps a b = pctOf ps a + pctOf ps b
  | [] => by simp [twoS, pctOf]
  | q :: ps => by
    have ih := twoS_eq h ps
    simp only [twoS, pctOf, List.map_cons, List.sum_cons] at *
    by_cases h1 : q.1 = a
    · have h2 : ¬ q.1 = b := fun e => h (by rw [← h1, e])
      rw [if_pos (.inl h1), if_pos h1, if_neg h2]; omega
    · by_cases h2 : q.1 = b
      · rw [if_pos (.inr h2), if_neg h1, if_pos h2]; omega
      · rw [if_neg (by omega), if_neg h1, if_neg h2]; omega
theorem twoS_rng {ps : List (Int × Int)} (h : ∀ q ∈ ps, 1 ≤ q.2 ∧ q.2 ≤ 100) (a b : Int) : 0 ≤ twoS ps a b ∧ twoS ps a b ≤ sumP ps := by
  induction ps with
  | nil => simp [twoS, sumP]
  | cons q ps ih =>
    have h1 := ih fun x hx => h x (by simp [hx])
    have h2 := h q (by simp)
    simp only [twoS, sumP, List.map_cons, List.sum_cons] at *
    split <;> omega
def oneQ (a t j : Int) : List (Int × Int) := if j = a ∧ 0 < t then [(a, t)] else []
def keepB (a b j : Int) (q : Int × Int) : Bool := (decide (q.1 = j) && decide (j ≠ a)) && decide (j ≠ b)
def blk (a b t j : Int) (ps : List (Int × Int)) : List (Int × Int) := oneQ a t j ++ ps.filter (keepB a b j)
def joK (a b t : Int) (ps : List (Int × Int)) : Nat → List (Int × Int)
  | 0 => []
  | j + 1 => joK a b t ps j ++ blk a b t (j : Int) ps
/-- The parts of a side of which one writer has all that is another one's, too. -/
def joP (n : Nat) (a b : Int) (ps : List (Int × Int)) : List (Int × Int) := joK a b (twoS ps a b) ps n
theorem pct_app (xs ys : List (Int × Int)) (w : Int) : pctOf (xs ++ ys) w = pctOf xs w + pctOf ys w := by simp [pctOf, List.sum_append]
theorem pct_cons (q : Int × Int) (xs : List (Int × Int)) (w : Int) : pctOf (q :: xs) w = (if q.1 = w then q.2 else 0) + pctOf xs w := by simp [pctOf]
theorem pct_filter (a b j w : Int) : ∀ ps : List (Int × Int), pctOf (ps.filter (keepB a b j)) w = if (j ≠ a ∧ j ≠ b) ∧ w = j then pctOf ps j else 0
  | [] => by simp [pctOf]
  | q :: ps => by
    have ih := pct_filter a b j w ps
    rw [List.filter_cons]
    by_cases hk : keepB a b j q = true
    · rw [if_pos hk, pct_cons, ih, pct_cons]
      unfold keepB at hk
      simp only [Bool.and_eq_true, decide_eq_true_eq] at hk
      obtain ⟨⟨h1, h2⟩, h3⟩ := hk
      by_cases hw : w = j
      · subst hw; simp [h1, h2, h3]
      · have h4 : ¬ j = w := fun e => hw e.symm
        simp [h1, hw, h4]
    · rw [if_neg hk, ih, pct_cons]
      unfold keepB at hk
      simp only [Bool.and_eq_true, decide_eq_true_eq] at hk
      by_cases hc : (j ≠ a ∧ j ≠ b) ∧ w = j
      · have h4 : ¬ q.1 = j := fun e => hk ⟨⟨e, hc.1.1⟩, hc.1.2⟩
        simp [hc, h4]
      · rw [if_neg hc, if_neg hc]
theorem pct_one (a t j w : Int) : pctOf (oneQ a t j) w = if (j = a ∧ 0 < t) ∧ a = w then t else 0 := by
  unfold oneQ
  by_cases h : j = a ∧ 0 < t
  · rw [if_pos h, pct_cons]
    by_cases h2 : a = w <;> simp [h, h2, pctOf]
  · rw [if_neg h, if_neg (fun e => h e.1)]; rfl
/-- What a writer has then. -/
def valJ (a b t : Int) (ps : List (Int × Int)) (w : Int) : Int := if w = a then t else if w = b then 0 else pctOf ps w
theorem pct_blk {a b t : Int} (ht : 0 ≤ t) (hab : a ≠ b) (j w : Int) (ps : List (Int × Int)) : pctOf (blk a b t j ps) w = if w = j then valJ a b t ps w else 0 := by
  unfold blk
  rw [pct_app, pct_one, pct_filter]
  unfold valJ
  by_cases hw : w = j
  · subst hw
    by_cases h1 : w = a
    · subst h1
      by_cases h0 : 0 < t
      · simp [h0]
      · have h00 : t = 0 := by omega
        simp [h0, h00]
    · have h1' : ¬ a = w := fun e => h1 e.symm
      by_cases h2 : w = b
      · subst h2; simp [h1, h1']
      · simp [h1, h1', h2]
  · by_cases h3 : j = a
    · subst h3
      have h4 : ¬ j = w := fun e => hw e.symm
      simp [hw, h4]
    · simp [hw, h3]
theorem pct_joK {a b t : Int} (ht : 0 ≤ t) (hab : a ≠ b) (w : Int) (ps : List (Int × Int)) : ∀ j : Nat, pctOf (joK a b t ps j) w = if 0 ≤ w ∧ w < (j : Int) then valJ a b t ps w else 0
  | 0 => by rw [if_neg (by omega)]; simp [joK, pctOf]
  | j + 1 => by
    rw [joK, pct_app, pct_joK ht hab w ps j, pct_blk ht hab]
    by_cases h1 : w = (j : Int)
    · rw [if_neg (by omega), if_pos h1, if_pos (by omega)]; omega
    · rw [if_neg h1]
      by_cases h2 : 0 ≤ w ∧ w < (j : Int)
      · rw [if_pos h2, if_pos (by omega)]; omega
      · rw [if_neg h2, if_neg (by omega)]; rfl
theorem blk_mem {a b t j : Int} {ps : List (Int × Int)} {q : Int × Int} (h : q ∈ blk a b t j ps) : q.1 = j ∧ (q = (a, t) ∧ 0 < t ∨ q ∈ ps) := by
  unfold blk oneQ at h
  rcases List.mem_append.1 h with h | h
  · split at h
    · rename_i hc
      rw [List.mem_singleton] at h
      rw [h]; exact ⟨hc.1.symm, .inl ⟨rfl, hc.2⟩⟩
    · simp at h
  · obtain ⟨h1, h2⟩ := List.mem_filter.1 h
    unfold keepB at h2
    simp only [Bool.and_eq_true, decide_eq_true_eq] at h2
    exact ⟨h2.1.1, .inr h1⟩
theorem joK_mem {a b t : Int} {ps : List (Int × Int)} {q : Int × Int} : ∀ {j : Nat}, q ∈ joK a b t ps j → (0 ≤ q.1 ∧ q.1 < (j : Int)) ∧ (q = (a, t) ∧ 0 < t ∨ q ∈ ps)
  | 0, h => by simp [joK] at h
  | j + 1, h => by
    rw [joK] at h
    rcases List.mem_append.1 h with h | h
    · have := joK_mem h
      exact ⟨by omega, this.2⟩
    · obtain ⟨h1, h2⟩ := blk_mem h
      exact ⟨by omega, h2⟩
theorem asc_lt {n : Nat} {s : Sd} (h : SOk n s) : ∀ (j i : Nat), i < j → j < s.ps.length → whoA s.ps i < whoA s.ps j
  | 0, i, h1, _ => by omega
  | j + 1, i, h1, h2 => by
    have h3 := h.asc (j + 1) (by omega) h2
    rw [show j + 1 - 1 = j by omega] at h3
    rcases Nat.lt_or_ge i j with h4 | h4
    · have := asc_lt h j i h4 (by omega); omega
    · have : i = j := by omega
      rw [this]; exact h3
theorem SOk.pw {n : Nat} {s : Sd} (h : SOk n s) : s.ps.Pairwise fun x y => x.1 < y.1 := by
  rw [List.pairwise_iff_getElem]
  intro i j hi hj hij
  have := asc_lt h j i hij hj
  unfold whoA at this
  rwa [List.getD_eq_getElem?_getD, List.getD_eq_getElem?_getD, List.getElem?_eq_getElem hi, List.getElem?_eq_getElem hj] at this
theorem joK_pw {a b t : Int} {ps : List (Int × Int)} (h : ps.Pairwise fun x y => x.1 < y.1) : ∀ j : Nat, (joK a b t ps j).Pairwise fun x y => x.1 < y.1
  | 0 => by rw [joK]; exact List.Pairwise.nil
  | j + 1 => by
    rw [joK, List.pairwise_append]
    refine ⟨joK_pw h j, ?_, fun x hx y hy => ?_⟩
    · unfold blk oneQ
      by_cases hj : (j : Int) = a
      · have e : ps.filter (keepB a b (j : Int)) = [] := List.filter_eq_nil_iff.2 fun q _ => by unfold keepB; simp [hj]
        rw [e, List.append_nil]
        split
        · exact List.pairwise_singleton _ _
        · exact List.Pairwise.nil
      · rw [if_neg (fun e => hj e.1), List.nil_append]
        exact h.filter _
    · have h1 := (joK_mem hx).1
      have h2 := (blk_mem hy).1
      omega
theorem sideB_mk {n : Nat} {s : Sd} (h : SOk n s) : sideB n s = true := by
  unfold sideB partsB
  simp only [Bool.and_eq_true, decide_eq_true_eq, List.all_eq_true, List.mem_range, inI_iff]
  refine ⟨⟨fun i hi => ?_, h.sum⟩, h.pl⟩
  have hm : s.ps.getD i (0, 0) ∈ s.ps := by
    rw [List.getD_eq_getElem?_getD, List.getElem?_eq_getElem hi]; exact List.getElem_mem hi
  have h1 := h.who _ hm
  have h2 := h.pct _ hm
  unfold partB
  simp only [Bool.and_eq_true, Bool.or_eq_true, decide_eq_true_eq, inI_iff]
  refine ⟨⟨⟨h1.1, by unfold whoA; omega⟩, ?_⟩, h2⟩
  rcases Nat.eq_zero_or_pos i with h0 | h0
  · exact .inl h0
  · exact .inr (h.asc i h0 hi)
theorem jo_ok {n : Nat} {s : Sd} (h : SOk n s) {a b : Nat} (ha : a < n) (hb : b < n) (hab : a ≠ b) : SOk n ⟨s.pl, joP n a b s.ps⟩ := by
  have ht := twoS_rng h.pct (a : Int) b
  rw [h.sum] at ht
  have hpw := joK_pw (a := (a : Int)) (b := b) (t := twoS s.ps a b) h.pw n
  have hwho : ∀ q ∈ joP n (a : Int) b s.ps, 0 ≤ q.1 ∧ q.1 < (n : Int) := fun q hq => (joK_mem hq).1
  refine ⟨hwho, fun q hq => ?_, fun i h0 hi => ?_, ?_, h.pl⟩
  · rcases (joK_mem hq).2 with ⟨rfl, h1⟩ | h1
    · show 1 ≤ twoS s.ps a b ∧ _; omega
    · exact h.pct q h1
  · have := List.pairwise_iff_getElem.1 hpw (i - 1) i (Nat.lt_of_le_of_lt (Nat.sub_le i 1) hi) hi (by omega)
    show whoA (joP n a b s.ps) (i - 1) < whoA (joP n a b s.ps) i
    unfold whoA
    rw [List.getD_eq_getElem?_getD, List.getD_eq_getElem?_getD, List.getElem?_eq_getElem hi, List.getElem?_eq_getElem (Nat.lt_of_le_of_lt (Nat.sub_le i 1) hi)]
    exact this
  · show sumP (joP n a b s.ps) = 100
    rw [← pct_sum hwho, ← h.sum, ← pct_sum h.who]
    have e : ∀ i, i < n → pctOf (joP n (a : Int) b s.ps) (i : Nat) = (pctOf s.ps (i : Nat) + (if (a : Int) = (i : Nat) then pctOf s.ps (b : Nat) else 0)) + (if (b : Int) = (i : Nat) then -pctOf s.ps (b : Nat) else 0) := fun i hi => by
      unfold joP
      rw [pct_joK ht.1 (by omega), if_pos (by omega)]
      unfold valJ
      by_cases h1 : (i : Int) = a
      · rw [if_pos h1, if_pos h1.symm, if_neg (by omega), twoS_eq (by omega), h1]; omega
      · have h1' : ¬ (a : Int) = (i : Nat) := fun e => h1 e.symm
        rw [if_neg h1, if_neg h1']
        by_cases h2 : (i : Int) = b
        · rw [if_pos h2, if_pos h2.symm, h2]; omega
        · have h2' : ¬ (b : Int) = (i : Nat) := fun e => h2 e.symm
          rw [if_neg h2, if_neg h2']; omega
    rw [sumR_congr e, sumR_add, sumR_add, sumR_one (by omega) (by omega), sumR_one (by omega) (by omega)]
    omega
/-- The sides of a royal in which two writers are one. -/
def joS (n : Nat) (a b : Int) (S : List Sd) : List Sd := S.map fun s => ⟨s.pl, joP n a b s.ps⟩
theorem joS_len (n : Nat) (a b : Int) (S : List Sd) : (joS n a b S).length = S.length := by simp [joS]
theorem joS_al (n : Nat) (a b : Int) (S : List Sd) : alS (joS n a b S) = alS S := by simp [alS, joS, Function.comp_def]
theorem joS_vB {p : Int} {S : List Sd} {O : List Int} (h : vB p S O = true) {a b : Nat} (ha : a < O.length) (hb : b < O.length) (hab : a ≠ b) : vB p (joS O.length a b S) O = true := by
  have hV := vB_ok h
  unfold vB at *
  simp only [Bool.and_eq_true] at h ⊢
  obtain ⟨⟨⟨⟨h1, h2⟩, h3⟩, h4⟩, h5⟩ := h
  refine ⟨⟨⟨⟨h1, by rw [joS_len]; exact h2⟩, h3⟩, ?_⟩, h5⟩
  rw [List.all_eq_true]
  intro t ht
  obtain ⟨s, hs, rfl⟩ := List.mem_map.1 ht
  exact sideB_mk (jo_ok (hV.sd s hs) ha hb hab)
theorem joS_cl {n : Nat} {a b : Nat} (ha : a < n) (hb : b < n) (hab : a ≠ b) {w : Int} (hw : 0 ≤ w ∧ w < (n : Int)) : ∀ {S : List Sd}, (∀ s ∈ S, SOk n s) → clS (joS n a b S) w = if w = a then clS S a + clS S b else if w = b then 0 else clS S w
  | [], _ => by simp [joS, clS]
  | s :: S, h => by
    have ih := joS_cl ha hb hab hw (S := S) (fun x hx => h x (List.mem_cons_of_mem _ hx))
    have ht := (twoS_rng (h s (List.mem_cons_self ..)).pct (a : Int) b).1
    have hp : pctOf (joP n (a : Int) b s.ps) w = valJ a b (twoS s.ps a b) s.ps w := by
      unfold joP
      rw [pct_joK ht (by omega), if_pos hw]
    simp only [joS, clS, List.map_cons, List.sum_cons] at *
    rw [ih, hp]
    unfold valJ
    by_cases h1 : w = a
    · rw [if_pos h1, if_pos h1, if_pos h1, twoS_eq (by omega), Int.mul_add]; omega
    · rw [if_neg h1, if_neg h1, if_neg h1]
      by_cases h2 : w = b
      · rw [if_pos h2, if_pos h2, if_pos h2]; simp
      · rw [if_neg h2, if_neg h2, if_neg h2]
/-- What an exact part says of a royal with so many plays. -/
structure FrOk (x u d den : Int) : Prop where
  u0 : 0 ≤ u
  d0 : 0 < d
  u9 : u < 1125899906842624
  d9 : d < 1125899906842624
  rem : den.tmod d = 0
  q0 : 0 ≤ den.tdiv d
  q9 : den.tdiv d ≤ 60000000000
  mul : u * den.tdiv d = x
  x9 : 0 ≤ x ∧ x ≤ 60000000000
theorem fr_ok {p : Int} {S : List Sd} {O : List Int} (hV : VOk p S O) (hal : alS S ≠ 0) (hE : askE p S O true = 0) {who : Nat} (hw : who < O.length) : FrOk (p * clS S (who : Int)) (exU p S O who) (exL p S O who) (100 * alS S) := by
  have h1 := alS_rng hV.sd
  have h2 := clS_rng hV.sd (who : Int)
  have hp0 := hV.p0; have hp9 := hV.p9; have hm := hV.m6
  have hS6 : alS S ≤ 59994 := by
    have : (9999 : Int) * S.length ≤ 9999 * 6 := by omega
    omega
  have hx0 : 0 ≤ p * clS S (who : Int) := Int.mul_nonneg hp0 h2.1
  have hx9 : p * clS S (who : Int) ≤ 9999 * 5999400 := Int.mul_le_mul hp9 (by omega) h2.1 (by omega)
  have hhas : hasB O (who : Int) = true := by unfold hasB; rw [inI_iff]; omega
  have eN : ((exN p S who : Nat) : Int) = p * clS S (who : Int) := by unfold exN; omega
  have eD : ((exD S : Nat) : Int) = 100 * alS S := by unfold exD; omega
  have hDpos : 0 < exD S := by omega
  generalize hg : Nat.gcd (exN p S who) (exD S) = g at *
  have hgN : g ∣ exN p S who := by rw [← hg]; exact Nat.gcd_dvd_left _ _
  have hgD : g ∣ exD S := by rw [← hg]; exact Nat.gcd_dvd_right _ _
  have hgp : 0 < g := Nat.pos_of_dvd_of_pos hgD hDpos
  have eU : exU p S O who = ((exN p S who / g : Nat) : Int) := by unfold exU; rw [hhas, if_pos hE, hg]
  have eL : exL p S O who = ((exD S / g : Nat) : Int) := by unfold exL; rw [hhas, if_pos hE, hg]
  have hLp : 0 < exD S / g := Nat.div_pos (Nat.le_of_dvd hDpos hgD) hgp
  have hU9 : exN p S who / g ≤ exN p S who := Nat.div_le_self _ _
  have hL9 : exD S / g ≤ exD S := Nat.div_le_self _ _
  have hmulD : exD S / g * g = exD S := Nat.div_mul_cancel hgD
  have hmulN : exN p S who / g * g = exN p S who := Nat.div_mul_cancel hgN
  have hq : (100 * alS S).tdiv ((exD S / g : Nat) : Int) = (g : Int) := by
    rw [← eD, Int.tdiv_eq_ediv_of_nonneg (by omega), ← Int.natCast_ediv]
    congr 1
    exact Nat.div_eq_of_eq_mul_left hLp (by rw [Nat.mul_comm]; exact hmulD.symm)
  have hr : (100 * alS S).tmod ((exD S / g : Nat) : Int) = 0 := by
    rw [← eD, Int.tmod_eq_emod_of_nonneg (by omega), ← Int.natCast_emod]
    have : exD S % (exD S / g) = 0 := Nat.mod_eq_zero_of_dvd ⟨g, hmulD.symm⟩
    rw [this]; rfl
  have hgle : g ≤ exD S := Nat.le_of_dvd hDpos hgD
  rw [eU, eL]
  generalize exN p S who / g = U at *
  generalize exD S / g = Dg at *
  refine ⟨by omega, by omega, by omega, by omega, hr, by rw [hq]; omega, by rw [hq]; omega, ?_, ⟨hx0, by omega⟩⟩
  rw [hq, ← eN]
  exact_mod_cast hmulN
end Go.Proofs.Ytakodllejndfeaa
