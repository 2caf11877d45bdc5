import Derived.Test.YtakodllejndfeaaM1
import Derived.Sort.LotA
/-! Shares: rounded down, then a cent more for the greatest rests. -/
namespace Go.Proofs.Ytakodllejndfeaa
set_option linter.unusedSimpArgs false
set_option linter.unusedVariables false

def flV (P : Int) (E : List Int) (A i : Int) : Int := P * E.getD i.toNat 0 / A
def rsV (P : Int) (E : List Int) (A i : Int) : Int := P * E.getD i.toNat 0 % A
/-- i comes before j: it has the greater rest, or the same one and the lesser number. -/
def ltV (P : Int) (E : List Int) (A i j : Int) : Bool := decide (rsV P E A j < rsV P E A i) || (decide (rsV P E A i = rsV P E A j) && decide (i < j))
def rankV (P : Int) (E : List Int) (A : Int) (n : Nat) (i : Int) : Nat := ((List.range n).map fun j : Nat => (j : Int)).countP fun j => ltV P E A j i
def flL (P : Int) (E : List Int) (A : Int) (n : Nat) : List Int := (List.range n).map fun i => flV P E A (i : Nat)
def leftV (P : Int) (E : List Int) (A : Int) (n : Nat) : Int := P - sumR n fun i => flV P E A (i : Nat)
/-- The shares of n writers, whose claims are E, A together, of a pool P. -/
def shV (P : Int) (E : List Int) (A : Int) (n : Nat) (i : Int) : Int := flV P E A i + if (rankV P E A n i : Int) < leftV P E A n then 1 else 0
def shL (P : Int) (E : List Int) (A : Int) (n : Nat) : List Int := (List.range n).map fun i => shV P E A n (i : Nat)

theorem ltV_iff {P : Int} {E : List Int} {A i j : Int} : ltV P E A i j = true ↔ rsV P E A j < rsV P E A i ∨ (rsV P E A i = rsV P E A j ∧ i < j) := by simp [ltV]
theorem ltV_irr {P : Int} {E : List Int} {A i : Int} : ltV P E A i i = false := by
  rw [← Bool.not_eq_true, ltV_iff]; omega
theorem ltV_tot {P : Int} {E : List Int} {A i j : Int} (h : i ≠ j) : ltV P E A i j = true ∨ ltV P E A j i = true := by
  rw [ltV_iff, ltV_iff]; omega
theorem ltV_swo (P : Int) (E : List Int) (A : Int) : Go.Sort.SWO (ltV P E A) where
  irrefl x := ltV_irr
  trans x y z := by rw [ltV_iff, ltV_iff, ltV_iff]; omega
  ntrans x y z := by rw [← Bool.not_eq_true, ← Bool.not_eq_true, ← Bool.not_eq_true, ltV_iff, ltV_iff, ltV_iff]; omega

def idxL (n : Nat) : List Int := (List.range n).map fun j : Nat => (j : Int)
theorem mem_idxL {n : Nat} {x : Int} : x ∈ idxL n ↔ 0 ≤ x ∧ x < (n : Int) := by
  simp only [idxL, List.mem_map, List.mem_range]
  constructor
  · rintro ⟨i, hi, rfl⟩; omega
  · intro h; exact ⟨x.toNat, by omega, by omega⟩
theorem idxL_nodup (n : Nat) : (idxL n).Nodup := by
  rw [idxL, List.Nodup, List.pairwise_map]
  exact List.nodup_range.imp fun h e => h (by omega)
theorem nodup_inj {W : List Int} (h : W.Nodup) {i j : Nat} (hi : i < W.length) (hj : j < W.length) (e : W[i] = W[j]) : i = j := by
  have hp := List.pairwise_iff_getElem.1 h
  rcases Nat.lt_trichotomy i j with h1 | h1 | h1
  · exact absurd e (hp i j hi hj h1)
  · exact h1
  · exact absurd e.symm (hp j i hj hi h1)
/-- All writers, by their order. -/
structure Ord (P : Int) (E : List Int) (A : Int) (n : Nat) (W : List Int) : Prop where
  perm : W.Perm (idxL n)
  srt : ∀ i j (h : i < j) (h2 : j < W.length), ltV P E A W[j] (W[i]'(by omega)) = false
theorem Ord.len {P : Int} {E : List Int} {A : Int} {n : Nat} {W : List Int} (h : Ord P E A n W) : W.length = n := by
  rw [h.perm.length_eq]; simp [idxL]
theorem Ord.nodup {P : Int} {E : List Int} {A : Int} {n : Nat} {W : List Int} (h : Ord P E A n W) : W.Nodup := h.perm.symm.nodup (idxL_nodup n)
theorem Ord.rng {P : Int} {E : List Int} {A : Int} {n : Nat} {W : List Int} (h : Ord P E A n W) : ∀ x ∈ W, 0 ≤ x ∧ x < (n : Int) := fun x hx => mem_idxL.1 (h.perm.mem_iff.1 hx)
theorem Ord.lt {P : Int} {E : List Int} {A : Int} {n : Nat} {W : List Int} (h : Ord P E A n W) {i j : Nat} (hij : i < j) (hj : j < W.length) : ltV P E A (W[i]'(by omega)) W[j] = true := by
  have h1 := h.srt i j hij hj
  have h2 : W[i]'(by omega) ≠ W[j] := fun e => by
    have := nodup_inj h.nodup (by omega) hj e
    omega
  rcases ltV_tot (P := P) (E := E) (A := A) h2 with h3 | h3
  · exact h3
  · rw [h1] at h3; cases h3
/-- The k-th in order has the rank k. -/
theorem Ord.rank {P : Int} {E : List Int} {A : Int} {n : Nat} {W : List Int} (h : Ord P E A n W) {k : Nat} (hk : k < W.length) : rankV P E A n W[k] = k := by
  unfold rankV
  rw [show ((List.range n).map fun j : Nat => (j : Int)) = idxL n from rfl, ← h.perm.countP_eq]
  have e : W = W.take k ++ W.drop k := (List.take_append_drop k W).symm
  obtain ⟨x, hx⟩ : ∃ x, x = W[k] := ⟨_, rfl⟩
  rw [← hx]
  have h1 : (W.take k).countP (fun j => ltV P E A j x) = k := by
    rw [List.countP_eq_length.2]
    · rw [List.length_take]; omega
    · intro y hy
      obtain ⟨i, hi, rfl⟩ := List.mem_iff_getElem.1 hy
      rw [List.length_take] at hi
      rw [List.getElem_take, hx]
      exact h.lt (by omega) hk
  have h2 : (W.drop k).countP (fun j => ltV P E A j x) = 0 := by
    rw [List.countP_eq_zero]
    intro y hy
    obtain ⟨i, hi, rfl⟩ := List.mem_iff_getElem.1 hy
    rw [List.length_drop] at hi
    rw [List.getElem_drop, hx]
    rcases Nat.eq_zero_or_pos i with rfl | h0
    · have e0 : W[k + 0] = W[k] := rfl
      rw [e0, ltV_irr]; simp
    · rw [h.srt k (k + i) (by omega) (by omega)]; simp
  rw [e, List.countP_append, h1, h2, Nat.add_zero]
theorem Ord.mem_take {P : Int} {E : List Int} {A : Int} {n : Nat} {W : List Int} (h : Ord P E A n W) {i : Int} (hi : 0 ≤ i ∧ i < (n : Int)) (k : Nat) : i ∈ W.take k ↔ rankV P E A n i < k := by
  have hm : i ∈ W := h.perm.mem_iff.2 (mem_idxL.2 hi)
  obtain ⟨j, hj, rfl⟩ := List.mem_iff_getElem.1 hm
  rw [h.rank hj]
  constructor
  · intro hh
    obtain ⟨q, hq, e⟩ := List.mem_iff_getElem.1 hh
    rw [List.length_take] at hq
    rw [List.getElem_take] at e
    have := nodup_inj h.nodup (by omega) hj e
    omega
  · intro hh
    exact List.mem_iff_getElem.2 ⟨j, by rw [List.length_take]; omega, by rw [List.getElem_take]⟩
/-- There is such an order. -/
theorem ord_ex (P : Int) (E : List Int) (A : Int) (n : Nat) : ∃ W, Ord P E A n W := by
  have h := Go.Sort.insertionSort_holds (ltV_swo P E A) (idxL n).toArray 0 n (Nat.zero_le _) (by simp [idxL])
  obtain ⟨W, hW⟩ : ∃ W, W = Go.Sort.insertionSort (ltV P E A) (idxL n).toArray 0 n := ⟨_, rfl⟩
  rw [← hW] at h
  obtain ⟨⟨h1, _, h3⟩, h4⟩ := h
  have hs : W.size = n := by rw [h1]; simp [idxL]
  refine ⟨W.toList, ?_, ?_⟩
  · have e1 : (W.extract 0 n).toList = W.toList := by rw [← hs]; simp
    have e2 : ((idxL n).toArray.extract 0 n).toList = idxL n := by
      have hl : (idxL n).length = n := by simp [idxL]
      rw [Array.toList_extract, List.extract_eq_take_drop, List.drop_zero, Nat.sub_zero, List.take_of_length_le (Nat.le_of_eq hl)]
    rw [e1, e2] at h3
    exact h3
  · intro i j hij hj
    have hj' : j < W.size := by simpa using hj
    have := h4 i j (Nat.zero_le _) hij (by omega)
    rw [getElem!_pos W i (by omega), getElem!_pos W j hj'] at this
    simpa using this

theorem perm_sum {l m : List Int} (h : l.Perm m) : l.sum = m.sum := by
  induction h with
  | nil => rfl
  | cons x _ ih => rw [List.sum_cons, List.sum_cons, ih]
  | swap x y l => simp only [List.sum_cons]; omega
  | trans _ _ i1 i2 => exact i1.trans i2
/-- Sums over ranks. -/
theorem rank_sum (P : Int) (E : List Int) (A : Int) (n : Nat) (f : Nat → Int) : sumR n (fun i => f (rankV P E A n (i : Nat))) = sumR n f := by
  obtain ⟨W, h⟩ := ord_ex P E A n
  have e1 : sumR n (fun i => f (rankV P E A n (i : Nat))) = ((idxL n).map fun i => f (rankV P E A n i)).sum := by
    unfold sumR idxL; rw [List.map_map]; rfl
  rw [e1, ← perm_sum (h.perm.map fun i => f (rankV P E A n i))]
  unfold sumR
  congr 1
  apply List.ext_getElem
  · simp [h.len]
  · intro i h1 h2
    simp only [List.getElem_map, List.getElem_range]
    rw [h.rank]
theorem sum_below (n : Nat) (l : Int) (h0 : 0 ≤ l) (hl : l ≤ n) : sumR n (fun k => if (k : Int) < l then 1 else 0) = l := by
  induction n generalizing l with
  | zero => have : l = 0 := by omega
            rw [this]; rfl
  | succ n ih =>
    rw [sumR_succ]
    by_cases e : l = ((n + 1 : Nat) : Int)
    · have h1 := ih (n : Int) (by omega) (by omega)
      rw [if_pos (by omega), sumR_congr (g := fun k => if (k : Int) < (n : Int) then 1 else 0) (fun i hi => by rw [if_pos (by omega), if_pos (by omega)]), h1]; omega
    · rw [if_neg (by omega), ih l h0 (by omega)]; omega

/-- What claims are. -/
structure COk (P : Int) (E : List Int) (A : Int) (n : Nat) : Prop where
  p0 : 0 ≤ P
  a0 : 0 < A
  e0 : ∀ i : Nat, i < n → 0 ≤ E.getD i 0
  sum : sumR n (fun i => E.getD i 0) = A
section
variable {P : Int} {E : List Int} {A : Int} {n : Nat}
theorem rsV_rng (h : COk P E A n) (i : Int) : 0 ≤ rsV P E A i ∧ rsV P E A i < A :=
  ⟨Int.emod_nonneg _ (by have := h.a0; omega), Int.emod_lt_of_pos _ h.a0⟩
theorem fl_rs (P : Int) (E : List Int) (A i : Int) : A * flV P E A i + rsV P E A i = P * E.getD i.toNat 0 := Int.mul_ediv_add_emod _ _
theorem flV_nn (h : COk P E A n) {i : Nat} (hi : i < n) : 0 ≤ flV P E A (i : Nat) := by
  unfold flV
  rw [Int.toNat_natCast]
  exact Int.ediv_nonneg (Int.mul_nonneg h.p0 (h.e0 i hi)) (by have := h.a0; omega)
theorem left_rs (h : COk P E A n) : A * leftV P E A n = sumR n fun i => rsV P E A (i : Nat) := by
  have h1 := sumR_congr (n := n) (f := fun i => A * flV P E A (i : Nat) + rsV P E A (i : Nat)) (g := fun i => P * E.getD i 0) (fun i _ => by
    have := fl_rs P E A (i : Nat)
    rw [Int.toNat_natCast] at this
    exact this)
  rw [sumR_add, sumR_mul, sumR_mul, h.sum] at h1
  unfold leftV
  rw [Int.mul_sub, Int.mul_comm A P]
  omega
/-- How many writers have a rest. -/
def restsN (P : Int) (E : List Int) (A : Int) (n : Nat) : Int := sumR n fun i => if 0 < rsV P E A (i : Nat) then 1 else 0
theorem restsN_le (P : Int) (E : List Int) (A : Int) (n : Nat) : restsN P E A n ≤ n := by
  unfold restsN
  induction n with
  | zero => exact Int.le_refl _
  | succ n ih => rw [sumR_succ]; split <;> omega
theorem left_rng (h : COk P E A n) : 0 ≤ leftV P E A n ∧ leftV P E A n ≤ restsN P E A n := by
  have h1 := left_rs h
  have ha := h.a0
  have h2 : 0 ≤ sumR n fun i => rsV P E A (i : Nat) := by
    have := sumR_mono (n := n) (f := fun _ => 0) (g := fun i => rsV P E A (i : Nat)) (fun i _ => (rsV_rng h i).1)
    rw [sumR_zero] at this
    exact this
  have h3 : (sumR n fun i => rsV P E A (i : Nat)) ≤ A * restsN P E A n := by
    unfold restsN
    rw [← sumR_mul]
    refine sumR_mono fun i _ => ?_
    have := rsV_rng h i
    split <;> omega
  constructor
  · rcases (by omega : leftV P E A n < 0 ∨ 0 ≤ leftV P E A n) with hl | hl
    · have := Int.mul_neg_of_pos_of_neg ha hl
      omega
    · exact hl
  · rw [← h1] at h3
    exact Int.le_of_mul_le_mul_left h3 ha
theorem left_n (h : COk P E A n) : 0 ≤ leftV P E A n ∧ leftV P E A n ≤ n := ⟨(left_rng h).1, Int.le_trans (left_rng h).2 (restsN_le _ _ _ _)⟩
theorem shL_len (P : Int) (E : List Int) (A : Int) (n : Nat) : (shL P E A n).length = n := by simp [shL]
theorem shL_get (P : Int) (E : List Int) (A : Int) {n i : Nat} (h : i < n) : (shL P E A n)[i]? = some (shV P E A n (i : Nat)) := by simp [shL, h]
/-- The shares are the pool together. -/
theorem sh_sum (h : COk P E A n) : sumR n (fun i => shV P E A n (i : Nat)) = P := by
  unfold shV
  rw [sumR_add, rank_sum P E A n (fun k => if (k : Int) < leftV P E A n then 1 else 0), sum_below n _ (left_n h).1 (left_n h).2]
  unfold leftV
  omega
theorem shV_rng (i : Int) : flV P E A i ≤ shV P E A n i ∧ shV P E A n i ≤ flV P E A i + 1 := by
  unfold shV; split <;> omega
theorem rank_mono {i k : Int} (h : ltV P E A k i = true) : rankV P E A n k < rankV P E A n i ∨ ¬ (0 ≤ k ∧ k < (n : Int)) := by
  by_cases hk : 0 ≤ k ∧ k < (n : Int)
  · left
    unfold rankV
    rw [List.countP_eq_length_filter, List.countP_eq_length_filter]
    have hsub : ((idxL n).filter fun j => ltV P E A j k).length < ((idxL n).filter fun j => ltV P E A j i).length := by
      have hall : ∀ (l : List Int), (∀ j, ltV P E A j k = true → ltV P E A j i = true) → k ∈ l → (l.filter fun j => ltV P E A j k).length < (l.filter fun j => ltV P E A j i).length := by
        intro l hj
        have hle : ∀ (l : List Int), (l.filter fun j => ltV P E A j k).length ≤ (l.filter fun j => ltV P E A j i).length := by
          intro l
          induction l with
          | nil => exact Nat.le_refl _
          | cons x l ih =>
            rw [List.filter_cons, List.filter_cons]
            split
            · rename_i hx
              rw [if_pos (hj x hx)]; simp only [List.length_cons]; omega
            · split <;> (try simp only [List.length_cons]) <;> omega
        induction l with
        | nil => intro hm; simp at hm
        | cons x l ih =>
          intro hm
          rw [List.filter_cons, List.filter_cons]
          by_cases e : x = k
          · subst e
            rw [if_neg (by rw [ltV_irr]; simp), if_pos h]
            have := hle l
            simp only [List.length_cons]; omega
          · have hm' : k ∈ l := by
              rcases List.mem_cons.1 hm with h | h
              · exact absurd h.symm e
              · exact h
            have := ih hm'
            split
            · rename_i hx
              rw [if_pos (hj x hx)]; simp only [List.length_cons]; omega
            · split <;> (try simp only [List.length_cons]) <;> omega
      exact hall _ (fun j hj => (ltV_swo P E A).trans _ _ _ hj h) (mem_idxL.2 hk)
    exact hsub
  · exact .inr hk
/-- Without a rest there is no cent more. -/
theorem sh_whole (h : COk P E A n) {i : Int} (hr : rsV P E A i = 0) : shV P E A n i = flV P E A i := by
  unfold shV
  have h1 := (left_rng h).2
  have h2 : restsN P E A n ≤ rankV P E A n i := by
    unfold restsN rankV
    have : ∀ m, (sumR m fun j => if 0 < rsV P E A (j : Nat) then (1 : Int) else 0) ≤ (((List.range m).map fun j : Nat => (j : Int)).countP fun j => ltV P E A j i : Nat) := by
      intro m
      induction m with
      | zero => exact Int.le_refl _
      | succ m ih =>
        rw [sumR_succ, List.range_succ, List.map_append, List.countP_append]
        by_cases e : 0 < rsV P E A (m : Nat)
        · rw [if_pos e]
          have : ltV P E A (m : Nat) i = true := by rw [ltV_iff]; omega
          rw [List.map_singleton, List.countP_cons_of_pos (p := fun j => ltV P E A j i) this, List.countP_nil]; omega
        · rw [if_neg e]; omega
    exact this n
  rw [if_neg (by omega)]; omega
/-- A greater exact part has no lesser share. -/
theorem sh_mono (h : COk P E A n) {i k : Nat} (hi : i < n) (hk : k < n) (hgt : P * E.getD i 0 < P * E.getD k 0) : shV P E A n (i : Nat) ≤ shV P E A n (k : Nat) := by
  have a0 := h.a0
  have f1 := fl_rs P E A (i : Nat)
  have f2 := fl_rs P E A (k : Nat)
  rw [Int.toNat_natCast] at f1 f2
  have r1 := rsV_rng h (i : Nat)
  have r2 := rsV_rng h (k : Nat)
  have s1 := shV_rng (P := P) (E := E) (A := A) (n := n) (i : Nat)
  have s2 := shV_rng (P := P) (E := E) (A := A) (n := n) (k : Nat)
  have hle : flV P E A (i : Nat) ≤ flV P E A (k : Nat) := by
    unfold flV; rw [Int.toNat_natCast, Int.toNat_natCast]
    exact Int.ediv_le_ediv a0 (by omega)
  rcases Int.lt_or_eq_of_le hle with hl | he
  · omega
  · have hl : ltV P E A (k : Nat) (i : Nat) = true := by
      rw [ltV_iff]; left
      rw [he] at f1; omega
    unfold shV
    rcases rank_mono (n := n) hl with h3 | h3
    · rw [he]
      split <;> split <;> omega
    · omega
end

/-- What one adds to the cents, after k writers. -/
def shK (P : Int) (E : List Int) (A : Int) (n : Nat) (W : List Int) (k : Nat) : List Int := (List.range n).map fun i => flV P E A (i : Nat) + if (i : Int) ∈ W.take k then 1 else 0
theorem shK_zero (P : Int) (E : List Int) (A : Int) (n : Nat) (W : List Int) : shK P E A n W 0 = flL P E A n := by
  unfold shK flL; simp
theorem shK_at (P : Int) (E : List Int) (A : Int) {n : Nat} (W : List Int) (k : Nat) {i : Nat} (hi : i < n) : (shK P E A n W k)[i]? = some (flV P E A (i : Nat) + if (i : Int) ∈ W.take k then 1 else 0) := by
  unfold shK; simp [hi]
theorem shK_len (P : Int) (E : List Int) (A : Int) (n : Nat) (W : List Int) (k : Nat) : (shK P E A n W k).length = n := by simp [shK]
theorem shK_succ {P : Int} {E : List Int} {A : Int} {n : Nat} {W : List Int} (h : Ord P E A n W) {k : Nat} {x : Nat} (hx : W[k]? = some (x : Int)) :
    (x : Nat) < n ∧ (shK P E A n W k)[x]? = some (flV P E A (x : Nat)) ∧ (shK P E A n W k).set x (flV P E A (x : Nat) + 1) = shK P E A n W (k + 1) := by
  have hk : k < W.length := (List.getElem?_eq_some_iff.1 hx).1
  have he : W[k] = (x : Int) := (List.getElem?_eq_some_iff.1 hx).2
  have hr := h.rng _ (List.mem_of_getElem? hx)
  have hxn : x < n := by omega
  have hnot : (x : Int) ∉ W.take k := by
    rw [h.mem_take hr, ← he, h.rank hk]; omega
  have hin : (x : Int) ∈ W.take (k + 1) := by
    rw [h.mem_take hr, ← he, h.rank hk]; omega
  refine ⟨hxn, by rw [shK_at P E A W k hxn, if_neg hnot]; simp, ?_⟩
  apply List.ext_getElem?
  intro i
  rw [List.getElem?_set]
  by_cases hi : i < n
  · rw [shK_at P E A W (k + 1) hi, shK_at P E A W k hi, shK_len]
    by_cases e : x = i
    · subst e
      rw [if_pos rfl, if_pos hxn, if_pos hin]
    · rw [if_neg e]
      have hri : 0 ≤ (i : Int) ∧ (i : Int) < (n : Int) := by omega
      have : ((i : Int) ∈ W.take k ↔ (i : Int) ∈ W.take (k + 1)) := by
        rw [List.take_add_one, hx]
        simp only [Option.toList_some, List.mem_append, List.mem_singleton]
        constructor
        · exact .inl
        · rintro (h | h)
          · exact h
          · exact absurd (by omega : x = i) e
      by_cases h2 : (i : Int) ∈ W.take k
      · rw [if_pos h2, if_pos (this.1 h2)]
      · rw [if_neg h2, if_neg (fun h3 => h2 (this.2 h3))]
  · rw [List.getElem?_eq_none (by rw [shK_len]; omega), List.getElem?_eq_none (by rw [shK_len]; omega)]
    split
    · rw [if_neg (by rw [shK_len]; omega)]
    · rfl
theorem shK_end {P : Int} {E : List Int} {A : Int} {n : Nat} {W : List Int} (hC : COk P E A n) (h : Ord P E A n W) {k : Nat} (hk : (k : Int) = leftV P E A n) : shK P E A n W k = shL P E A n := by
  apply List.ext_getElem?
  intro i
  by_cases hi : i < n
  · rw [shK_at P E A W k hi, shL_get P E A hi]
    unfold shV
    have := h.mem_take (i := (i : Int)) (by omega) k
    by_cases h2 : (i : Int) ∈ W.take k
    · rw [if_pos h2, if_pos (by have := this.1 h2; omega)]
    · rw [if_neg h2, if_neg (fun h3 => h2 (this.2 (by omega)))]
  · rw [List.getElem?_eq_none (by rw [shK_len]; omega), List.getElem?_eq_none (by rw [shL_len]; omega)]
end Go.Proofs.Ytakodllejndfeaa
