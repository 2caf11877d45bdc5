import Derived.Test.YtmkmnedojgigoaaP5
import Derived.Test.YtmkmnedojgigoaaG3
namespace Go.Proofs.Ytmkmnedojgigoaa

theorem inB_cons (x : Int) (xs : List Int) (k : Int) : inB (x :: xs) k = (x == k || inB xs k) := rfl
theorem inB_iff {xs : List Int} {k : Int} : inB xs k = true ↔ k ∈ xs := by simp [inB]
theorem np_in : ∀ (N : List Int) (b hi k : Int), asc b hi N = true → np N k = np N (k - 1) + (if inB N k then 1 else 0)
  | [], _, _, _, _ => rfl
  | x :: xs, b, hi, k, h => by
    have h' := asc_cons.1 h
    have ih := np_in xs x hi k h'.2
    rw [np_cons, np_cons, inB_cons, ih]
    by_cases e : x = k
    · subst e
      have hz : inB xs x = false := by
        rw [← Bool.not_eq_true, inB_iff]
        intro hm
        have := asc_mem xs x hi h'.2 x hm
        omega
      have e1 : ¬ x ≤ x - 1 := by omega
      rw [hz, np_zero xs x hi (x - 1) h'.2 (by omega), if_pos (Int.le_refl x), if_neg e1]
      simp
    · have e1 : (x == k) = false := by simp [e]
      rw [e1, Bool.false_or]
      have : (if x ≤ k then 1 else 0) = (if x ≤ k - 1 then 1 else 0 : Nat) := by
        by_cases h1 : x ≤ k
        · rw [if_pos h1, if_pos (by omega)]
        · rw [if_neg h1, if_neg (by omega)]
      omega
theorem np_all : ∀ (N : List Int) (b hi : Int), asc b hi N = true → np N hi = N.length
  | [], _, _, _ => rfl
  | x :: xs, b, hi, h => by
    have h' := asc_cons.1 h
    rw [np_cons, np_all xs x hi h'.2, if_pos h'.1.2, List.length_cons]; omega

theorem mod_one {R q : Nat} (hR : 1 ≤ R) : (q + 1) % R = if q % R + 1 = R then 0 else q % R + 1 := by
  have hlt := Nat.mod_lt q hR
  by_cases e : R = 1
  · subst e
    rw [if_pos (by omega)]
    omega
  · rw [Nat.add_mod, Nat.mod_eq_of_lt (show 1 < R by omega)]
    by_cases h : q % R + 1 = R
    · rw [if_pos h, h, Nat.mod_self]
    · rw [if_neg h, Nat.mod_eq_of_lt (by omega)]
theorem fs_one {R : Nat} {N C : List Int} (hv : Vw R N C) (q : Nat) : fs R N (q + 1) = fs R N q + (if inB N (((q % R : Nat) : Int) + 1) then 1 else 0) := by
  have hR := hv.r1
  have hlt := Nat.mod_lt q hR
  have hi := np_in N 0 R (((q % R : Nat) : Int) + 1) hv.ascN
  rw [show (((q % R : Nat) : Int) + 1 - 1) = ((q % R : Nat) : Int) by omega] at hi
  unfold fs
  by_cases h : q % R + 1 = R
  · have h1 : (q + 1) % R = 0 := by rw [mod_one hR, if_pos h]
    have h2 : (q + 1) / R = q / R + 1 := by
      have := Nat.div_add_mod q R; have h4 := Nat.div_add_mod (q + 1) R
      rw [h1] at h4
      have : R * ((q + 1) / R) = R * (q / R + 1) := by rw [Nat.mul_add, Nat.mul_one]; omega
      exact Nat.eq_of_mul_eq_mul_left hR this
    have hz : np N ((0 : Nat) : Int) = 0 := np_zero N 0 R 0 hv.ascN (by omega)
    have ha := np_all N 0 R hv.ascN
    rw [show (((q % R : Nat) : Int) + 1) = (R : Int) by omega] at hi ⊢
    rw [h1, h2, hz, Nat.add_mul]
    omega
  · have h1 : (q + 1) % R = q % R + 1 := by rw [mod_one hR, if_neg h]
    have h2 : (q + 1) / R = q / R := by
      have := Nat.div_add_mod q R; have h4 := Nat.div_add_mod (q + 1) R
      rw [h1] at h4
      have : R * ((q + 1) / R) = R * (q / R) := by omega
      exact Nat.eq_of_mul_eq_mul_left hR this
    rw [h1, h2, show ((q % R + 1 : Nat) : Int) = ((q % R : Nat) : Int) + 1 by omega, hi]
    omega
theorem gv_one {R : Nat} {N C : List Int} (hv : Vw R N C) (p i : Nat) : gv R N p (i + 1) = gv R N p i + (if inB N ((((p + i) % R : Nat) : Int) + 1) then 1 else 0) := by
  have h := fs_one hv (p + i)
  have hm := fs_mono hv (show p ≤ p + i by omega)
  unfold gv
  rw [← Nat.add_assoc, h]
  omega
end Go.Proofs.Ytmkmnedojgigoaa
namespace Go.Proofs.Ytmkmnedojgigoaa

theorem gv_le_c {R : Nat} {N C : List Int} (hv : Vw R N C) (p : Nat) : ∀ c, gv R N p c ≤ c
  | 0 => by simp [gv]
  | c + 1 => by
    have h := gv_one hv p c
    have := gv_le_c hv p c
    split at h <;> omega
theorem gv_zero (R : Nat) (N : List Int) (p : Nat) : gv R N p 0 = 0 := by simp [gv]

/-- What coins of some kinds give, one after the other. -/
def whatS (R : Nat) (N C : List Int) : Nat → List Int → List (Int × Int)
  | _, [] => []
  | p, k :: ks => (k, (gv R N p (cw C k.toNat) : Nat)) :: whatS R N C ((p + cw C k.toNat) % R) ks
theorem whatS_len (R : Nat) (N C : List Int) : ∀ (ks : List Int) (p : Nat), (whatS R N C p ks).length = ks.length
  | [], _ => rfl
  | k :: ks, p => by simp [whatS, whatS_len R N C ks]
theorem whatS_snoc {R : Nat} {N C : List Int} (x : Int) : ∀ (ks : List Int) (p : Nat), p < R → whatS R N C p (ks ++ [x]) = whatS R N C p ks ++ [(x, ((gv R N ((p + tot C ks) % R) (cw C x.toNat) : Nat) : Int))]
  | [], p, h => by simp [whatS, tot, Nat.mod_eq_of_lt h]
  | k :: ks, p, h => by
    have := whatS_snoc (N := N) (C := C) x ks ((p + cw C k.toNat) % R) (Nat.mod_lt _ (by omega))
    rw [List.cons_append, whatS, this, whatS, List.cons_append, tot_cons, Nat.mod_add_mod, Nat.add_assoc]
theorem gave_what (R : Nat) (N C : List Int) : ∀ (ks : List Int) (p : Nat), gaveB R N C p (whatS R N C p ks) = true
  | [], _ => rfl
  | k :: ks, p => by rw [whatS, gaveB, if_pos rfl]; exact gave_what R N C ks _
theorem seen_what {R : Nat} {N C : List Int} (hv : Vw R N C) : ∀ (ks : List Int) (p : Nat), ks.all (isKindB C) = true → (whatS R N C p ks).all (isSeenB C) = true
  | [], _, _ => rfl
  | k :: ks, p, h => by
    rw [List.all_cons, Bool.and_eq_true] at h
    obtain ⟨n, rfl, hn⟩ := kind_nat h.1
    have h1 := gv_le_c hv p (cw C n)
    have h2 := (hv.coin hn).2
    rw [whatS, List.all_cons, seen_what hv ks _ h.2, Bool.and_true, isSeenB, h.1, Bool.true_and, inR_iff, Int.toNat_natCast]
    dsimp only
    omega
theorem totS_what (R : Nat) (N C : List Int) : ∀ (ks : List Int) (p : Nat), totS C (whatS R N C p ks) = tot C ks
  | [], _ => rfl
  | k :: ks, p => by rw [whatS, totS_cons, tot_cons, totS_what R N C ks]
theorem bef_iff (R : Nat) (N C : List Int) (xs : List (Int × Int)) (x : Int) : ∀ n, x ∈ bef R N C xs n ↔ ∃ q : Nat, q < n ∧ x = q ∧ gaveB R N C q xs = true
  | 0 => by simp [bef]
  | n + 1 => by
    have ih := bef_iff R N C xs x n
    unfold bef
    constructor
    · intro h
      split at h
      · rename_i hg
        rcases List.mem_append.1 h with h | h
        · obtain ⟨q, h1, h2⟩ := ih.1 h
          exact ⟨q, by omega, h2⟩
        · exact ⟨n, by omega, by simpa using h, hg⟩
      · obtain ⟨q, h1, h2⟩ := ih.1 h
        exact ⟨q, by omega, h2⟩
    · rintro ⟨q, h1, h2, h3⟩
      by_cases e : q = n
      · subst e
        rw [if_pos h3]
        simp [h2]
      · have := ih.2 ⟨q, by omega, h2, h3⟩
        split
        · exact List.mem_append_left _ this
        · exact this
theorem bef_all (R : Nat) (N C : List Int) : ∀ n, (bef R N C [] n).length = n
  | 0 => rfl
  | n + 1 => by rw [bef, if_pos (show gaveB R N C n [] = true from rfl), List.length_append, bef_all R N C n]; rfl
theorem gave_pre (R : Nat) (N C : List Int) : ∀ (xs ys : List (Int × Int)) (p : Nat), gaveB R N C p (xs ++ ys) = true → gaveB R N C p xs = true
  | [], _, _, _ => rfl
  | x :: xs, ys, p, h => by
    rw [List.cons_append, gaveB] at h
    rw [gaveB]
    split at h
    · rename_i e
      rw [if_pos e]
      exact gave_pre R N C xs ys _ h
    · cases h
theorem bef_pre {R : Nat} {N C : List Int} {xs : List (Int × Int)} {k n : Nat} {x : Int} (h : x ∈ bef R N C xs n) : x ∈ bef R N C (xs.take k) n := by
  obtain ⟨q, h1, h2, h3⟩ := (bef_iff R N C xs x n).1 h
  exact (bef_iff R N C _ x n).2 ⟨q, h1, h2, gave_pre R N C _ (xs.drop k) q (by rw [List.take_append_drop]; exact h3)⟩
theorem bhd_len (R c : Nat) (ps : List Int) : (bhd R c ps).length = ps.length := by simp [bhd]
theorem bhd_has {R c p : Nat} {ps : List Int} (h : (p : Int) ∈ ps) : (((p + c) % R : Nat) : Int) ∈ bhd R c ps := by
  simp only [bhd, List.mem_map]
  exact ⟨p, h, by simp⟩
end Go.Proofs.Ytmkmnedojgigoaa
namespace Go.Proofs.Ytmkmnedojgigoaa

/-- The numbers below n that are in D. -/
def nowL (D : List Int) : Nat → List Int
  | 0 => []
  | n + 1 => if inB D (n : Int) then nowL D n ++ [(n : Int)] else nowL D n
theorem nowL_len (D : List Int) : ∀ n, (nowL D n).length ≤ n
  | 0 => Nat.le_refl _
  | n + 1 => by
    have := nowL_len D n
    unfold nowL
    split
    · simp; omega
    · omega
theorem nowL_iff (D : List Int) (x : Int) : ∀ n, x ∈ nowL D n ↔ (∃ q : Nat, q < n ∧ x = q) ∧ x ∈ D
  | 0 => by simp [nowL]
  | n + 1 => by
    have ih := nowL_iff D x n
    unfold nowL
    constructor
    · intro h
      split at h
      · rename_i hg
        rcases List.mem_append.1 h with h | h
        · obtain ⟨⟨q, h1, h2⟩, h3⟩ := ih.1 h
          exact ⟨⟨q, by omega, h2⟩, h3⟩
        · have hx : x = (n : Int) := by simpa using h
          exact ⟨⟨n, by omega, hx⟩, by rw [hx]; exact inB_iff.1 hg⟩
      · obtain ⟨⟨q, h1, h2⟩, h3⟩ := ih.1 h
        exact ⟨⟨q, by omega, h2⟩, h3⟩
    · rintro ⟨⟨q, h1, h2⟩, h3⟩
      by_cases e : q = n
      · subst e
        rw [if_pos (inB_iff.2 (h2 ▸ h3))]
        simp [h2]
      · have := ih.2 ⟨⟨q, by omega, h2⟩, h3⟩
        split
        · exact List.mem_append_left _ this
        · exact this
theorem nowL_lt (D : List Int) : ∀ n, (nowL D n).Pairwise (fun a b => a < b)
  | 0 => List.Pairwise.nil
  | n + 1 => by
    have ih := nowL_lt D n
    unfold nowL
    split
    · refine List.pairwise_append.2 ⟨ih, List.pairwise_singleton _ _, fun a ha b hb => ?_⟩
      obtain ⟨⟨q, h1, h2⟩, _⟩ := (nowL_iff D a n).1 ha
      have : b = (n : Int) := by simpa using hb
      omega
    · exact ih
theorem nowL_srt {D : List Int} {R : Nat} (hnd : D.Nodup) (hr : ∀ x ∈ D, 0 ≤ x ∧ x < R) : nowL D R = srt D := by
  have hlt := nowL_lt D R
  refine List.Perm.eq_of_pairwise (le := fun a b => a ≤ b) (fun a b _ _ h1 h2 => Int.le_antisymm h1 h2) (hlt.imp (fun h => Int.le_of_lt h)) ?_ ?_
  · have := List.pairwise_mergeSort (le := fun x y : Int => decide (x ≤ y)) (by intro a b c; simp; omega) (by intro a b; simp; omega) D
    exact this.imp (fun h => by simpa using h)
  · refine List.Perm.trans ?_ (List.mergeSort_perm D _).symm
    refine (List.perm_ext_iff_of_nodup (hlt.imp (fun h => Int.ne_of_lt h)) hnd).2 (fun x => ?_)
    rw [nowL_iff]
    constructor
    · exact fun h => h.2
    · intro h
      have := hr x h
      exact ⟨⟨x.toNat, by omega, by omega⟩, h⟩
theorem bef_lt (R : Nat) (N C : List Int) (xs : List (Int × Int)) : ∀ n, (bef R N C xs n).Pairwise (fun a b => a < b)
  | 0 => List.Pairwise.nil
  | n + 1 => by
    have ih := bef_lt R N C xs n
    unfold bef
    split
    · refine List.pairwise_append.2 ⟨ih, List.pairwise_singleton _ _, fun a ha b hb => ?_⟩
      obtain ⟨q, h1, h2, _⟩ := (bef_iff R N C xs a n).1 ha
      have : b = (n : Int) := by simpa using hb
      omega
    · exact ih
theorem mod_inj {R c a b : Nat} (ha : a < R) (hb : b < R) (h : (a + c) % R = (b + c) % R) : a = b := by
  rw [Nat.add_mod, Nat.add_mod b] at h
  rw [Nat.mod_eq_of_lt ha, Nat.mod_eq_of_lt hb] at h
  have hd := Nat.mod_lt c (show 0 < R by omega)
  generalize c % R = d at *
  have e : ∀ x, x < R → (x + d) % R = if x + d < R then x + d else x + d - R := fun x hx => by
    split
    · exact Nat.mod_eq_of_lt (by assumption)
    · rw [Nat.mod_eq_sub_mod (by omega), Nat.mod_eq_of_lt (by omega)]
  rw [e a ha, e b hb] at h
  split at h <;> split at h <;> omega
theorem bhd_nodup (R : Nat) (N C : List Int) (xs : List (Int × Int)) (c : Nat) : (bhd R c (bef R N C xs R)).Nodup := by
  unfold bhd
  refine List.pairwise_map.2 ?_
  refine List.Pairwise.imp_of_mem ?_ (bef_lt R N C xs R)
  intro a b ha hb hab h
  obtain ⟨q, h1, h2, _⟩ := (bef_iff R N C xs a R).1 ha
  obtain ⟨q', h1', h2', _⟩ := (bef_iff R N C xs b R).1 hb
  subst h2
  subst h2'
  rw [Int.toNat_natCast, Int.toNat_natCast, Int.natCast_inj] at h
  have := mod_inj h1 h1' h
  omega
end Go.Proofs.Ytmkmnedojgigoaa
