import Derived.Test.YtmkmnedojgigoaaP5
namespace Go.Proofs.Ytmkmnedojgigoaa

theorem inB_cons (x : Int) (xs : List Int) (k : Int) : inB (x :: xs) k = (x == k || inB xs k) := rfl
theorem inB_iff {xs : List Int} {k : Int} : inB xs k = true ↔ k ∈ xs := by simp [inB]
theorem np_in : ∀ (N : List Int) (b hi k : Int), asc b hi N = true → np N k = np N (k - 1) + (if inB N k then 1 else 0)
  | [], _, _, _, _ => rfl
  | x :: xs, b, hi, k, h => by
    have h' := asc_cons.1 h
    have ih := np_in xs x hi k h'.2
    rw [np_cons, np_cons, inB_cons, ih]
    by_cases e : x = k
    · subst e
      have hz : inB xs x = false := by
        rw [← Bool.not_eq_true, inB_iff]
        intro hm
        have := asc_mem xs x hi h'.2 x hm
        omega
      have e1 : ¬ x ≤ x - 1 := by omega
      rw [hz, np_zero xs x hi (x - 1) h'.2 (by omega), if_pos (Int.le_refl x), if_neg e1]
      simp
    · have e1 : (x == k) = false := by simp [e]
      rw [e1, Bool.false_or]
      have : (if x ≤ k then 1 else 0) = (if x ≤ k - 1 then 1 else 0 : Nat) := by
        by_cases h1 : x ≤ k
        · rw [if_pos h1, if_pos (by omega)]
        · rw [if_neg h1, if_neg (by omega)]
      omega
theorem np_all : ∀ (N : List Int) (b hi : Int), asc b hi N = true → np N hi = N.length
  | [], _, _, _ => rfl
  | x :: xs, b, hi, h => by
    have h' := asc_cons.1 h
    rw [np_cons, np_all xs x hi h'.2, if_pos h'.1.2, List.length_cons]; omega

theorem mod_one {R q : Nat} (hR : 1 ≤ R) : (q + 1) % R = if q % R + 1 = R then 0 else q % R + 1 := by
  have hlt := Nat.mod_lt q hR
  by_cases e : R = 1
  · subst e
    rw [if_pos (by omega)]
    omega
  · rw [Nat.add_mod, Nat.mod_eq_of_lt (show 1 < R by omega)]
    by_cases h : q % R + 1 = R
    · rw [if_pos h, h, Nat.mod_self]
    · rw [if_neg h, Nat.mod_eq_of_lt (by omega)]
theorem fs_one {R : Nat} {N C : List Int} (hv : Vw R N C) (q : Nat) : fs R N (q + 1) = fs R N q + (if inB N (((q % R : Nat) : Int) + 1) then 1 else 0) := by
  have hR := hv.r1
  have hlt := Nat.mod_lt q hR
  have hi := np_in N 0 R (((q % R : Nat) : Int) + 1) hv.ascN
  rw [show (((q % R : Nat) : Int) + 1 - 1) = ((q % R : Nat) : Int) by omega] at hi
  unfold fs
  by_cases h : q % R + 1 = R
  · have h1 : (q + 1) % R = 0 := by rw [mod_one hR, if_pos h]
    have h2 : (q + 1) / R = q / R + 1 := by
      have := Nat.div_add_mod q R; have h4 := Nat.div_add_mod (q + 1) R
      rw [h1] at h4
      have : R * ((q + 1) / R) = R * (q / R + 1) := by rw [Nat.mul_add, Nat.mul_one]; omega
      exact Nat.eq_of_mul_eq_mul_left hR this
    have hz : np N ((0 : Nat) : Int) = 0 := np_zero N 0 R 0 hv.ascN (by omega)
    have ha := np_all N 0 R hv.ascN
    rw [show (((q % R : Nat) : Int) + 1) = (R : Int) by omega] at hi ⊢
    rw [h1, h2, hz, Nat.add_mul]
    omega
  · have h1 : (q + 1) % R = q % R + 1 := by rw [mod_one hR, if_neg h]
    have h2 : (q + 1) / R = q / R := by
      have := Nat.div_add_mod q R; have h4 := Nat.div_add_mod (q + 1) R
      rw [h1] at h4
      have : R * ((q + 1) / R) = R * (q / R) := by omega
      exact Nat.eq_of_mul_eq_mul_left hR this
    rw [h1, h2, show ((q % R + 1 : Nat) : Int) = ((q % R : Nat) : Int) + 1 by omega, hi]
    omega
theorem gv_one {R : Nat} {N C : List Int} (hv : Vw R N C) (p i : Nat) : gv R N p (i + 1) = gv R N p i + (if inB N ((((p + i) % R : Nat) : Int) + 1) then 1 else 0) := by
  have h := fs_one hv (p + i)
  have hm := fs_mono hv (show p ≤ p + i by omega)
  unfold gv
  rw [← Nat.add_assoc, h]
  omega
end Go.Proofs.Ytmkmnedojgigoaa
