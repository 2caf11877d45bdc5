import Derived.Test.YtmkmnedojgigoaaI1
namespace Go.Proofs.Ytmkmnedojgigoaa

theorem fs_add {R : Nat} {N : List Int} (hR : 1 ≤ R) (q y : Nat) : fs R N (q * R + y) = q * N.length + fs R N y := by
  unfold fs
  rw [Nat.add_comm (q * R) y, Nat.add_mul_div_right _ _ (by omega), Nat.add_mul_mod_self_right, Nat.add_mul]
  omega
theorem fs_per {R : Nat} {N : List Int} (hR : 1 ≤ R) (x c : Nat) : gv R N (x % R) c = gv R N x c := by
  unfold gv
  have h := Nat.div_add_mod x R
  have h1 := fs_add (N := N) hR (x / R) (x % R + c)
  have h2 := fs_add (N := N) hR (x / R) (x % R)
  rw [Nat.mul_comm] at h
  rw [← Nat.add_assoc, h] at h1
  rw [h] at h2
  omega
theorem gv_round {R : Nat} {N : List Int} (hR : 1 ≤ R) (p m : Nat) : gv R N p (m * R) = m * N.length := by
  unfold gv
  have h1 := fs_add (N := N) hR m p
  rw [Nat.add_comm] at h1
  omega
theorem gv_sum {R : Nat} {N C : List Int} (hv : Vw R N C) (p c d : Nat) : gv R N p (c + d) = gv R N p c + gv R N (p + c) d := by
  unfold gv
  have h1 := fs_mono hv (show p ≤ p + c by omega)
  have h2 := fs_mono hv (show p + c ≤ p + c + d by omega)
  rw [← Nat.add_assoc]
  omega
theorem tot_rep (C : List Int) (k : Int) : ∀ n, tot C (List.replicate n k) = n * cw C k.toNat
  | 0 => by simp [tot]
  | n + 1 => by rw [List.replicate_succ, tot_cons, tot_rep C k n, Nat.add_mul]; omega
/-- Run of kinds alone. -/
theorem run_kinds {R : Nat} {N C : List Int} (hv : Vw R N C) : ∀ (xs : List Int) (p c b : Nat), xs.all (isKindB C) = true → runL R N C ⟨p % R, c⟩ b xs = (⟨(p + tot C xs) % R, c + gv R N p (tot C xs)⟩, b)
  | [], p, c, b, _ => by simp [runL, tot, gv]
  | x :: xs, p, c, b, h => by
    rw [List.all_cons, Bool.and_eq_true] at h
    obtain ⟨n, rfl, hn⟩ := kind_nat h.1
    have hr := hv.r1
    have ha : act R N C ⟨p % R, c⟩ (n : Int) = (⟨(p + cw C n) % R, c + gv R N p (cw C n)⟩, false) := by
      unfold act
      rw [if_neg (by omega), fs_per hr, Int.toNat_natCast, Nat.mod_add_mod]
    have ih := run_kinds hv xs (p + cw C n) (c + gv R N p (cw C n)) b h.2
    rw [tot_cons, Int.toNat_natCast, gv_sum hv, ← Nat.add_assoc, ← Nat.add_assoc]
    simp only [runL, ha]
    exact ih
end Go.Proofs.Ytmkmnedojgigoaa
