import Derived.Test.YtmkmnedojgigoaaH2
namespace Go.Proofs.Ytmkmnedojgigoaa
open Go.RowKit

def isWhl (r : Int) (N C : List Int) : Bool := !farB N C && (chk r N C == 0)

set_option maxRecDepth 100000 in
set_option maxHeartbeats 1000000 in
theorem isWheel_any (r : Int) (an ac : Option Addr) (cn cc : Nat) (N C : List Int) (w : World) (hN : Ints w an N) (hC : Ints w ac C) :
    Calls Try.prog 47 #[.agg #[.int .i64 r, .slice an N.length cn, .slice ac C.length cc]] w fun e w' => e = .returned (.bool (isWhl r N C)) ∧ Below w.heap.size w w' := by
  obtain ⟨W, hW, hb, hs, x0⟩ := boxes1 w #[.int .i64 r, .slice an N.length cn, .slice ac C.length cc] 24
  clear hs
  replace hN := hN.below hb (Nat.le_refl _); replace hC := hC.below hb (Nat.le_refl _)
  have c0 := x0.cell 0 rfl; have c1 := x0.cell 1 rfl; have c2 := x0.cell 2 rfl
  cases hf : farB N C
  · go_enter Try.func47, Try.ntmps47
    go_wp2_with fail
    refine (far_any _ _ _ _ _ _ _ _ hN hC).mono ?_
    rintro e W1 ⟨rfl, hb1⟩
    rw [hf]
    clear hW
    replace hN := hN.below hb1 (Nat.le_refl _); replace hC := hC.below hb1 (Nat.le_refl _); (try clear c0 c1 c2); replace x0 := x0.below hb1; have c0 := x0.cell 0 rfl; have c1 := x0.cell 1 rfl; have c2 := x0.cell 2 rfl; replace hb := hb.trans (hb1.mono hb.size); clear hb1
    go_wp2_with fail
    refine (refCheck_any _ _ _ _ _ _ _ _ hN hC).mono ?_
    rintro e W2 ⟨rfl, hb1⟩
    replace hb := hb.trans (hb1.mono hb.size)
    clear hN hC x0 c0 c1 c2 hb1
    go_wp2
    go_ret
    exact ⟨ret_bool (by simp [isWhl, hf]), hb⟩
  · go_enter Try.func47, Try.ntmps47
    go_wp2_with fail
    refine (far_any _ _ _ _ _ _ _ _ hN hC).mono ?_
    rintro e W1 ⟨rfl, hb1⟩
    rw [hf]
    replace hb := hb.trans (hb1.mono hb.size)
    clear hN hC x0 c0 c1 c2 hb1 hW
    go_wp2
    go_ret
    exact ⟨ret_bool (by simp [isWhl, hf]), hb⟩

set_option maxRecDepth 100000 in
set_option maxHeartbeats 1000000 in
theorem rIsPlace_any (R : Nat) (an ac : Option Addr) (cn cc : Nat) (N C : List Int) (p : Int) (w : World) (hv : Vw R N C) :
    Calls Try.prog 49 #[.agg #[.int .i64 (R : Int), .slice an N.length cn, .slice ac C.length cc], .int .i64 p] w fun e w' => e = .returned (.bool (inR 0 p (R - 1))) ∧ Below w.heap.size w w' := by
  have r1 := hv.r1
  have r2 := hv.r2
  obtain ⟨W, hW, hb, hs, x0⟩ := boxes1 w #[.int .i64 (R : Int), .slice an N.length cn, .slice ac C.length cc] 24
  clear hs
  have c0 := x0.cell 0 rfl; have c1 := x0.cell 1 rfl; have c2 := x0.cell 2 rfl
  go_enter Try.func49, Try.ntmps49
  go_wp2_with (first | (go_at_call 58; refine (within_any _ _ _ _).mono ?_; rintro e w' ⟨rfl, rfl⟩))
  go_ret
  exact ⟨rfl, hb⟩

theorem isWhl_vw {r : Int} {N C : List Int} (h : isWhl r N C = true) : ∃ R : Nat, r = R ∧ Vw R N C := by
  apply Vw.of_valid
  simp only [isWhl, chk, Bool.and_eq_true] at h
  have := h.2
  cases hv : validB r N C
  · rw [hv] at this; simp at this
  · rfl
end Go.Proofs.Ytmkmnedojgigoaa
namespace Go.Proofs.Ytmkmnedojgigoaa

theorem fs_add {R : Nat} {N : List Int} (hR : 1 ≤ R) (q y : Nat) : fs R N (q * R + y) = q * N.length + fs R N y := by
  unfold fs
  rw [Nat.add_comm (q * R) y, Nat.add_mul_div_right _ _ (by omega), Nat.add_mul_mod_self_right, Nat.add_mul]
  omega
theorem fs_per {R : Nat} {N : List Int} (hR : 1 ≤ R) (x c : Nat) : gv R N (x % R) c = gv R N x c := by
  unfold gv
  have h := Nat.div_add_mod x R
  have h1 := fs_add (N := N) hR (x / R) (x % R + c)
  have h2 := fs_add (N := N) hR (x / R) (x % R)
  rw [Nat.mul_comm] at h
  rw [← Nat.add_assoc, h] at h1
  rw [h] at h2
  omega
theorem gv_round {R : Nat} {N : List Int} (hR : 1 ≤ R) (p m : Nat) : gv R N p (m * R) = m * N.length := by
  unfold gv
  have h1 := fs_add (N := N) hR m p
  rw [Nat.add_comm] at h1
  omega
theorem gv_sum {R : Nat} {N C : List Int} (hv : Vw R N C) (p c d : Nat) : gv R N p (c + d) = gv R N p c + gv R N (p + c) d := by
  unfold gv
  have h1 := fs_mono hv (show p ≤ p + c by omega)
  have h2 := fs_mono hv (show p + c ≤ p + c + d by omega)
  rw [← Nat.add_assoc]
  omega
theorem tot_rep (C : List Int) (k : Int) : ∀ n, tot C (List.replicate n k) = n * cw C k.toNat
  | 0 => by simp [tot]
  | n + 1 => by rw [List.replicate_succ, tot_cons, tot_rep C k n, Nat.add_mul]; omega
/-- Run of kinds alone. -/
theorem run_kinds {R : Nat} {N C : List Int} (hv : Vw R N C) : ∀ (xs : List Int) (p c b : Nat), xs.all (isKindB C) = true → runL R N C ⟨p % R, c⟩ b xs = (⟨(p + tot C xs) % R, c + gv R N p (tot C xs)⟩, b)
  | [], p, c, b, _ => by simp [runL, tot, gv]
  | x :: xs, p, c, b, h => by
    rw [List.all_cons, Bool.and_eq_true] at h
    obtain ⟨n, rfl, hn⟩ := kind_nat h.1
    have hr := hv.r1
    have ha : act R N C ⟨p % R, c⟩ (n : Int) = (⟨(p + cw C n) % R, c + gv R N p (cw C n)⟩, false) := by
      unfold act
      rw [if_neg (by omega), fs_per hr, Int.toNat_natCast, Nat.mod_add_mod]
    have ih := run_kinds hv xs (p + cw C n) (c + gv R N p (cw C n)) b h.2
    rw [tot_cons, Int.toNat_natCast, gv_sum hv, ← Nat.add_assoc, ← Nat.add_assoc]
    simp only [runL, ha]
    exact ih
end Go.Proofs.Ytmkmnedojgigoaa
