import Derived.Test.YtakodllejndfeaaM3
/-! Fractions that are compared. -/
namespace Go.Proofs.Ytakodllejndfeaa
set_option linter.unusedSimpArgs false
set_option linter.unusedVariables false
open Go Go.RowKit

set_option maxRecDepth 100000 in
set_option maxHeartbeats 1000000 in
theorem isFraction_ok (num den : Int) (h0 : 0 ≤ num) (h1 : 0 < den) (h2 : num < 1125899906842624) (h3 : den < 1125899906842624) (w : World) : Calls Try.prog 26 #[.int .i64 num, .int .i64 den] w fun e w' => e = .returned (.bool true) ∧ w = w' := by
  by_cases h : num ≤ den
  · have hm : max num den = den := by omega
    go_enter Try.func26, Try.ntmps26
    go_wp2
    go_ret
    exact ⟨ret_bool (by first | rfl | (simp; omega)), rfl⟩
  · have hm : max num den = num := by omega
    go_enter Try.func26, Try.ntmps26
    go_wp2
    go_ret
    exact ⟨ret_bool (by first | rfl | (simp; omega)), rfl⟩

/-- a/b is at most c/d: by their whole numbers, then the other way around. -/
theorem cross_div {a b c d : Nat} (hb : 0 < b) (hd : 0 < d) (h : a * d ≤ c * b) : a / b ≤ c / d := by
  rw [Nat.le_div_iff_mul_le hd]
  have h1 : a / b * b ≤ a := Nat.div_mul_le_self a b
  have h2 : a / b * d * b ≤ c * b := by
    rw [Nat.mul_right_comm]
    exact Nat.le_trans (Nat.mul_le_mul_right d h1) h
  exact Nat.le_of_mul_le_mul_right h2 hb
theorem cross_mod {a b c d : Nat} (h : a * d ≤ c * b) (he : a / b = c / d) : a % b * d ≤ c % d * b := by
  have ha := Nat.div_add_mod a b
  have hc := Nat.div_add_mod c d
  obtain ⟨q, hq⟩ : ∃ q, q = a / b := ⟨_, rfl⟩
  rw [← he] at hc
  rw [← hq] at ha hc
  rw [← ha, ← hc, Nat.add_mul, Nat.add_mul] at h
  have e : b * q * d = d * q * b := by rw [Nat.mul_comm b q, Nat.mul_comm d q, Nat.mul_assoc, Nat.mul_assoc, Nat.mul_comm b d]
  omega
set_option maxRecDepth 100000 in
set_option maxHeartbeats 4000000 in
theorem notGreater_ok (a b c d : Nat) (w : World) (ha : a ≤ 60000000000) (hb9 : b ≤ 60000000000) (hc : c ≤ 60000000000) (hd9 : d ≤ 60000000000) (hb : 0 < b) (hd : 0 < d) (h : a * d ≤ c * b) :
    Calls Try.prog 27 #[.int .i64 (a : Int), .int .i64 (b : Int), .int .i64 (c : Int), .int .i64 (d : Int)] w fun e w' => e = .returned (.bool true) ∧ Below w.heap.size w w' := by
  go_enter Try.func27, Try.ntmps27
  go_wp2
  go_loopw [0, 1, 2, 3] (fun v0 v1 v2 v3 wr => ∃ a b c d : Nat, v0 = .int .i64 (a : Int) ∧ v1 = .int .i64 (b : Int) ∧ v2 = .int .i64 (c : Int) ∧ v3 = .int .i64 (d : Int) ∧ 0 < b ∧ 0 < d ∧ a ≤ 60000000000 ∧ b ≤ 60000000000 ∧ c ≤ 60000000000 ∧ d ≤ 60000000000 ∧ Hid (a * d ≤ c * b) ∧ Below w.heap.size w wr) (fun _ v1 _ v3 _ => (intOf v1).toNat + (intOf v3).toNat)
  case atStart => exact ⟨a, b, c, d, rfl, rfl, rfl, rfl, hb, hd, ha, hb9, hc, hd9, hid h, Below.refl _ _⟩
  case round =>
    clear h ha hb9 hc hd9 hb hd
    obtain ⟨a, b, c, d, rfl, rfl, rfl, rfl, hb, hd, ha, hb9, hc, hd9, H, hbw⟩ := hrel
    have h1 := cross_div hb hd H.out
    have hdv1 : ((a : Int)).tdiv (b : Int) = ((a / b : Nat) : Int) := by rw [Int.tdiv_eq_ediv_of_nonneg (by omega)]; rfl
    have hdv2 : ((c : Int)).tdiv (d : Int) = ((c / d : Nat) : Int) := by rw [Int.tdiv_eq_ediv_of_nonneg (by omega)]; rfl
    have hdv1' : (a : Int) / (b : Int) = ((a / b : Nat) : Int) := rfl
    have hdv2' : (c : Int) / (d : Int) = ((c / d : Nat) : Int) := rfl
    have hmd1 : ((a : Int)).tmod (b : Int) = ((a % b : Nat) : Int) := by rw [Int.tmod_eq_emod_of_nonneg (by omega)]; rfl
    have hmd2 : ((c : Int)).tmod (d : Int) = ((c % d : Nat) : Int) := by rw [Int.tmod_eq_emod_of_nonneg (by omega)]; rfl
    have hmd1' : (a : Int) % (b : Int) = ((a % b : Nat) : Int) := rfl
    have hmd2' : (c : Int) % (d : Int) = ((c % d : Nat) : Int) := rfl
    have hcm := cross_mod H.out
    have hl1 : a / b ≤ a := Nat.div_le_self _ _
    have hl2 : c / d ≤ c := Nat.div_le_self _ _
    have hr1 : a % b < b := Nat.mod_lt _ hb
    have hr2 : c % d < d := Nat.mod_lt _ hd
    have hbne : ¬ (b : Int) = 0 := by omega
    have hdne : ¬ (d : Int) = 0 := by omega
    have hbne' : ¬ b = 0 := by omega
    have hdne' : ¬ d = 0 := by omega
    generalize a / b = q1 at *
    generalize c / d = q2 at *
    generalize a % b = r1 at *
    generalize c % d = r2 at *
    have ew1 : IntKind.i64.wrap (q1 : Int) = (q1 : Int) := IntWalk.i64_in _ (by omega)
    have ew2 : IntKind.i64.wrap (q2 : Int) = (q2 : Int) := IntWalk.i64_in _ (by omega)
    have ew3 : IntKind.i64.wrap (r1 : Int) = (r1 : Int) := IntWalk.i64_in _ (by omega)
    have ew4 : IntKind.i64.wrap (r2 : Int) = (r2 : Int) := IntWalk.i64_in _ (by omega)
    by_cases hq : q1 = q2
    · have HCM := hid (hcm hq)
      have hB : ((q1 : Int) != (q2 : Int)) = false := by simp [hq]
      have HQ := hid hq
      clear hq hcm h1
      go_upto_region 1 with fail
      refine wp_region_ext_lit (by kernel_rfl) (by kernel_rfl) ?_
      repeat (quiet_step (fail))
      refine wpQuiet_nil ?_
      intro _ hw'
      obtain ⟨t1, rfl⟩ := hw'
      have hb1 := hbw.trans (t1.below.mono hbw.size)
      generalize t1.w = W1 at *
      clear hbw
      go_upto_region 3 with fail
      refine wp_region_ext_lit (by kernel_rfl) (by kernel_rfl) ?_
      repeat (quiet_step (fail))
      refine wpQuiet_nil ?_
      intro _ hw'
      obtain ⟨t2, rfl⟩ := hw'
      have hb2 := hb1.trans (t2.below.mono hb1.size)
      generalize t2.w = W2 at *
      clear hb1
      by_cases h0 : r1 = 0
      · subst h0
        go_wp2
        go_ret
        exact ⟨ret_bool (by first | rfl | simp), hb2⟩
      · have hr20 : r2 ≠ 0 := fun e => by
          have := HCM.out
          rw [e, Nat.zero_mul] at this
          have h2 := Nat.mul_pos (Nat.pos_of_ne_zero h0) hd
          omega
        have hB1 : ((r1 : Int) == 0) = false := by simp [h0]
        have hB2 : ((r2 : Int) == 0) = false := by simp [hr20]
        go_wp2
        go_roundw
        case rel => exact ⟨d, r2, b, r1, rfl, rfl, rfl, rfl, by omega, by omega, hd9, by omega, hb9, by omega, hid (by have := HCM.out; rw [Nat.mul_comm d r1, Nat.mul_comm b r2]; exact this), hb2⟩
        case measure => simp [intOf]; omega
    · have hlt : (q1 : Int) < (q2 : Int) := by omega
      have hB : ((q1 : Int) != (q2 : Int)) = true := by simp; omega
      clear hcm hq
      go_upto_region 1 with fail
      refine wp_region_ext_lit (by kernel_rfl) (by kernel_rfl) ?_
      repeat (quiet_step (fail))
      refine wpQuiet_nil ?_
      intro _ hw'
      obtain ⟨t1, rfl⟩ := hw'
      have hb1 := hbw.trans (t1.below.mono hbw.size)
      generalize t1.w = W1 at *
      clear hbw
      go_upto_region 2 with fail
      refine wp_region_ext_lit (by kernel_rfl) (by kernel_rfl) ?_
      repeat (quiet_step (fail))
      refine wpQuiet_nil ?_
      intro _ hw'
      obtain ⟨t2, rfl⟩ := hw'
      have hb2 := hb1.trans (t2.below.mono hb1.size)
      go_wp2
      go_ret
      exact ⟨ret_bool (by first | rfl | simp; try omega), hb2⟩
end Go.Proofs.Ytakodllejndfeaa
