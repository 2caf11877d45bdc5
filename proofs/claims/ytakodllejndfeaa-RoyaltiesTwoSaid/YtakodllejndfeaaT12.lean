import Derived.Test.YtakodllejndfeaaT11
import Derived.Test.YtakodllejndfeaaQ5
/-! The exact part of a writer. -/
namespace Go.Proofs.Ytakodllejndfeaa
set_option linter.unusedSimpArgs false
set_option linter.unusedVariables false
open Go Go.RowKit

theorem results_tmp3 {fn : Func} {t u s : Tmp} (h : fn.results = #[.tmp t, .tmp u, .tmp s]) (tmps : Array Value) (P : Program) (w : World) :
    (results fn tmps).run P w = .ok (.tuple #[tmps.getD t undef, tmps.getD u undef, tmps.getD s undef]) w := by
  simp [results, h]
set_option maxRecDepth 100000 in
set_option maxHeartbeats 3000000 in
theorem lowest_any (num den : Nat) (w : World) (hn : num ≤ 60000000000) (hd : den ≤ 60000000000) (hd0 : 0 < den) : Calls Try.prog 49 #[.int .i64 (num : Int), .int .i64 (den : Int)] w fun e w' => e = .returned (.tuple #[.int .i64 ((num / Nat.gcd num den : Nat) : Int), .int .i64 ((den / Nat.gcd num den : Nat) : Int)]) ∧ Below w.heap.size w w' := by
  have hg0 : 0 < Nat.gcd num den := Nat.gcd_pos_of_pos_right _ hd0
  obtain ⟨gg, hgg⟩ : ∃ gg, gg = Nat.gcd num den := ⟨_, rfl⟩
  rw [← hgg] at hg0 ⊢
  have HG := hid hgg
  clear hgg
  go_enter Try.func49, Try.ntmps49
  go_wp2
  go_loopw [6, 7] (fun v6 v7 wr => ∃ a b : Nat, v6 = .int .i64 (a : Int) ∧ v7 = .int .i64 (b : Int) ∧ Hid (Nat.gcd a b = gg) ∧ a ≤ 60000000000 ∧ b ≤ 60000000000 ∧ Below w.heap.size w wr) (fun _ v7 _ => (intOf v7).toNat)
  case atStart => exact ⟨num, den, rfl, rfl, hid HG.out.symm, hn, hd, Below.refl _ _⟩
  case round =>
    obtain ⟨a, b, rfl, rfl, HI, ha, hb, hbw⟩ := hrel
    by_cases h0 : b = 0
    · subst h0
      have hag : a = gg := by have := HI.out; rwa [Nat.gcd_zero_right] at this
      subst hag
      have hdv1 : ((num : Int)).tdiv (a : Int) = ((num / a : Nat) : Int) := by rw [Int.tdiv_eq_ediv_of_nonneg (by omega)]; rfl
      have hdv2 : ((den : Int)).tdiv (a : Int) = ((den / a : Nat) : Int) := by rw [Int.tdiv_eq_ediv_of_nonneg (by omega)]; rfl
      have hdv1' : (num : Int) / (a : Int) = ((num / a : Nat) : Int) := rfl
      have hdv2' : (den : Int) / (a : Int) = ((den / a : Nat) : Int) := rfl
      have hl1 : num / a ≤ num := Nat.div_le_self _ _
      have hl2 : den / a ≤ den := Nat.div_le_self _ _
      have hane : ¬ (a : Int) = 0 := by omega
      have hane' : ¬ a = 0 := by omega
      generalize num / a = x at *
      generalize den / a = y at *
      have ew1 : IntKind.i64.wrap (x : Int) = (x : Int) := IntWalk.i64_in _ (by omega)
      have ew2 : IntKind.i64.wrap (y : Int) = (y : Int) := IntWalk.i64_in _ (by omega)
      have hbI : ¬ ((0 : Nat) : Int) > 0 := by omega
      go_upto_region 4 with fail
      refine wp_region_ext_lit (by kernel_rfl) (by kernel_rfl) ?_
      repeat (quiet_step (fail))
      refine wpQuiet_nil ?_
      intro _ hw'
      obtain ⟨tt, rfl⟩ := hw'
      have hbt := hbw.trans (tt.below.mono hbw.size)
      go_wp2
      go_ret2
      exact ⟨rfl, hbt⟩
    · have hmod : ((a : Int)).tmod (b : Int) = ((a % b : Nat) : Int) := by rw [Int.tmod_eq_emod_of_nonneg (by omega)]; rfl
      have hmod' : (a : Int) % (b : Int) = ((a % b : Nat) : Int) := rfl
      have hlt : a % b < b := Nat.mod_lt _ (by omega)
      have hgc : Nat.gcd b (a % b) = Nat.gcd a b := by rw [Nat.gcd_comm b, ← Nat.gcd_rec, Nat.gcd_comm]
      rw [HI.out] at hgc
      have HGC := hid hgc
      have hbne : ¬ (b : Int) = 0 := by omega
      have hbI : (b : Int) > 0 := by omega
      clear hgc
      generalize a % b = x at *
      have ew1 : IntKind.i64.wrap (x : Int) = (x : Int) := IntWalk.i64_in _ (by omega)
      go_upto_region 3 with fail
      refine wp_region_ext_lit (by kernel_rfl) (by kernel_rfl) ?_
      repeat (quiet_step (fail))
      refine wpQuiet_nil ?_
      intro _ hw'
      obtain ⟨tt, rfl⟩ := hw'
      have hbt := hbw.trans (tt.below.mono hbw.size)
      go_wp2
      go_roundw
      case rel => exact ⟨b, x, rfl, rfl, HGC, hb, by omega, hbt⟩
      case measure => simp [intOf]; omega
end Go.Proofs.Ytakodllejndfeaa
