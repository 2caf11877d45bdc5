import Derived.Test.YthgjjlkdekfdbaaT30
/-! The same splits. -/
namespace Go.Proofs.Ythgjjlkdekfdbaa
set_option linter.unusedSimpArgs false
set_option linter.unusedVariables false
open Go Go.RowKit

set_option maxRecDepth 100000 in
set_option maxHeartbeats 2000000 in
theorem sameSplits_eq (a b : Option Addr) (ca cb : Nat) (xs : List Wk) (w : World) (hA : Spl w a xs) (hB : Spl w b xs) : Calls Try.prog 30 #[.slice a xs.length ca, .slice b xs.length cb] w fun e w' => e = .returned (.bool true) ∧ Below w.heap.size w w' := by
  have hlen := hA.len
  obtain ⟨n, hn⟩ : ∃ n, n = xs.length := ⟨_, rfl⟩
  rw [← hn] at hlen ⊢
  have HN := hid hn
  have hne : ((n : Int) != (n : Int)) = false := by simp
  clear hn
  go_enter Try.func30, Try.ntmps30
  go_wp2
  go_loopw [5] (fun v5 wr => ∃ k : Nat, k ≤ n ∧ v5 = .int .i64 (k : Int) ∧ Below w.heap.size w wr) (fun v5 _ => n - (intOf v5).toNat)
  case atStart => exact ⟨0, Nat.zero_le _, rfl, Below.refl _ _⟩
  case round =>
    obtain ⟨k, hk, rfl, hb⟩ := hrel
    by_cases hlt : k < n
    · obtain ⟨b1, o1, x, rfl, _, ⟨q0, q1, q2⟩, hg1⟩ := (hA.below hb (Nat.le_refl _)).at (k := k) (by rw [← HN.out]; exact hlt)
      obtain ⟨b2, o2, y, rfl, _, ⟨r0, r1, r2⟩, hg2⟩ := (hB.below hb (Nat.le_refl _)).at (k := k) (by rw [← HN.out]; exact hlt)
      obtain rfl : x = y := by have := hg1.out; rw [hg2.out] at this; injection this with e; exact e.symm
      have hkI : (k : Int) < n := by omega
      have hk0 : (0 : Int) ≤ (k : Int) := by omega
      clear hg1 hg2
      go_upto_region 6 with fail
      have q0 := Ext.cell q0; have q1 := Ext.cell q1; have q2 := Ext.cell q2
      have r0 := Ext.cell r0; have r1 := Ext.cell r1; have r2 := Ext.cell r2
      refine wp_region_ext_lit (by kernel_rfl) (by kernel_rfl) ?_
      repeat (quiet_step (fail))
      refine wpQuiet_nil ?_
      intro _ hw'
      obtain ⟨tt, rfl⟩ := hw'
      have hb2 := hb.trans (tt.below.mono hb.size)
      clear q0 q1 q2 r0 r1 r2
      go_wp2
      go_roundw
      case rel => exact ⟨k + 1, by omega, by simp, hb2⟩
      case measure => simp [intOf]; omega
    · obtain rfl : k = n := by omega
      go_wp2
      go_ret
      exact ⟨rfl, hb⟩
end Go.Proofs.Ythgjjlkdekfdbaa
