import Derived.Test.YtipdohpbilabiaaR1
import Derived.Test.YtipdohpbilabiaaProg
import Derived.RangeFuncBound
import Derived.Shelf.Abstract
import Derived.Shelf.RegionOpen
import Derived.OwnWalkIn
import Derived.TacticsInMore
import Derived.LoopNIn
import Derived.LoopIn
/-! Titles as bits, plans, visits; the small functions; the iterator over titles. -/
namespace Go.Proofs.Ytipdohpbilabiaa
open Go.RowKit

attribute [local go_sem] Oper.semAt_some

def bitsTo (t k : Nat) : List Nat := (List.range k).filter t.testBit
/-- The titles of a set, ascending. -/
def bitsOf (t : Nat) : List Nat := bitsTo t 6
def cnt (t : Nat) : Nat := (bitsOf t).length
def wo (t u : Nat) : Nat := t ^^^ (t &&& u)

theorem bitsTo_succ (t k : Nat) : bitsTo t (k + 1) = bitsTo t k ++ (if t.testBit k then [k] else []) := by
  unfold bitsTo
  rw [List.range_succ, List.filter_append]
  cases h : t.testBit k <;> simp [h]

theorem has_dec : ∀ t : Nat, t < 64 → ∀ i : Nat, i < 6 → (bits BinOp.and IntKind.u8 ((t : Int) / 2 ^ i) 1 == 1) = t.testBit i := by decide +kernel
theorem wo_dec : ∀ t : Nat, t < 64 → ∀ u : Nat, u < 64 → bits BinOp.andNot IntKind.u8 (t : Int) (u : Int) = ((wo t u : Nat) : Int) ∧ wo t u < 64 := by decide +kernel
theorem or_dec : ∀ t : Nat, t < 64 → ∀ u : Nat, u < 64 → bits BinOp.or IntKind.u8 (t : Int) (u : Int) = ((t ||| u : Nat) : Int) ∧ t ||| u < 64 := by decide +kernel
theorem and_dec : ∀ t : Nat, t < 64 → ∀ u : Nat, u < 64 → bits BinOp.and IntKind.u8 (t : Int) (u : Int) = ((t &&& u : Nat) : Int) ∧ t &&& u < 64 := by decide +kernel
theorem cnt_le (t : Nat) : cnt t ≤ 6 := by
  unfold cnt bitsOf bitsTo
  exact Nat.le_trans (List.length_filter_le _ _) (by simp)

set_option maxRecDepth 100000 in
set_option maxHeartbeats 1000000 in
theorem has_any (t i : Nat) (ht : t < 64) (hi : i < 6) (w : World) : Calls Try.prog 93 #[.int .u8 (t : Int), .int .i64 (i : Int)] w fun e w' => e = .returned (.bool (t.testBit i)) ∧ w = w' := by
  have hd := has_dec t ht i hi
  have h1 : (t : Int) < 64 := by omega
  have h2 : (i : Int) < 6 := by omega
  have h3 : (0 : Int) ≤ t := by omega
  have h4 : (0 : Int) ≤ i := by omega
  go_enter Try.func93, Try.ntmps93
  go_wp2
  go_ret
  exact ⟨ret_bool rfl, rfl⟩

set_option maxRecDepth 100000 in
set_option maxHeartbeats 1000000 in
theorem without_any (t u : Nat) (ht : t < 64) (hu : u < 64) (w : World) : Calls Try.prog 91 #[.int .u8 (t : Int), .int .u8 (u : Int)] w fun e w' => e = .returned (.int .u8 ((wo t u : Nat) : Int)) ∧ w = w' := by
  have hd := (wo_dec t ht u hu).1
  go_enter Try.func91, Try.ntmps91
  go_wp2
  go_ret
  exact ⟨ret_int rfl, rfl⟩

set_option maxRecDepth 100000 in
set_option maxHeartbeats 1000000 in
theorem ones_any (t : Nat) (ht : t < 64) (w : World) : Calls Try.prog 96 #[.int .u8 (t : Int)] w fun e w' => e = .returned (.int .i64 ((cnt t : Nat) : Int)) ∧ w = w' := by
  have h1 : (t : Int) < 64 := by omega
  have h3 : (0 : Int) ≤ t := by omega
  go_enter Try.func96, Try.ntmps96
  go_wp2
  go_ret
  refine ⟨ret_int ?_, rfl⟩
  revert h1 h3
  clear w
  revert t
  intro t ht h
  revert h
  revert ht
  revert t
  decide +kernel

set_option maxRecDepth 100000 in
set_option maxHeartbeats 1000000 in
theorem count_any (t : Nat) (ht : t < 64) (w : World) : Calls Try.prog 95 #[.int .u8 (t : Int)] w fun e w' => e = .returned (.int .i64 ((cnt t : Nat) : Int)) ∧ w = w' := by
  have hc := ones_any t ht w
  go_enter Try.func95, Try.ntmps95
  go_wp2_with fail
  refine hc.mono ?_
  rintro e W1 ⟨rfl, rfl⟩
  go_wp2
  go_ret
  exact ⟨rfl, rfl⟩

set_option maxRecDepth 100000 in
set_option maxHeartbeats 2000000 in
theorem each_iter (t : Nat) (ht : t < 64) (n0 B : Nat) (w : World) : Iter Try.prog 83 #[.int .u8 (t : Int)] #[] (fun x : Nat => #[.int .i64 (x : Int)]) (bitsOf t) (fun W W' => Below W.heap.size W W') n0 B w := by
  intro l J W hW hs hJ hY h0
  refine callsIn_wide (n := 0).1 (callsIn_of_wp Try.func83 rfl trivial ?_ rfl)
  simp only [Try.ntmps83, List.size_toArray, List.length_cons, List.length_nil, Nat.reduceAdd, Nat.reduceSub, Array.replicate_succ, Array.replicate_zero, List.push_toArray, List.append_toArray, List.nil_append, List.cons_append, List.append_nil]
  gi_wp2
  gi_loopw [4, 5] (fun v4 v5 wr => ∃ k : Nat, k ≤ 6 ∧ v5 = .int .i64 (k : Int) ∧ J (bitsTo t k) wr) (fun _ v5 _ => 6 - (intOf v5).toNat)
  case atStart => exact ⟨0, Nat.zero_le _, rfl, h0⟩
  case round =>
    obtain ⟨k, hk, rfl, hJ1⟩ := hrel
    by_cases hlt : k < 6
    · have hkI : (k : Int) < 6 := by omega
      have hc := has_any t k ht hlt wr
      have hsc := bitsTo_succ t k
      cases hb : t.testBit k
      · rw [hb] at hc hsc
        simp only [Bool.false_eq_true, if_false, List.append_nil] at hsc
        gi_wp2_with (refine ⟨trivial, rfl, (callsIn_wide.2 hc).mono ?_⟩; rintro e W1 ⟨rfl, rfl⟩)
        refine ⟨fun _ h => (by cases h), ?_⟩
        gi_wp2
        go_roundw
        case rel => exact ⟨k + 1, hlt, by simp, by rw [hsc]; exact hJ1⟩
        case measure => simp [intOf]; omega
      · rw [hb] at hc hsc
        simp only [if_true] at hsc
        have hr : ∃ rest, bitsOf t = bitsTo t k ++ k :: rest := by
          have e : bitsOf t = bitsTo t (k + 1) ++ ((List.range (6 - (k + 1))).map (k + 1 + ·)).filter t.testBit := by
            unfold bitsOf bitsTo
            rw [← List.filter_append, ← List.range_add, show k + 1 + (6 - (k + 1)) = 6 by omega]
          rw [e, hsc, List.append_assoc]
          exact ⟨_, rfl⟩
        obtain ⟨fn, tmps, assign, body, hy, hR⟩ := hY _ k hr wr hJ1
        gi_wp2_with (first | (refine ⟨trivial, rfl, (callsIn_wide.2 hc).mono ?_⟩; clear hc; rintro e W1 ⟨rfl, rfl⟩) | (refine ⟨rfl, hR.mono ?_⟩; clear hR; rintro e W2 ⟨rfl, hJ2, _⟩))
        gi_wp2
        go_roundw
        case rel => exact ⟨k + 1, hlt, by simp, by rw [hsc]; exact hJ2⟩
        case measure => simp [intOf]; omega
    · have hkI : ¬ (k : Int) < 6 := by omega
      gi_wp2
      go_end0
      obtain rfl : k = 6 := by omega
      exact ⟨⟨_, rfl⟩, hJ1⟩
end Go.Proofs.Ytipdohpbilabiaa
