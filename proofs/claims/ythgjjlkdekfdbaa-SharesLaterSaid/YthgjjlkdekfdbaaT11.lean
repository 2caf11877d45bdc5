import Derived.Test.YthgjjlkdekfdbaaM2
/-! Library functions on slices of numbers. -/
namespace Go.Proofs.Ythgjjlkdekfdbaa
set_option linter.unusedSimpArgs false
set_option linter.unusedVariables false
open Go Go.RowKit

set_option maxRecDepth 100000 in
set_option maxHeartbeats 2000000 in
theorem index_any (a : Option Addr) (c : Nat) (l : List Int) (x : Int) (w : World) (hI : Ints w a l) : Calls Try.prog 84 #[.slice a l.length c, .int .i64 x] w fun e w' => (∃ r : Int, e = .returned (.int .i64 r) ∧ -1 ≤ r ∧ r ≤ 9223372036854775807 ∧ decide (0 ≤ r) = inL x l) ∧ w = w' := by
  have hlen := hI.len
  obtain ⟨n, hn⟩ : ∃ n, n = l.length := ⟨_, rfl⟩
  rw [← hn] at hlen ⊢
  have HN := hid hn
  clear hn
  go_enter Try.func84, Try.ntmps84
  go_wp2
  go_loopw [5, 8] (fun v5 v8 wr => ∃ k : Nat, k ≤ n ∧ v8 = .int .i64 (k : Int) ∧ Hid ((l.take k).any (fun y => x == y) = false) ∧ wr = w) (fun _ v8 _ => n - (intOf v8).toNat)
  case atStart => exact ⟨0, Nat.zero_le _, rfl, hid rfl, rfl⟩
  case round =>
    obtain ⟨k, hk, rfl, HA, rfl⟩ := hrel
    by_cases hlt : k < n
    · obtain ⟨b, off, y, rfl, hbl, hc, hx1, hx2, hg, _⟩ := hI.at (k := k) (by rw [← HN.out]; exact hlt)
      have hkI : (k : Int) < n := by omega
      have hk0 : (0 : Int) ≤ (k : Int) := by omega
      by_cases he : x = y
      · have hEQ : (x == y) = true := by simp [he]
        have HR := hid (show inL x l = true by unfold inL; rw [List.any_eq_true]; exact ⟨y, List.mem_of_getElem? hg.out, hEQ⟩)
        clear he hg
        go_wp2
        go_ret
        exact ⟨⟨(k : Int), rfl, by omega, by omega, by rw [HR.out]; exact decide_eq_true hk0⟩, rfl⟩
      · have hEQ : (x == y) = false := by simp [he]
        have HR := hid (show (l.take (k + 1)).any (fun y => x == y) = false by rw [List.take_add_one, hg.out, List.any_append, HA.out]; simp [he])
        clear he hg
        go_wp2
        go_roundw
        case rel => exact ⟨k + 1, by omega, by simp, HR, trivial⟩
        case measure => simp [intOf]; omega
    · obtain rfl : k = n := by omega
      have hA := HA.out
      rw [List.take_of_length_le (by rw [← HN.out]; omega)] at hA
      have HA2 := hid hA
      clear hA
      go_wp2
      go_ret
      exact ⟨⟨-1, rfl, by omega, by omega, by unfold inL; rw [HA2.out]; rfl⟩, rfl⟩

set_option maxRecDepth 100000 in
set_option maxHeartbeats 1000000 in
theorem contains_any (a : Option Addr) (c : Nat) (l : List Int) (x : Int) (w : World) (hI : Ints w a l) : Calls Try.prog 82 #[.slice a l.length c, .int .i64 x] w fun e w' => e = .returned (.bool (inL x l)) ∧ w = w' := by
  have hi := index_any a c l x w hI
  obtain ⟨n, hn⟩ : ∃ n, n = l.length := ⟨_, rfl⟩
  rw [← hn] at hi ⊢
  clear hn
  go_enter Try.func82, Try.ntmps82
  go_wp2_with fail
  refine hi.mono ?_
  rintro e W1 ⟨⟨r, rfl, h1, h2, h3⟩, rfl⟩
  have HR := hid h3
  clear h3
  go_wp2
  go_ret
  exact ⟨ret_bool HR.out, rfl⟩

set_option maxRecDepth 100000 in
set_option maxHeartbeats 1000000 in
theorem clip_any (a : Option Addr) (n c : Nat) (h : n ≤ c) (hc : c ≤ 9223372036854775807) (hz : a = none → c = 0) (w : World) : Calls Try.prog 83 #[.slice a n c] w fun e w' => e = .returned (.slice a n n) ∧ w = w' := by
  have hI : (n : Int) ≤ (c : Int) := by omega
  have h0 : (0 : Int) ≤ (n : Int) := by omega
  rcases a with _ | ⟨b, off, sp⟩
  · obtain rfl := hz rfl
    obtain rfl : n = 0 := by omega
    go_enter Try.func83, Try.ntmps83
    go_wp2
    go_ret
    exact ⟨rfl, rfl⟩
  · clear hz
    go_enter Try.func83, Try.ntmps83
    go_wp2
    go_ret
    exact ⟨rfl, rfl⟩
end Go.Proofs.Ythgjjlkdekfdbaa
