import Derived.Test.YtknaljghpfeikaaT16
namespace Go.Proofs.Ytknaljghpfeikaa
open Go.RowKit

set_option maxRecDepth 100000 in
set_option maxHeartbeats 4000000 in
/-- sort.Search over the closure of latest: where p turns (whatever p is). -/
theorem search_any (n : Nat) (cb : Array Value) (p : Nat → Bool) (w : World) (hn : n ≤ 1000000000)
    (hf : ∀ (W : World) (i : Nat), Below w.heap.size w W → i < n → Calls Try.prog 77 (#[.int .i64 (i : Int)] ++ cb) W fun e w' => e = .returned (.bool (p i)) ∧ Below W.heap.size W w') :
    Calls Try.prog 76 #[.int .i64 (n : Int), .func (.func 77) #[] cb] w fun e w' => ∃ k : Nat, e = .returned (.int .i64 (k : Int)) ∧ k ≤ n ∧ (0 < k → p (k - 1) = false) ∧ (k < n → p k = true) ∧ Below w.heap.size w w' := by
  have HF := hid hf
  clear hf
  have hnI : (n : Int) ≤ 1000000000 := by omega
  go_enter Try.func76, Try.ntmps76
  go_wp2
  go_loopg [5, 6] n (fun kx s5 s6 wr => ∃ (lo hi : Nat), s5 = .int .i64 (lo : Int) ∧ s6 = .int .i64 (hi : Int) ∧ lo ≤ hi ∧ hi ≤ n ∧ hi - lo ≤ kx ∧ Below w.heap.size w wr ∧
    Hid ((0 < lo → p (lo - 1) = false) ∧ (hi < n → p hi = true)))
  case atStart => exact ⟨0, n, rfl, rfl, Nat.zero_le _, Nat.le_refl _, by omega, Below.refl _ _, hid ⟨fun h => absurd h (by omega), fun h => absurd h (by omega)⟩⟩
  case round =>
    obtain ⟨lo, hi, rfl, rfl, hlh, hin, hg, hb, I⟩ := hrel
    by_cases hlt : lo < hi
    · have hc := HF.out wr ((lo + hi) / 2) hb (by omega)
      rw [show (((lo + hi) / 2 : Nat) : Int) = ((lo : Int) + (hi : Int)) / 2 by omega] at hc
      cases hp : p ((lo + hi) / 2) <;> rw [hp] at hc
      · have HP := hid hp
        clear hp
        go_wp2_with (go_at_call 77; refine hc.mono ?_; rintro e w' ⟨rfl, hb1⟩)
        replace hb := hb.trans (hb1.mono hb.size)
        clear hb1
        go_roundg (hi - ((lo + hi) / 2 + 1))
        case measure => omega
        case rel =>
          have I2 : Hid ((0 < (lo + hi) / 2 + 1 → p ((lo + hi) / 2 + 1 - 1) = false) ∧ (hi < n → p hi = true)) := hid ⟨fun _ => HP.out, I.out.2⟩
          exact ⟨(lo + hi) / 2 + 1, hi, by rw [show ((lo : Int) + (hi : Int)) / 2 + 1 = (((lo + hi) / 2 + 1 : Nat) : Int) by omega], rfl, by omega, hin, Nat.le_refl _, hb, I2⟩
      · have HP := hid hp
        clear hp
        go_wp2_with (go_at_call 77; refine hc.mono ?_; rintro e w' ⟨rfl, hb1⟩)
        replace hb := hb.trans (hb1.mono hb.size)
        clear hb1
        go_roundg ((lo + hi) / 2 - lo)
        case measure => omega
        case rel =>
          have I2 : Hid ((0 < lo → p (lo - 1) = false) ∧ ((lo + hi) / 2 < n → p ((lo + hi) / 2) = true)) := hid ⟨I.out.1, fun _ => HP.out⟩
          exact ⟨lo, (lo + hi) / 2, rfl, by rw [show ((lo : Int) + (hi : Int)) / 2 = (((lo + hi) / 2 : Nat) : Int) by omega], by omega, by omega, Nat.le_refl _, hb, I2⟩
    · obtain rfl : hi = lo := by omega
      go_wp2
      go_ret
      exact ⟨hi, rfl, hin, I.out.1, I.out.2, hb⟩
end Go.Proofs.Ytknaljghpfeikaa
