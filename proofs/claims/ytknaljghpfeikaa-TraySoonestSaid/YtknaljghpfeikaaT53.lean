import Derived.Test.YtknaljghpfeikaaT40
namespace Go.Proofs.Ytknaljghpfeikaa
open Go.RowKit

def inB (n : Int) (xs : List Int) : Bool := xs.any fun x => x == n
theorem inB_iff {n : Int} {xs : List Int} : inB n xs = true ↔ n ∈ xs := by
  unfold inB
  rw [List.any_eq_true]
  constructor
  · rintro ⟨x, h1, h2⟩
    rw [beq_iff_eq] at h2
    rw [← h2]; exact h1
  · exact fun h => ⟨n, h, by simp⟩
set_option maxRecDepth 100000 in
set_option maxHeartbeats 1000000 in
/-- The reference's search of a number in a list. -/
theorem in_any (a : Option Addr) (ca : Nat) (xs : List Int) (n : Int) (w : World) (hX : Ints w a xs) : Calls Try.prog 62 #[.slice a xs.length ca, .int .i64 n] w fun e w' => e = .returned (.bool (inB n xs)) ∧ Below w.heap.size w w' := by
  obtain ⟨m, hm⟩ : ∃ m, m = xs.length := ⟨_, rfl⟩
  have lx := hX.len
  rw [← hm] at lx ⊢
  have HM := hid hm
  clear hm
  have hmI : (m : Int) ≤ 9223372036854775807 := by omega
  obtain ⟨r, hr⟩ : ∃ r, r = inB n xs := ⟨_, rfl⟩
  rw [← hr]
  have HR := hid hr
  clear hr
  go_enter Try.func62, Try.ntmps62
  go_wp2
  go_loopw [4, 5] (fun v4 v5 wr => ∃ k : Nat, k ≤ m ∧ v4 = .bool false ∧ v5 = .int .i64 (k : Int) ∧ Below w.heap.size w wr ∧ Hid (inB n xs = inB n (xs.drop k))) (fun _ v5 _ => m - (intOf v5).toNat)
  case atStart => exact ⟨0, Nat.zero_le _, rfl, rfl, Below.refl _ _, hid rfl⟩
  case round =>
    obtain ⟨k, hk, rfl, rfl, hb, HA⟩ := hrel
    by_cases hlt : k < m
    · obtain ⟨b, off, x, rfl, _, hc, _, _, _, hd⟩ := (hX.below hb (Nat.le_refl _)).at (show k < xs.length by rw [← HM.out]; exact hlt)
      have hkI : (k : Int) < (m : Int) := by omega
      have hk0 : (0 : Int) ≤ (k : Int) := by omega
      have hdd : inB n (xs.drop k) = ((x == n) || inB n (xs.drop (k + 1))) := by rw [hd.out]; rfl
      have HD := hid hdd
      clear hdd hd
      cases hxn : (x == n)
      · have HN := hid (show inB n xs = inB n (xs.drop (k + 1)) by rw [HA.out, HD.out, hxn]; rfl)
        go_wp2
        go_roundw
        case rel => exact ⟨k + 1, by omega, rfl, by go_num, hb, HN⟩
        case measure => simp [intOf]; omega
      · have HN := hid (show r = true by rw [HR.out, HA.out, HD.out, hxn]; rfl)
        go_wp2
        go_ret
        exact ⟨ret_bool HN.out.symm, hb⟩
    · have hkI : (m : Int) ≤ (k : Int) := by omega
      have HN := hid (show r = false by rw [HR.out, HA.out, drop_end (by rw [← HM.out]; exact hk) (by rw [← HM.out]; exact hlt)]; rfl)
      go_wp2
      go_ret
      exact ⟨ret_bool HN.out.symm, hb⟩
end Go.Proofs.Ytknaljghpfeikaa
