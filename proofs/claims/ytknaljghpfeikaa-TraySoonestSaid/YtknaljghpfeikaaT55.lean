import Derived.Test.YtknaljghpfeikaaM10
namespace Go.Proofs.Ytknaljghpfeikaa
open Go.RowKit

def ordB (n : Nat) (os : List Int) (i : Nat) : Bool := ((List.range (n - i)).all fun j => inB ((i + j : Nat) : Int) os)
theorem ordB_step {n : Nat} {os : List Int} {i : Nat} (h : i < n) : ordB n os i = (inB (i : Int) os && ordB n os (i + 1)) := by
  unfold ordB
  rw [show n - i = (n - (i + 1)) + 1 by omega, List.range_succ_eq_map, List.all_cons, List.all_map]
  congr 1
  congr 1
  funext j
  simp only [Function.comp]
  rw [show i + j.succ = i + 1 + j by omega]
/-- Whether a list is an order of so many. -/
def isOrd (n : Nat) (os : List Int) : Bool := ordB n os 0 && decide (os.length = n)
theorem isOrd_iff {n : Nat} {os : List Int} : isOrd n os = true ↔ (∀ i : Nat, i < n → (i : Int) ∈ os) ∧ os.length = n := by
  unfold isOrd ordB
  rw [Bool.and_eq_true, decide_eq_true_eq, List.all_eq_true]
  constructor
  · rintro ⟨h1, h2⟩
    refine ⟨fun i hi => ?_, h2⟩
    have := h1 i (by simpa using hi)
    rw [inB_iff, Nat.zero_add] at this
    exact this
  · rintro ⟨h1, h2⟩
    refine ⟨fun i hi => ?_, h2⟩
    rw [inB_iff, Nat.zero_add]
    exact h1 i (by simpa using hi)
set_option maxRecDepth 100000 in
set_option maxHeartbeats 1000000 in
/-- The reference's order. -/
theorem isOrder_any (ar ap ao : Option Addr) (cr cp co : Nat) (rs ps : List (Int × Int)) (os : List Int) (p0 way step : Int) (w : World) (hn9 : rs.length ≤ 4611686018427387903) (hO : Ints w ao os) :
    Calls Try.prog 33 #[.agg #[.slice ar rs.length cr, .int .i64 p0, .int .i64 way, .int .i64 step, .slice ap ps.length cp], .slice ao os.length co] w fun e w' => e = .returned (.bool (isOrd rs.length os)) ∧ Below w.heap.size w w' := by
  obtain ⟨n, hn⟩ : ∃ n, n = rs.length := ⟨_, rfl⟩
  obtain ⟨m, hm⟩ : ∃ m, m = os.length := ⟨_, rfl⟩
  have lo := hO.len
  rw [← hm] at lo
  rw [← hn] at hn9 ⊢
  have hin := fun V i h => in_any ao co os i V h
  rw [← hm] at hin ⊢
  have HM := hid hm
  clear hm hn
  have hnI : (n : Int) ≤ 4611686018427387903 := by omega
  have hmI : (m : Int) ≤ 9223372036854775807 := by omega
  obtain ⟨r, hr⟩ : ∃ r, r = isOrd n os := ⟨_, rfl⟩
  rw [← hr]
  have HR := hid hr
  clear hr
  obtain ⟨W, hW, hb, hs, x0⟩ := boxes1 w #[.slice ar n cr, .int .i64 p0, .int .i64 way, .int .i64 step, .slice ap ps.length cp] 25
  clear hs
  have c0 := x0.cell 0 rfl; have c1 := x0.cell 1 rfl; have c2 := x0.cell 2 rfl; have c3 := x0.cell 3 rfl; have c4 := x0.cell 4 rfl
  go_enter Try.func33, Try.ntmps33
  go_wp2
  clear c0 c1 c2 c3 c4
  go_loopw [5] (fun v5 wr => ∃ k : Nat, k ≤ n ∧ v5 = .int .i64 (k : Int) ∧ Below W.heap.size W wr ∧ Hid (ordB n os 0 = ordB n os k)) (fun v5 _ => n - (intOf v5).toNat)
  case atStart => exact ⟨0, Nat.zero_le _, rfl, Below.refl _ _, hid rfl⟩
  case round =>
    obtain ⟨k, hk, rfl, hb1, HA⟩ := hrel
    have hbr := hb.trans (hb1.mono hb.size)
    replace x0 := x0.below hb1
    have c0 := x0.cell 0 rfl; have c1 := x0.cell 1 rfl; have c2 := x0.cell 2 rfl; have c3 := x0.cell 3 rfl; have c4 := x0.cell 4 rfl
    by_cases hlt : k < n
    · have hkI : (k : Int) < (n : Int) := by omega
      have hk0 : (0 : Int) ≤ (k : Int) := by omega
      obtain ⟨b, hbb⟩ : ∃ b, b = inB (k : Int) os := ⟨_, rfl⟩
      have hi1 := hin wr (k : Int) (hO.below hbr (Nat.le_refl _))
      rw [← hbb] at hi1
      have HB := hid (show ordB n os 0 = (b && ordB n os (k + 1)) by rw [HA.out, ordB_step hlt, hbb])
      clear hbb hin
      go_wp2_with fail
      refine hi1.mono ?_
      rintro e W1 ⟨rfl, hb2⟩
      replace hb1 := hb1.trans (hb2.mono hb1.size)
      replace hbr := hbr.trans (hb2.mono hbr.size)
      clear hb2 hi1 c0 c1 c2 c3 c4 x0
      cases b
      · have HZ := hid (show r = false by rw [HR.out]; unfold isOrd; rw [HB.out]; rfl)
        go_wp2
        go_ret
        exact ⟨ret_bool HZ.out.symm, hbr⟩
      · have HN := hid (show ordB n os 0 = ordB n os (k + 1) by rw [HB.out]; rfl)
        go_wp2
        go_roundw
        case rel => exact ⟨k + 1, by omega, by go_num, hb1, HN⟩
        case measure => simp [intOf]; omega
    · have hkI : (n : Int) ≤ (k : Int) := by omega
      have e0 : ordB n os k = true := by unfold ordB; rw [show n - k = 0 by omega]; rfl
      obtain ⟨b, hbb⟩ : ∃ b, b = decide ((m : Int) = (n : Int)) := ⟨_, rfl⟩
      have HZ := hid (show r = b by rw [HR.out, hbb]; unfold isOrd; rw [HA.out, e0, ← HM.out, Bool.true_and]; exact decide_eq_decide.2 (by omega))
      have hq : ((m : Int) == (n : Int)) = b := by rw [hbb]; rfl
      clear e0 hbb hin
      go_wp2
      go_ret
      exact ⟨ret_bool HZ.out.symm, hbr⟩
end Go.Proofs.Ytknaljghpfeikaa
