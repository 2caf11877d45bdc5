import Derived.Test.YtknaljghpfeikaaT21
namespace Go.Proofs.Ytknaljghpfeikaa
open Go.RowKit

set_option maxRecDepth 100000 in
set_option maxHeartbeats 1000000 in
theorem Far_any (ar ap : Option Addr) (cr cp : Nat) (rs ps : List (Int × Int)) (p0 way step : Int) (w : World) (hlr : rs.length ≤ 4611686018427387903) (hlp : ps.length ≤ 4611686018427387903) :
    Calls Try.prog 36 #[.agg #[.slice ar rs.length cr, .int .i64 p0, .int .i64 way, .int .i64 step, .slice ap ps.length cp]] w fun e w' => e = .returned (.bool (decide (40 < rs.length) || decide (40 < ps.length))) ∧ Below w.heap.size w w' := by
  obtain ⟨n, hn⟩ : ∃ n, n = rs.length := ⟨_, rfl⟩
  obtain ⟨m, hm⟩ : ∃ m, m = ps.length := ⟨_, rfl⟩
  rw [← hn, ← hm]
  have hnI : (n : Int) ≤ 4611686018427387903 := by omega
  have hmI : (m : Int) ≤ 4611686018427387903 := by omega
  have hn0 : (0 : Int) ≤ (n : Int) := by omega
  have hm0 : (0 : Int) ≤ (m : Int) := by omega
  clear hn hm hlr hlp
  obtain ⟨W, hW, hb, hs, x0⟩ := boxes1 w #[.slice ar n cr, .int .i64 p0, .int .i64 way, .int .i64 step, .slice ap m cp] 25
  clear hs
  have c0 := x0.cell 0 rfl; have c1 := x0.cell 1 rfl; have c2 := x0.cell 2 rfl; have c3 := x0.cell 3 rfl; have c4 := x0.cell 4 rfl
  by_cases h1 : 40 < n
  · have h1I : (40 : Int) < (n : Int) := by omega
    go_enter Try.func36, Try.ntmps36
    go_wp2
    go_ret
    exact ⟨by simp [h1], hb⟩
  · have h1I : (n : Int) ≤ 40 := by omega
    by_cases h2 : 40 < m
    · have h2I : (40 : Int) < (m : Int) := by omega
      go_enter Try.func36, Try.ntmps36
      go_wp2
      go_ret
      exact ⟨by simp [h2], hb⟩
    · have h2I : (m : Int) ≤ 40 := by omega
      go_enter Try.func36, Try.ntmps36
      go_wp2
      go_ret
      exact ⟨by simp [h1, h2]; exact ⟨h1I, h2I⟩, hb⟩

set_option maxRecDepth 100000 in
set_option maxHeartbeats 3000000 in
/-- Two rows of the same plays. -/
theorem SamePlays_eq (a b : Option Addr) (ca cb : Nat) (xs : List (Int × Int)) (w : World) (hA : Prs w a xs) (hB : Prs w b xs) :
    Calls Try.prog 25 #[.slice a xs.length ca, .slice b xs.length cb] w fun e w' => e = .returned (.bool true) ∧ Below w.heap.size w w' := by
  have ll := hA.1
  have llI : (xs.length : Int) ≤ 4611686018427387903 := by omega
  go_enter Try.func25, Try.ntmps25
  go_wp2
  go_loopw [5] (fun v5 wr => ∃ k : Nat, k ≤ xs.length ∧ v5 = .int .i64 (k : Int) ∧ Below w.heap.size w wr) (fun v5 _ => xs.length - (intOf v5).toNat)
  case atStart => exact ⟨0, Nat.zero_le _, rfl, Below.refl _ _⟩
  case round =>
    obtain ⟨k, hk, rfl, hb⟩ := hrel
    by_cases hlt : k < xs.length
    · obtain ⟨b1, o1, u1, t1, rfl, _, g0, g1, _, _, hx1, _⟩ := (hA.below hb (Nat.le_refl _)).at hlt
      obtain ⟨b2, o2, u2, t2, rfl, _, d0, d1, _, _, hx2, _⟩ := (hB.below hb (Nat.le_refl _)).at hlt
      have he := hx2.out
      rw [hx1.out] at he
      simp only [Option.some.injEq, Prod.mk.injEq] at he
      obtain ⟨rfl, rfl⟩ := he
      clear hx1 hx2
      have hkI : (k : Int) < (xs.length : Int) := by omega
      have hk0 : (0 : Int) ≤ (k : Int) := by omega
      go_upto_region 6 with fail
      go_quiet ((fail))
      generalize hV2 : wr.drewN nq = V2
      have hbd : Below wr.heap.size wr V2 := by rw [← hV2]; exact below_drewN (Below.refl _ _) _
      have hb2 := hb.trans (hbd.mono hb.size)
      clear hV2 g0 g1 d0 d1 hbd
      go_wp2
      go_roundw
      case rel => exact ⟨k + 1, by omega, by go_num, hb2⟩
      case measure => simp [intOf]; omega
    · have hkI : (xs.length : Int) ≤ (k : Int) := by omega
      go_wp2
      go_ret
      exact ⟨rfl, hb⟩
end Go.Proofs.Ytknaljghpfeikaa
