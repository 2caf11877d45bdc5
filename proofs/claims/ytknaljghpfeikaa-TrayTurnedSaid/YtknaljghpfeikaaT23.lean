import Derived.Test.YtknaljghpfeikaaT22
namespace Go.Proofs.Ytknaljghpfeikaa
open Go.RowKit

set_option maxRecDepth 100000 in
set_option maxHeartbeats 4000000 in
/-- Two trays that read alike. -/
theorem Same_eq (ar ap : Option Addr) (cr cp : Nat) (rs ps : List (Int × Int)) (p0 way step : Int) (br bp : Option Addr) (dr dp : Nat) (w : World) (hR : Prs w ar rs) (hP : Prs w ap ps) (hR2 : Prs w br rs) (hP2 : Prs w bp ps) :
    Calls Try.prog 41 #[.agg #[.slice ar rs.length cr, .int .i64 p0, .int .i64 way, .int .i64 step, .slice ap ps.length cp], .agg #[.slice br rs.length dr, .int .i64 p0, .int .i64 way, .int .i64 step, .slice bp ps.length dp]] w fun e w' => e = .returned (.bool true) ∧ Below w.heap.size w w' := by
  have lr := hR.1; have lp := hP.1
  obtain ⟨n, hn⟩ : ∃ n, n = rs.length := ⟨_, rfl⟩
  obtain ⟨m, hm⟩ : ∃ m, m = ps.length := ⟨_, rfl⟩
  rw [← hn, ← hm]
  rw [← hn] at lr; rw [← hm] at lp
  have HN := hid hn; have HM := hid hm
  clear hn hm
  have hnI : (n : Int) ≤ 4611686018427387903 := by omega
  have hmI : (m : Int) ≤ 4611686018427387903 := by omega
  have hn0 : (0 : Int) ≤ (n : Int) := by omega
  have hm0 : (0 : Int) ≤ (m : Int) := by omega
  obtain ⟨W, hW, hb, hs, x0, y0⟩ := boxes2 w #[.slice ar n cr, .int .i64 p0, .int .i64 way, .int .i64 step, .slice ap m cp] 25 #[.slice br n dr, .int .i64 p0, .int .i64 way, .int .i64 step, .slice bp m dp] 25
  have c0 := x0.cell 0 rfl; have c1 := x0.cell 1 rfl; have c2 := x0.cell 2 rfl; have c3 := x0.cell 3 rfl; have c4 := x0.cell 4 rfl
  have d0 := y0.cell 0 rfl; have d1 := y0.cell 1 rfl; have d2 := y0.cell 2 rfl; have d3 := y0.cell 3 rfl; have d4 := y0.cell 4 rfl
  have hw1 := x0.lt; have hw2 := y0.lt
  go_enter Try.func41, Try.ntmps41
  go_wp2
  clear c0 c1 c2 c3 c4 d0 d1 d2 d3 d4
  go_loopw [5] (fun v5 wr => ∃ k : Nat, k ≤ n ∧ v5 = .int .i64 (k : Int) ∧ Below W.heap.size W wr) (fun v5 _ => n - (intOf v5).toNat)
  case atStart => exact ⟨0, Nat.zero_le _, rfl, Below.refl _ _⟩
  case round =>
    obtain ⟨k, hk, rfl, hb1⟩ := hrel
    have x1 := x0.below hb1; have y1 := y0.below hb1
    have hbr := hb.trans (hb1.mono hb.size)
    have c0 := x1.cell 0 rfl; have c1 := x1.cell 1 rfl; have c2 := x1.cell 2 rfl; have c3 := x1.cell 3 rfl; have c4 := x1.cell 4 rfl
    have d0 := y1.cell 0 rfl; have d1 := y1.cell 1 rfl; have d2 := y1.cell 2 rfl; have d3 := y1.cell 3 rfl; have d4 := y1.cell 4 rfl
    by_cases hlt : k < n
    · obtain ⟨b1, o1, u1, t1, rfl, _, g0, g1, _, _, hx1, _⟩ := (hR.below hbr (Nat.le_refl _)).at (show k < rs.length by rw [← HN.out]; exact hlt)
      obtain ⟨b2, o2, u2, t2, rfl, _, e0, e1, _, _, hx2, _⟩ := (hR2.below hbr (Nat.le_refl _)).at (show k < rs.length by rw [← HN.out]; exact hlt)
      have he := hx2.out
      rw [hx1.out] at he
      simp only [Option.some.injEq, Prod.mk.injEq] at he
      obtain ⟨rfl, rfl⟩ := he
      clear hx1 hx2
      have hkI : (k : Int) < (n : Int) := by omega
      have hk0 : (0 : Int) ≤ (k : Int) := by omega
      go_upto_region 6 with fail
      go_quiet ((fail))
      generalize hV2 : wr.drewN nq = V2
      have hbd : Below wr.heap.size wr V2 := by rw [← hV2]; exact below_drewN (Below.refl _ _) _
      have hb2 := hb1.trans (hbd.mono hb1.size)
      clear hV2 g0 g1 e0 e1 c0 c1 c2 c3 c4 d0 d1 d2 d3 d4 x1 y1 hbd
      go_wp2
      go_roundw
      case rel => exact ⟨k + 1, by omega, by go_num, hb2⟩
      case measure => simp [intOf]; omega
    · have hkI : (n : Int) ≤ (k : Int) := by omega
      go_wp2
      clear c0 c1 c2 c3 c4 d0 d1 d2 d3 d4
      go_loopw [6] (fun v6 wr => ∃ k : Nat, k ≤ m ∧ v6 = .int .i64 (k : Int) ∧ Below W.heap.size W wr) (fun v6 _ => m - (intOf v6).toNat)
      case atStart => exact ⟨0, Nat.zero_le _, rfl, hb1⟩
      case round =>
        obtain ⟨j, hj, rfl, hb1'⟩ := hrel
        have x2 := x0.below hb1'; have y2 := y0.below hb1'
        have hbv := hb.trans (hb1'.mono hb.size)
        have c0 := x2.cell 0 rfl; have c1 := x2.cell 1 rfl; have c2 := x2.cell 2 rfl; have c3 := x2.cell 3 rfl; have c4 := x2.cell 4 rfl
        have d0 := y2.cell 0 rfl; have d1 := y2.cell 1 rfl; have d2 := y2.cell 2 rfl; have d3 := y2.cell 3 rfl; have d4 := y2.cell 4 rfl
        by_cases hlt2 : j < m
        · obtain ⟨b1, o1, u1, t1, rfl, _, g0, g1, _, _, hx1, _⟩ := (hP.below hbv (Nat.le_refl _)).at (show j < ps.length by rw [← HM.out]; exact hlt2)
          obtain ⟨b2, o2, u2, t2, rfl, _, e0, e1, _, _, hx2, _⟩ := (hP2.below hbv (Nat.le_refl _)).at (show j < ps.length by rw [← HM.out]; exact hlt2)
          have he := hx2.out
          rw [hx1.out] at he
          simp only [Option.some.injEq, Prod.mk.injEq] at he
          obtain ⟨rfl, rfl⟩ := he
          clear hx1 hx2
          have hjI : (j : Int) < (m : Int) := by omega
          have hj0 : (0 : Int) ≤ (j : Int) := by omega
          go_upto_region 11 with fail
          go_quiet ((fail))
          generalize hV2 : wr.drewN nq = V2
          have hbd : Below wr.heap.size wr V2 := by rw [← hV2]; exact below_drewN (Below.refl _ _) _
          have hb2 := hb1'.trans (hbd.mono hb1'.size)
          clear hV2 g0 g1 e0 e1 c0 c1 c2 c3 c4 d0 d1 d2 d3 d4 x2 y2 hbd
          go_wp2
          go_roundw
          case rel => exact ⟨j + 1, by omega, by go_num, hb2⟩
          case measure => simp [intOf]; omega
        · have hjI : (m : Int) ≤ (j : Int) := by omega
          go_wp2
          go_ret
          exact ⟨rfl, hbv⟩
end Go.Proofs.Ytknaljghpfeikaa
