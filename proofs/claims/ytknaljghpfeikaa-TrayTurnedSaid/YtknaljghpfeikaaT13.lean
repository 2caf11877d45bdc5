import Derived.Test.YtknaljghpfeikaaT12
import Derived.Test.YtknaljghpfeikaaM2
namespace Go.Proofs.Ytknaljghpfeikaa
open Go.RowKit

set_option maxRecDepth 100000 in
set_option maxHeartbeats 1000000 in
/-- Whether a tray is valid and has a press. -/
theorem checkPressed_any (ar ap : Option Addr) (cr cp : Nat) (rs ps : List (Int × Int)) (p0 way step : Int) (w : World) (hR : Prs w ar rs) (hP : Prs w ap ps) (hl : ps.length ≤ 4611686018427387903) :
    Calls Try.prog 55 #[.agg #[.slice ar rs.length cr, .int .i64 p0, .int .i64 way, .int .i64 step, .slice ap ps.length cp]] w fun e w' => e = .returned (.int .i64 (if trB rs ps p0 way step then (if ps.length = 0 then 3 else 0) else 20)) ∧ Below w.heap.size w w' := by
  obtain ⟨v, hve⟩ : ∃ v, v = trB rs ps p0 way step := ⟨_, rfl⟩
  obtain ⟨W, hW, hb, hs, x0⟩ := boxes1 w #[.slice ar rs.length cr, .int .i64 p0, .int .i64 way, .int .i64 step, .slice ap ps.length cp] 25
  clear hs
  replace hR := hR.below hb (Nat.le_refl _); replace hP := hP.below hb (Nat.le_refl _)
  have hva := valid_any ar ap cr cp rs ps p0 way step W hR hP
  rw [← hve] at hva ⊢
  clear hve
  cases v
  · have c0 := x0.cell 0 rfl; have c1 := x0.cell 1 rfl; have c2 := x0.cell 2 rfl; have c3 := x0.cell 3 rfl; have c4 := x0.cell 4 rfl
    go_enter Try.func55, Try.ntmps55
    go_wp2_with fail
    refine hva.mono ?_
    rintro e W1 ⟨rfl, hb1⟩
    replace hb := hb.trans (hb1.mono hb.size)
    clear hW x0 c0 c1 c2 c3 c4 hb1 hva
    go_wp2
    go_ret
    exact ⟨rfl, hb⟩
  · have hlI : (ps.length : Int) ≤ 4611686018427387903 := by omega
    obtain ⟨n, hn⟩ : ∃ n, n = ps.length := ⟨_, rfl⟩
    rw [← hn] at hva x0 hW hlI ⊢
    have HN := hid hn
    clear hn hl hR hP
    rcases Nat.eq_zero_or_pos n with h0 | h0
    · subst h0
      have c0 := x0.cell 0 rfl; have c1 := x0.cell 1 rfl; have c2 := x0.cell 2 rfl; have c3 := x0.cell 3 rfl; have c4 := x0.cell 4 rfl
      go_enter Try.func55, Try.ntmps55
      go_wp2_with fail
      refine hva.mono ?_
      rintro e W1 ⟨rfl, hb1⟩
      (try clear c0 c1 c2 c3 c4); replace x0 := x0.below hb1; have c0 := x0.cell 0 rfl; have c1 := x0.cell 1 rfl; have c2 := x0.cell 2 rfl; have c3 := x0.cell 3 rfl; have c4 := x0.cell 4 rfl; replace hb := hb.trans (hb1.mono hb.size); clear hb1
      clear hW hva
      go_wp2
      go_ret
      exact ⟨rfl, hb⟩
    · have h1 : (1 : Int) ≤ (n : Int) := by omega
      have c0 := x0.cell 0 rfl; have c1 := x0.cell 1 rfl; have c2 := x0.cell 2 rfl; have c3 := x0.cell 3 rfl; have c4 := x0.cell 4 rfl
      go_enter Try.func55, Try.ntmps55
      go_wp2_with fail
      refine hva.mono ?_
      rintro e W1 ⟨rfl, hb1⟩
      (try clear c0 c1 c2 c3 c4); replace x0 := x0.below hb1; have c0 := x0.cell 0 rfl; have c1 := x0.cell 1 rfl; have c2 := x0.cell 2 rfl; have c3 := x0.cell 3 rfl; have c4 := x0.cell 4 rfl; replace hb := hb.trans (hb1.mono hb.size); clear hb1
      clear hW hva
      go_wp2
      go_ret
      exact ⟨by have h2 : n ≠ 0 := by omega
                simp, hb⟩

set_option maxRecDepth 100000 in
set_option maxHeartbeats 1000000 in
theorem End_bad (ar ap : Option Addr) (cr cp : Nat) (rs ps : List (Int × Int)) (p0 way step : Int) (w : World) (hR : Prs w ar rs) (hP : Prs w ap ps) (hl : ps.length ≤ 4611686018427387903) (r : Int) (hr : r = if trB rs ps p0 way step then (if ps.length = 0 then 3 else 0) else 20) (hr0 : r ≠ 0) (_hrb : 0 ≤ r ∧ r ≤ 20) :
    Calls Try.prog 22 #[.agg #[.slice ar rs.length cr, .int .i64 p0, .int .i64 way, .int .i64 step, .slice ap ps.length cp]] w fun e w' => e = .returned (.tuple #[.int .i64 0, .int .i64 r]) ∧ Below w.heap.size w w' := by
  obtain ⟨W, hW, hb, hs, x0⟩ := boxes1 w #[.slice ar rs.length cr, .int .i64 p0, .int .i64 way, .int .i64 step, .slice ap ps.length cp] 25
  clear hs
  replace hR := hR.below hb (Nat.le_refl _); replace hP := hP.below hb (Nat.le_refl _)
  have hck := checkPressed_any ar ap cr cp rs ps p0 way step W hR hP hl
  rw [← hr] at hck
  clear hr
  have c0 := x0.cell 0 rfl; have c1 := x0.cell 1 rfl; have c2 := x0.cell 2 rfl; have c3 := x0.cell 3 rfl; have c4 := x0.cell 4 rfl
  go_enter Try.func22, Try.ntmps22
  go_wp2_with fail
  refine hck.mono ?_
  rintro e W1 ⟨rfl, hb1⟩
  replace hb := hb.trans (hb1.mono hb.size)
  clear hW x0 c0 c1 c2 c3 c4 hb1 hck
  go_wp2
  go_ret2
  exact ⟨rfl, hb⟩

set_option maxRecDepth 100000 in
set_option maxHeartbeats 1000000 in
theorem End_ok (ar ap : Option Addr) (cr cp : Nat) (rs ps : List (Int × Int)) (p0 way step : Int) (w : World) (hR : Prs w ar rs) (hP : Prs w ap ps) (hv : trB rs ps p0 way step = true) (h0 : ps.length ≠ 0) (T : Tr) (hT : IsTr T rs ps p0 way step) (c : Car) (hc : c = runM T maxI) :
    Calls Try.prog 22 #[.agg #[.slice ar rs.length cr, .int .i64 p0, .int .i64 way, .int .i64 step, .slice ap ps.length cp]] w fun e w' => e = .returned (.tuple #[.int .i64 c.fin, .int .i64 0]) ∧ Below w.heap.size w w' := by
  have hdo := fun W h1 h2 => deedsOf_any ar ap cr cp rs ps p0 way step W h1 h2 T hT
  unfold DeedP at hdo
  rw [← hc] at hdo
  clear hc
  have hl := hP.1
  obtain ⟨W, hW, hb, hs, x0⟩ := boxes1 w #[.slice ar rs.length cr, .int .i64 p0, .int .i64 way, .int .i64 step, .slice ap ps.length cp] 25
  clear hs
  replace hR := hR.below hb (Nat.le_refl _); replace hP := hP.below hb (Nat.le_refl _)
  have hck := checkPressed_any ar ap cr cp rs ps p0 way step W hR hP (by omega)
  rw [hv, if_pos rfl, if_neg h0] at hck
  have c0 := x0.cell 0 rfl; have c1 := x0.cell 1 rfl; have c2 := x0.cell 2 rfl; have c3 := x0.cell 3 rfl; have c4 := x0.cell 4 rfl
  go_enter Try.func22, Try.ntmps22
  go_wp2_with fail
  refine hck.mono ?_
  rintro e W1 ⟨rfl, hb1⟩
  clear hW hck
  replace hR := hR.below hb1 (Nat.le_refl _); replace hP := hP.below hb1 (Nat.le_refl _)
  (try clear c0 c1 c2 c3 c4); replace x0 := x0.below hb1; have c0 := x0.cell 0 rfl; have c1 := x0.cell 1 rfl; have c2 := x0.cell 2 rfl; have c3 := x0.cell 3 rfl; have c4 := x0.cell 4 rfl; replace hb := hb.trans (hb1.mono hb.size); clear hb1
  go_wp2_with fail
  refine (hdo _ hR hP).mono ?_
  rintro e W2 ⟨hb1, a, cv, rfl, hpr⟩
  replace hb := hb.trans (hb1.mono hb.size)
  clear hdo x0 c0 c1 c2 c3 c4 hb1
  unfold deedV
  obtain ⟨d, hd⟩ : ∃ d : Int, d = if c.up then 1 else -1 := ⟨_, rfl⟩
  rw [← hd]
  have hF1 := fun W => (deed_f (.int .i64 (c.pos : Nat)) (.int .i64 d) (.int .i64 c.side) a c.plays.length cv (c.steps : Nat) c.fin W).2.2
  clear hd
  go_wp2
  go_ret2
  exact ⟨rfl, hb⟩
end Go.Proofs.Ytknaljghpfeikaa
