import Derived.Test.YtknaljghpfeikaaT39
namespace Go.Proofs.Ytknaljghpfeikaa
open Go.RowKit

set_option maxRecDepth 100000 in
set_option maxHeartbeats 1000000 in
theorem Far2_any (ar ap : Option Addr) (cr cp : Nat) (rs ps : List (Int × Int)) (p0 way step : Int) (w : World) (hlr : rs.length ≤ 9223372036854775807) (hlp : ps.length ≤ 9223372036854775807) :
    Calls Try.prog 36 #[.agg #[.slice ar rs.length cr, .int .i64 p0, .int .i64 way, .int .i64 step, .slice ap ps.length cp]] w fun e w' => e = .returned (.bool (decide (40 < rs.length) || decide (40 < ps.length))) ∧ Below w.heap.size w w' := by
  obtain ⟨n, hn⟩ : ∃ n, n = rs.length := ⟨_, rfl⟩
  obtain ⟨m, hm⟩ : ∃ m, m = ps.length := ⟨_, rfl⟩
  rw [← hn] at hlr ⊢
  rw [← hm] at hlp ⊢
  have hnI : (n : Int) ≤ 9223372036854775807 := by omega
  have hmI : (m : Int) ≤ 9223372036854775807 := by omega
  have hn0 : (0 : Int) ≤ (n : Int) := by omega
  have hm0 : (0 : Int) ≤ (m : Int) := by omega
  clear hn hm hlr hlp
  obtain ⟨W, hW, hb, hs, x0⟩ := boxes1 w #[.slice ar n cr, .int .i64 p0, .int .i64 way, .int .i64 step, .slice ap m cp] 25
  clear hs
  have c0 := x0.cell 0 rfl; have c1 := x0.cell 1 rfl; have c2 := x0.cell 2 rfl; have c3 := x0.cell 3 rfl; have c4 := x0.cell 4 rfl
  by_cases h1 : 40 < n
  · have h1I : (40 : Int) < (n : Int) := by omega
    go_enter Try.func36, Try.ntmps36
    go_wp2
    go_ret
    exact ⟨by simp [h1], hb⟩
  · have h1I : (n : Int) ≤ 40 := by omega
    by_cases h2 : 40 < m
    · have h2I : (40 : Int) < (m : Int) := by omega
      go_enter Try.func36, Try.ntmps36
      go_wp2
      go_ret
      exact ⟨by simp [h2], hb⟩
    · have h2I : (m : Int) ≤ 40 := by omega
      go_enter Try.func36, Try.ntmps36
      go_wp2
      go_ret
      exact ⟨by simp [h1, h2]; exact ⟨h1I, h2I⟩, hb⟩

/-- Whether a tray is one that a statement examines. -/
def rdB (rs ps : List (Int × Int)) (p0 way step : Int) : Bool := !(decide (40 < rs.length) || decide (40 < ps.length)) && trB rs ps p0 way step
theorem rdB_len {rs ps : List (Int × Int)} {p0 way step : Int} (h : rdB rs ps p0 way step = true) : trB rs ps p0 way step = true := by
  unfold rdB at h
  simp only [Bool.and_eq_true] at h
  exact h.2
set_option maxRecDepth 100000 in
set_option maxHeartbeats 1000000 in
theorem ready_any (ar ap : Option Addr) (cr cp : Nat) (rs ps : List (Int × Int)) (p0 way step : Int) (w : World) (hlr : rs.length ≤ 9223372036854775807) (hlp : ps.length ≤ 9223372036854775807) (hR : rs.length ≤ 1000 → Prs w ar rs) (hP : ps.length ≤ 1000 → Prs w ap ps) :
    Calls Try.prog 16 #[.agg #[.slice ar rs.length cr, .int .i64 p0, .int .i64 way, .int .i64 step, .slice ap ps.length cp]] w fun e w' => e = .returned (.bool (rdB rs ps p0 way step)) ∧ Below w.heap.size w w' := by
  obtain ⟨W, hW, hb, hs, x0⟩ := boxes1 w #[.slice ar rs.length cr, .int .i64 p0, .int .i64 way, .int .i64 step, .slice ap ps.length cp] 25
  clear hs
  have c0 := x0.cell 0 rfl; have c1 := x0.cell 1 rfl; have c2 := x0.cell 2 rfl; have c3 := x0.cell 3 rfl; have c4 := x0.cell 4 rfl
  have hfa := Far2_any ar ap cr cp rs ps p0 way step W hlr hlp
  cases hf : (decide (40 < rs.length) || decide (40 < ps.length))
  · have h2 : rs.length ≤ 40 ∧ ps.length ≤ 40 := by simpa using hf
    have hR1 := (hR (by omega)).below hb (Nat.le_refl _)
    have hP1 := (hP (by omega)).below hb (Nat.le_refl _)
    have hrd : rdB rs ps p0 way step = trB rs ps p0 way step := by unfold rdB; rw [hf]; rfl
    rw [hrd]
    rw [hf] at hfa
    clear hf hrd h2 hR hP hlr hlp
    have hck := fun V h1 h2 => rCheck_any ar ap cr cp rs ps p0 way step V h1 h2
    generalize trB rs ps p0 way step = bb at hck ⊢
    go_enter Try.func16, Try.ntmps16
    go_wp2_with fail
    refine hfa.mono ?_
    rintro e W1 ⟨rfl, hb1⟩
    clear hW hfa
    replace hR1 := hR1.below hb1 (Nat.le_refl _); replace hP1 := hP1.below hb1 (Nat.le_refl _)
    (try clear c0 c1 c2 c3 c4); replace x0 := x0.below hb1; have c0 := x0.cell 0 rfl; have c1 := x0.cell 1 rfl; have c2 := x0.cell 2 rfl; have c3 := x0.cell 3 rfl; have c4 := x0.cell 4 rfl; replace hb := hb.trans (hb1.mono hb.size); clear hb1
    go_wp2_with fail
    refine (hck _ hR1 hP1).mono ?_
    rintro e W2 ⟨rfl, hb1⟩
    replace hb := hb.trans (hb1.mono hb.size)
    clear hck hb1 x0 c0 c1 c2 c3 c4
    cases bb
    · go_wp2
      go_ret
      exact ⟨rfl, hb⟩
    · go_wp2
      go_ret
      exact ⟨rfl, hb⟩
  · have hrd : rdB rs ps p0 way step = false := by unfold rdB; rw [hf]; rfl
    rw [hrd]
    rw [hf] at hfa
    clear hf hrd hR hP hlr hlp
    go_enter Try.func16, Try.ntmps16
    go_wp2_with fail
    refine hfa.mono ?_
    rintro e W1 ⟨rfl, hb1⟩
    clear hW hfa
    replace hb := hb.trans (hb1.mono hb.size)
    clear hb1 x0 c0 c1 c2 c3 c4
    go_wp2
    go_ret
    exact ⟨rfl, hb⟩
end Go.Proofs.Ytknaljghpfeikaa
