import Derived.Test.YtknaljghpfeikaaT20
namespace Go.Proofs.Ytknaljghpfeikaa
open Go.RowKit

set_option maxRecDepth 100000 in
set_option maxHeartbeats 1000000 in
theorem Latest_bad (ar ap : Option Addr) (cr cp : Nat) (rs ps : List (Int × Int)) (p0 way step : Int) (x by' : Int) (w : World) (hR : Prs w ar rs) (hP : Prs w ap ps) (hv : trB rs ps p0 way step = false) :
    Calls Try.prog 32 #[.agg #[.slice ar rs.length cr, .int .i64 p0, .int .i64 way, .int .i64 step, .slice ap ps.length cp], .int .i64 x, .int .i64 by'] w fun e w' => e = .returned (.tuple #[.int .i64 0, .int .i64 20]) ∧ Below w.heap.size w w' := by
  obtain ⟨W, hW, hb, hs, x0⟩ := boxes1 w #[.slice ar rs.length cr, .int .i64 p0, .int .i64 way, .int .i64 step, .slice ap ps.length cp] 25
  clear hs
  replace hR := hR.below hb (Nat.le_refl _); replace hP := hP.below hb (Nat.le_refl _)
  have c0 := x0.cell 0 rfl; have c1 := x0.cell 1 rfl; have c2 := x0.cell 2 rfl; have c3 := x0.cell 3 rfl; have c4 := x0.cell 4 rfl
  go_enter Try.func32, Try.ntmps32
  go_wp2_with fail
  refine (valid_any ar ap cr cp rs ps p0 way step W hR hP).mono ?_
  rintro e W1 ⟨rfl, hb1⟩
  rw [hv]
  replace hb := hb.trans (hb1.mono hb.size)
  clear hW x0 c0 c1 c2 c3 c4 hb1
  go_wp2
  go_ret2
  exact ⟨rfl, hb⟩

set_option maxRecDepth 100000 in
set_option maxHeartbeats 3000000 in
theorem Latest_arg (ar ap : Option Addr) (cr cp : Nat) (rs ps : List (Int × Int)) (p0 way step : Int) (x by' : Int) (w : World) (hR : Prs w ar rs) (hP : Prs w ap ps) (hv : trB rs ps p0 way step = true) (hx : (inR 0 x (2 * (rs.length : Int) - 1) && inR 0 by' 9999) = false) :
    Calls Try.prog 32 #[.agg #[.slice ar rs.length cr, .int .i64 p0, .int .i64 way, .int .i64 step, .slice ap ps.length cp], .int .i64 x, .int .i64 by'] w fun e w' => e = .returned (.tuple #[.int .i64 0, .int .i64 1]) ∧ Below w.heap.size w w' := by
  have hl := hR.1
  obtain ⟨W, hW, hb, hs, x0⟩ := boxes1 w #[.slice ar rs.length cr, .int .i64 p0, .int .i64 way, .int .i64 step, .slice ap ps.length cp] 25
  clear hs
  replace hR := hR.below hb (Nat.le_refl _); replace hP := hP.below hb (Nat.le_refl _)
  obtain ⟨q1, hq1⟩ : ∃ q1, q1 = inR 0 x (2 * (rs.length : Int) - 1) := ⟨_, rfl⟩
  have hsd := fun W => isSide_60 ar ap cr cp rs ps p0 way step x W hl
  rw [← hq1] at hsd hx
  clear hq1
  have c0 := x0.cell 0 rfl; have c1 := x0.cell 1 rfl; have c2 := x0.cell 2 rfl; have c3 := x0.cell 3 rfl; have c4 := x0.cell 4 rfl
  cases q1
  · go_enter Try.func32, Try.ntmps32
    go_wp2_with fail
    refine (valid_any ar ap cr cp rs ps p0 way step W hR hP).mono ?_
    rintro e W1 ⟨rfl, hb1⟩
    rw [hv]
    clear hW
    (try clear c0 c1 c2 c3 c4); replace x0 := x0.below hb1; have c0 := x0.cell 0 rfl; have c1 := x0.cell 1 rfl; have c2 := x0.cell 2 rfl; have c3 := x0.cell 3 rfl; have c4 := x0.cell 4 rfl; replace hb := hb.trans (hb1.mono hb.size); clear hb1
    go_wp2_with (first | (go_at_call 60; refine (hsd _).mono ?_; rintro e W2 ⟨rfl, hb2⟩))
    go_ret2
    exact ⟨rfl, hb.trans (hb2.mono hb.size)⟩
  · rw [Bool.true_and] at hx
    go_enter Try.func32, Try.ntmps32
    go_wp2_with fail
    refine (valid_any ar ap cr cp rs ps p0 way step W hR hP).mono ?_
    rintro e W1 ⟨rfl, hb1⟩
    rw [hv]
    clear hW
    (try clear c0 c1 c2 c3 c4); replace x0 := x0.below hb1; have c0 := x0.cell 0 rfl; have c1 := x0.cell 1 rfl; have c2 := x0.cell 2 rfl; have c3 := x0.cell 3 rfl; have c4 := x0.cell 4 rfl; replace hb := hb.trans (hb1.mono hb.size); clear hb1
    go_wp2_with (first | (go_at_call 60; refine (hsd _).mono ?_; rintro e W2 ⟨rfl, hb2⟩) | (go_at_call 57; refine (isTime_any _ _).mono ?_; rintro e w' ⟨rfl, rfl⟩))
    go_ret2
    exact ⟨rfl, hb.trans (hb2.mono hb.size)⟩

set_option maxRecDepth 100000 in
set_option maxHeartbeats 3000000 in
theorem Latest_ok (ar ap : Option Addr) (cr cp : Nat) (rs ps : List (Int × Int)) (p0 way step : Int) (x by' : Int) (w : World) (hR : Prs w ar rs) (hP : Prs w ap ps) (hv : trB rs ps p0 way step = true) (hx : inR 0 x (2 * (rs.length : Int) - 1) = true) (hy : inR 0 by' 9999 = true) (hlp : ps.length ≤ 12) (T : Tr) (hT : IsTr T rs ps p0 way step) :
    Calls Try.prog 32 #[.agg #[.slice ar rs.length cr, .int .i64 p0, .int .i64 way, .int .i64 step, .slice ap ps.length cp], .int .i64 x, .int .i64 by'] w fun e w' => ∃ k : Nat, e = .returned (if k = 0 then .tuple #[.int .i64 0, .int .i64 3] else .tuple #[.int .i64 ((k : Int) - 1), .int .i64 0]) ∧ (k : Int) ≤ by' + 1 ∧ (0 < k → lateP T x by' (k - 1) = false) ∧ ((k : Int) < by' + 1 → lateP T x by' k = true) ∧ Below w.heap.size w w' := by
  have hl := hR.1
  have hx2 := inR_iff.1 hx
  have hy2 := inR_iff.1 hy
  have hla := fun W h1 h2 => latest_any ar ap cr cp rs ps p0 way step x by' W h1 h2 (by omega) hy2 hlp T hT
  obtain ⟨W, hW, hb, hs, x0⟩ := boxes1 w #[.slice ar rs.length cr, .int .i64 p0, .int .i64 way, .int .i64 step, .slice ap ps.length cp] 25
  clear hs
  replace hR := hR.below hb (Nat.le_refl _); replace hP := hP.below hb (Nat.le_refl _)
  have hsd := fun W => isSide_60 ar ap cr cp rs ps p0 way step x W hl
  rw [hx] at hsd
  have c0 := x0.cell 0 rfl; have c1 := x0.cell 1 rfl; have c2 := x0.cell 2 rfl; have c3 := x0.cell 3 rfl; have c4 := x0.cell 4 rfl
  go_enter Try.func32, Try.ntmps32
  go_wp2_with fail
  refine (valid_any ar ap cr cp rs ps p0 way step W hR hP).mono ?_
  rintro e W1 ⟨rfl, hb1⟩
  rw [hv]
  clear hW
  replace hR := hR.below hb1 (Nat.le_refl _); replace hP := hP.below hb1 (Nat.le_refl _)
  (try clear c0 c1 c2 c3 c4); replace x0 := x0.below hb1; have c0 := x0.cell 0 rfl; have c1 := x0.cell 1 rfl; have c2 := x0.cell 2 rfl; have c3 := x0.cell 3 rfl; have c4 := x0.cell 4 rfl; replace hb := hb.trans (hb1.mono hb.size); clear hb1
  go_upto_region 5 with (first | (go_at_call 60; refine (hsd _).mono ?_; rintro e W2 ⟨rfl, hb2⟩) | (go_at_call 57; refine (isTime_any _ _).mono ?_; rintro e w' ⟨rfl, rfl⟩))
  replace hR := hR.below hb2 (Nat.le_refl _); replace hP := hP.below hb2 (Nat.le_refl _)
  (try clear c0 c1 c2 c3 c4); replace x0 := x0.below hb2; have c0 := x0.cell 0 rfl; have c1 := x0.cell 1 rfl; have c2 := x0.cell 2 rfl; have c3 := x0.cell 3 rfl; have c4 := x0.cell 4 rfl; replace hb := hb.trans (hb2.mono hb.size); clear hb2
  go_wp2_with fail
  refine (hla _ hR hP).mono ?_
  rintro e V ⟨k, rfl, hk, h1, h2, hb3⟩
  replace hb := hb.trans (hb3.mono hb.size)
  have H := hid (And.intro hk (And.intro h1 h2))
  clear hla hsd x0 c0 c1 c2 c3 c4 hk h1 h2 hb3 hR hP
  rcases Nat.eq_zero_or_pos k with h0 | h0
  · subst h0
    go_wp2
    go_ret2
    exact ⟨0, by rw [if_pos rfl]; rfl, H.out.1, H.out.2.1, H.out.2.2, hb⟩
  · have hkI : (0 : Int) < (k : Int) := by omega
    go_wp2
    go_ret2
    exact ⟨k, by rw [if_neg (by omega)]; rfl, H.out.1, H.out.2.1, H.out.2.2, hb⟩
end Go.Proofs.Ytknaljghpfeikaa
