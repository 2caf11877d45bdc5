import Derived.Test.YtknaljghpfeikaaT83
import Derived.Test.YtknaljghpfeikaaT66
namespace Go.Proofs.Ytknaljghpfeikaa
open Go.RowKit

set_option maxRecDepth 100000 in
set_option maxHeartbeats 1000000 in
theorem far_15 (ar ap : Option Addr) (cr cp : Nat) (rs ps : List (Int × Int)) (p0 way step : Int) (w : World) (hlr : rs.length ≤ 9223372036854775807) (hlp : ps.length ≤ 9223372036854775807) (hf : (decide (40 < rs.length) || decide (40 < ps.length)) = true) :
    Calls Try.prog 15 #[.agg #[.slice ar rs.length cr, .int .i64 p0, .int .i64 way, .int .i64 step, .slice ap ps.length cp]] w (WorksP w) := by
  obtain ⟨W, hW, hb, hs, x0⟩ := boxes1 w #[.slice ar rs.length cr, .int .i64 p0, .int .i64 way, .int .i64 step, .slice ap ps.length cp] 25
  clear hs
  have hfa := Far2_any ar ap cr cp rs ps p0 way step W hlr hlp
  rw [hf] at hfa
  have c0 := x0.cell 0 rfl; have c1 := x0.cell 1 rfl; have c2 := x0.cell 2 rfl; have c3 := x0.cell 3 rfl; have c4 := x0.cell 4 rfl
  clear hlr hlp hf
  go_enter Try.func15, Try.ntmps15
  go_wp2_with fail
  refine hfa.mono ?_
  rintro e W1 ⟨rfl, hb1⟩
  clear hW hfa
  (try clear c0 c1 c2 c3 c4); replace x0 := x0.below hb1; have c0 := x0.cell 0 rfl; have c1 := x0.cell 1 rfl; have c2 := x0.cell 2 rfl; have c3 := x0.cell 3 rfl; have c4 := x0.cell 4 rfl; replace hb := hb.trans (hb1.mono hb.size); clear hb1
  go_wp2_with fail
  refine (works_any _).mono ?_
  rintro e V3 ⟨rfl, hb1⟩
  replace hb := hb.trans (hb1.mono hb.size)
  clear hb1
  clear x0 c0 c1 c2 c3 c4
  go_wp2
  go_ret
  exact ⟨rfl, hb⟩
set_option maxRecDepth 100000 in
set_option maxHeartbeats 1000000 in
theorem many_15 (ar ap : Option Addr) (cr cp : Nat) (rs ps : List (Int × Int)) (p0 way step : Int) (w : World) (hR : Prs w ar rs) (hP : Prs w ap ps) (hl : rs.length ≤ 40 ∧ ps.length ≤ 40) (h4 : 4 < rs.length) (hv : trB rs ps p0 way step = true) :
    Calls Try.prog 15 #[.agg #[.slice ar rs.length cr, .int .i64 p0, .int .i64 way, .int .i64 step, .slice ap ps.length cp]] w (WorksP w) := by
  obtain ⟨W, hW, hb, hs, x0⟩ := boxes1 w #[.slice ar rs.length cr, .int .i64 p0, .int .i64 way, .int .i64 step, .slice ap ps.length cp] 25
  clear hs
  have hfa := Far2_any ar ap cr cp rs ps p0 way step W (by omega) (by omega)
  rw [show (decide (40 < rs.length) || decide (40 < ps.length)) = false by simp; omega] at hfa
  have hck := fun V h1 h2 => rCheck_any ar ap cr cp rs ps p0 way step V h1 h2
  rw [hv] at hck
  have h4I : (4 : Int) < (rs.length : Int) := by omega
  have c0 := x0.cell 0 rfl; have c1 := x0.cell 1 rfl; have c2 := x0.cell 2 rfl; have c3 := x0.cell 3 rfl; have c4 := x0.cell 4 rfl
  clear hv
  go_enter Try.func15, Try.ntmps15
  go_wp2_with fail
  refine hfa.mono ?_
  rintro e W1 ⟨rfl, hb1⟩
  clear hW hfa
  (try clear c0 c1 c2 c3 c4); replace x0 := x0.below hb1; have c0 := x0.cell 0 rfl; have c1 := x0.cell 1 rfl; have c2 := x0.cell 2 rfl; have c3 := x0.cell 3 rfl; have c4 := x0.cell 4 rfl; replace hb := hb.trans (hb1.mono hb.size); clear hb1
  go_wp2_with fail
  refine (hck _ (hR.below hb (Nat.le_refl _)) (hP.below hb (Nat.le_refl _))).mono ?_
  rintro e W2 ⟨rfl, hb1⟩
  clear hck
  (try clear c0 c1 c2 c3 c4); replace x0 := x0.below hb1; have c0 := x0.cell 0 rfl; have c1 := x0.cell 1 rfl; have c2 := x0.cell 2 rfl; have c3 := x0.cell 3 rfl; have c4 := x0.cell 4 rfl; replace hb := hb.trans (hb1.mono hb.size); clear hb1
  go_wp2_with fail
  refine (works_any _).mono ?_
  rintro e V3 ⟨rfl, hb1⟩
  replace hb := hb.trans (hb1.mono hb.size)
  clear hb1
  clear x0 c0 c1 c2 c3 c4
  go_wp2
  go_ret
  exact ⟨rfl, hb⟩

set_option maxRecDepth 100000 in
set_option maxHeartbeats 4000000 in
theorem err_15_3 (ar ap : Option Addr) (cr cp : Nat) (rs ps : List (Int × Int)) (p0 way step : Int) (w : World) (hR : Prs w ar rs) (hP : Prs w ap ps) (hl : rs.length ≤ 40 ∧ ps.length ≤ 40) (h4 : rs.length ≤ 4) (hr : 3 = if trB rs ps p0 way step then (if ps.length = 0 then (3 : Int) else 0) else 20) :
    Calls Try.prog 15 #[.agg #[.slice ar rs.length cr, .int .i64 p0, .int .i64 way, .int .i64 step, .slice ap ps.length cp]] w (WorksP w) := by
  have hS := fun aa ab ca cb V h1 h2 => Soonest_bad aa ab ca cb rs ps p0 way step V h1 h2 (by omega) 3 hr (by decide) (by decide)
  have hA := fun aa ab ca cb V h1 h2 => Arrange_bad aa ab ca cb rs ps p0 way step V h1 h2 (by omega) 3 hr (by decide) (by decide)
  have hT := fun V h1 h2 => rSoon_bad ar ap cr cp rs ps p0 way step V h1 h2 3 hr (by decide) (by omega)
  clear hr
  obtain ⟨n, hn⟩ : ∃ n, n = rs.length := ⟨_, rfl⟩
  obtain ⟨m, hm⟩ : ∃ m, m = ps.length := ⟨_, rfl⟩
  have HN := hid hn; have HM := hid hm
  have hcp := fun V h1 h2 => copy_any ar ap cr cp rs ps p0 way step V h1 h2 (by omega) (by omega)
  unfold CopyP at hcp
  rw [← hn, ← hm] at hcp hl ⊢
  obtain ⟨W, hW, hb, hs, x0⟩ := boxes1 w #[.slice ar n cr, .int .i64 p0, .int .i64 way, .int .i64 step, .slice ap m cp] 25
  clear hs
  have hfa := Far2_any ar ap cr cp rs ps p0 way step W (by omega) (by omega)
  rw [← hn, ← hm, show (decide (40 < n) || decide (40 < m)) = false by simp; omega] at hfa
  have hsm := fun aa ab ca cb V h1 h2 h3 h4 => Same_eq aa ab ca cb rs ps p0 way step ar ap cr cp V h1 h2 h3 h4
  rw [← hn, ← hm] at hsm
  have hnI : (n : Int) ≤ 40 := by omega
  have hmI : (m : Int) ≤ 40 := by omega
  rw [← hn, ← hm] at hS hA hT
  have h4I : (n : Int) ≤ 4 := by omega
  have c0 := x0.cell 0 rfl; have c1 := x0.cell 1 rfl; have c2 := x0.cell 2 rfl; have c3 := x0.cell 3 rfl; have c4 := x0.cell 4 rfl
  clear hn hm
  go_enter Try.func15, Try.ntmps15
  go_wp2_with fail
  refine hfa.mono ?_
  rintro e W1 ⟨rfl, hb1⟩
  clear hW hfa
  (try clear c0 c1 c2 c3 c4); replace x0 := x0.below hb1; have c0 := x0.cell 0 rfl; have c1 := x0.cell 1 rfl; have c2 := x0.cell 2 rfl; have c3 := x0.cell 3 rfl; have c4 := x0.cell 4 rfl; replace hb := hb.trans (hb1.mono hb.size); clear hb1
  go_wp2_with fail
  refine (hcp _ (hR.below hb (Nat.le_refl _)) (hP.below hb (Nat.le_refl _))).mono ?_
  rintro e W2 ⟨hb1, a1, a2, e1, e2, rfl, own1, own2, _⟩
  clear hcp
  obtain ⟨W3, hW3, hbx, hsx, x1⟩ := boxes1 W2 #[.slice a1 n e1, .int .i64 p0, .int .i64 way, .int .i64 step, .slice a2 m e2] 25
  have HB2 := hid (show TwoB w.heap.size W2.heap.size n m ar ap a1 a2 cr cp e1 e2 p0 way step rs ps W3 from
    ⟨(x0.below hb1).below hbx, x1, hR.below (hb.trans ((hb1.trans (hbx.mono hb1.size)).mono hb.size)) (Nat.le_refl _), hP.below (hb.trans ((hb1.trans (hbx.mono hb1.size)).mono hb.size)) (Nat.le_refl _), (copy_prs own1 HN.out hl.1 hR).below hbx (Nat.le_refl _), (copy_prs own2 HM.out hl.2 hP).below hbx (Nat.le_refl _)⟩)
  replace hb := (hb.trans (hb1.mono hb.size)).trans (hbx.mono (hb.trans (hb1.mono hb.size)).size)
  clear own1 own2 hb1 hbx hsx x0 x1 c0 c1 c2 c3 c4
  have hb1 := Below.refl W3.heap.size W3
  replace HB2 := hid (HB2.out.below hb1)
  replace hb := hb.trans (hb1.mono hb.size)
  (try clear c0 c1 c2 c3 c4 d0 d1 d2 d3 d4)
  have c0 := HB2.out.x0.cell 0 rfl; have c1 := HB2.out.x0.cell 1 rfl; have c2 := HB2.out.x0.cell 2 rfl; have c3 := HB2.out.x0.cell 3 rfl; have c4 := HB2.out.x0.cell 4 rfl
  have d0 := HB2.out.x1.cell 0 rfl; have d1 := HB2.out.x1.cell 1 rfl; have d2 := HB2.out.x1.cell 2 rfl; have d3 := HB2.out.x1.cell 3 rfl; have d4 := HB2.out.x1.cell 4 rfl
  clear hb1
  go_wp2_with fail
  refine (hS _ _ _ _ _ HB2.out.q1 HB2.out.q2).mono ?_
  rintro e V1 ⟨rfl, hb1⟩
  clear hS hW3
  replace HB2 := hid (HB2.out.below hb1)
  replace hb := hb.trans (hb1.mono hb.size)
  (try clear c0 c1 c2 c3 c4 d0 d1 d2 d3 d4)
  have c0 := HB2.out.x0.cell 0 rfl; have c1 := HB2.out.x0.cell 1 rfl; have c2 := HB2.out.x0.cell 2 rfl; have c3 := HB2.out.x0.cell 3 rfl; have c4 := HB2.out.x0.cell 4 rfl
  have d0 := HB2.out.x1.cell 0 rfl; have d1 := HB2.out.x1.cell 1 rfl; have d2 := HB2.out.x1.cell 2 rfl; have d3 := HB2.out.x1.cell 3 rfl; have d4 := HB2.out.x1.cell 4 rfl
  clear hb1
  go_wp2_with fail
  refine (hT _ HB2.out.hR HB2.out.hP).mono ?_
  rintro e V2 ⟨rfl, hb1⟩
  clear hT
  replace HB2 := hid (HB2.out.below hb1)
  replace hb := hb.trans (hb1.mono hb.size)
  (try clear c0 c1 c2 c3 c4 d0 d1 d2 d3 d4)
  have c0 := HB2.out.x0.cell 0 rfl; have c1 := HB2.out.x0.cell 1 rfl; have c2 := HB2.out.x0.cell 2 rfl; have c3 := HB2.out.x0.cell 3 rfl; have c4 := HB2.out.x0.cell 4 rfl
  have d0 := HB2.out.x1.cell 0 rfl; have d1 := HB2.out.x1.cell 1 rfl; have d2 := HB2.out.x1.cell 2 rfl; have d3 := HB2.out.x1.cell 3 rfl; have d4 := HB2.out.x1.cell 4 rfl
  clear hb1
  go_wp2_with fail
  refine (hA _ _ _ _ _ HB2.out.q1 HB2.out.q2).mono ?_
  rintro e V4 ⟨rfl, hb1⟩
  clear hA
  replace HB2 := hid (HB2.out.below hb1)
  replace hb := hb.trans (hb1.mono hb.size)
  (try clear c0 c1 c2 c3 c4 d0 d1 d2 d3 d4)
  have c0 := HB2.out.x0.cell 0 rfl; have c1 := HB2.out.x0.cell 1 rfl; have c2 := HB2.out.x0.cell 2 rfl; have c3 := HB2.out.x0.cell 3 rfl; have c4 := HB2.out.x0.cell 4 rfl
  have d0 := HB2.out.x1.cell 0 rfl; have d1 := HB2.out.x1.cell 1 rfl; have d2 := HB2.out.x1.cell 2 rfl; have d3 := HB2.out.x1.cell 3 rfl; have d4 := HB2.out.x1.cell 4 rfl
  clear hb1
  go_wp2_with fail
  refine (hsm _ _ _ _ _ HB2.out.q1 HB2.out.q2 HB2.out.hR HB2.out.hP).mono ?_
  rintro e V6 ⟨rfl, hb1⟩
  clear hsm
  replace HB2 := hid (HB2.out.below hb1)
  replace hb := hb.trans (hb1.mono hb.size)
  (try clear c0 c1 c2 c3 c4 d0 d1 d2 d3 d4)
  have c0 := HB2.out.x0.cell 0 rfl; have c1 := HB2.out.x0.cell 1 rfl; have c2 := HB2.out.x0.cell 2 rfl; have c3 := HB2.out.x0.cell 3 rfl; have c4 := HB2.out.x0.cell 4 rfl
  have d0 := HB2.out.x1.cell 0 rfl; have d1 := HB2.out.x1.cell 1 rfl; have d2 := HB2.out.x1.cell 2 rfl; have d3 := HB2.out.x1.cell 3 rfl; have d4 := HB2.out.x1.cell 4 rfl
  clear hb1
  go_wp2_with fail
  refine (works_any _).mono ?_
  rintro e V3 ⟨rfl, hb1⟩
  replace hb := hb.trans (hb1.mono hb.size)
  clear hb1
  clear HB2 c0 c1 c2 c3 c4 d0 d1 d2 d3 d4
  go_wp2
  go_ret
  exact ⟨rfl, hb⟩

set_option maxRecDepth 100000 in
set_option maxHeartbeats 4000000 in
theorem err_15_20 (ar ap : Option Addr) (cr cp : Nat) (rs ps : List (Int × Int)) (p0 way step : Int) (w : World) (hR : Prs w ar rs) (hP : Prs w ap ps) (hl : rs.length ≤ 40 ∧ ps.length ≤ 40) (h4 : rs.length ≤ 4) (hr : 20 = if trB rs ps p0 way step then (if ps.length = 0 then (3 : Int) else 0) else 20) :
    Calls Try.prog 15 #[.agg #[.slice ar rs.length cr, .int .i64 p0, .int .i64 way, .int .i64 step, .slice ap ps.length cp]] w (WorksP w) := by
  have hS := fun aa ab ca cb V h1 h2 => Soonest_bad aa ab ca cb rs ps p0 way step V h1 h2 (by omega) 20 hr (by decide) (by decide)
  have hA := fun aa ab ca cb V h1 h2 => Arrange_bad aa ab ca cb rs ps p0 way step V h1 h2 (by omega) 20 hr (by decide) (by decide)
  have hT := fun V h1 h2 => rSoon_bad ar ap cr cp rs ps p0 way step V h1 h2 20 hr (by decide) (by omega)
  clear hr
  obtain ⟨n, hn⟩ : ∃ n, n = rs.length := ⟨_, rfl⟩
  obtain ⟨m, hm⟩ : ∃ m, m = ps.length := ⟨_, rfl⟩
  have HN := hid hn; have HM := hid hm
  have hcp := fun V h1 h2 => copy_any ar ap cr cp rs ps p0 way step V h1 h2 (by omega) (by omega)
  unfold CopyP at hcp
  rw [← hn, ← hm] at hcp hl ⊢
  obtain ⟨W, hW, hb, hs, x0⟩ := boxes1 w #[.slice ar n cr, .int .i64 p0, .int .i64 way, .int .i64 step, .slice ap m cp] 25
  clear hs
  have hfa := Far2_any ar ap cr cp rs ps p0 way step W (by omega) (by omega)
  rw [← hn, ← hm, show (decide (40 < n) || decide (40 < m)) = false by simp; omega] at hfa
  have hsm := fun aa ab ca cb V h1 h2 h3 h4 => Same_eq aa ab ca cb rs ps p0 way step ar ap cr cp V h1 h2 h3 h4
  rw [← hn, ← hm] at hsm
  have hnI : (n : Int) ≤ 40 := by omega
  have hmI : (m : Int) ≤ 40 := by omega
  rw [← hn, ← hm] at hS hA hT
  have h4I : (n : Int) ≤ 4 := by omega
  have c0 := x0.cell 0 rfl; have c1 := x0.cell 1 rfl; have c2 := x0.cell 2 rfl; have c3 := x0.cell 3 rfl; have c4 := x0.cell 4 rfl
  clear hn hm
  go_enter Try.func15, Try.ntmps15
  go_wp2_with fail
  refine hfa.mono ?_
  rintro e W1 ⟨rfl, hb1⟩
  clear hW hfa
  (try clear c0 c1 c2 c3 c4); replace x0 := x0.below hb1; have c0 := x0.cell 0 rfl; have c1 := x0.cell 1 rfl; have c2 := x0.cell 2 rfl; have c3 := x0.cell 3 rfl; have c4 := x0.cell 4 rfl; replace hb := hb.trans (hb1.mono hb.size); clear hb1
  go_wp2_with fail
  refine (hcp _ (hR.below hb (Nat.le_refl _)) (hP.below hb (Nat.le_refl _))).mono ?_
  rintro e W2 ⟨hb1, a1, a2, e1, e2, rfl, own1, own2, _⟩
  clear hcp
  obtain ⟨W3, hW3, hbx, hsx, x1⟩ := boxes1 W2 #[.slice a1 n e1, .int .i64 p0, .int .i64 way, .int .i64 step, .slice a2 m e2] 25
  have HB2 := hid (show TwoB w.heap.size W2.heap.size n m ar ap a1 a2 cr cp e1 e2 p0 way step rs ps W3 from
    ⟨(x0.below hb1).below hbx, x1, hR.below (hb.trans ((hb1.trans (hbx.mono hb1.size)).mono hb.size)) (Nat.le_refl _), hP.below (hb.trans ((hb1.trans (hbx.mono hb1.size)).mono hb.size)) (Nat.le_refl _), (copy_prs own1 HN.out hl.1 hR).below hbx (Nat.le_refl _), (copy_prs own2 HM.out hl.2 hP).below hbx (Nat.le_refl _)⟩)
  replace hb := (hb.trans (hb1.mono hb.size)).trans (hbx.mono (hb.trans (hb1.mono hb.size)).size)
  clear own1 own2 hb1 hbx hsx x0 x1 c0 c1 c2 c3 c4
  have hb1 := Below.refl W3.heap.size W3
  replace HB2 := hid (HB2.out.below hb1)
  replace hb := hb.trans (hb1.mono hb.size)
  (try clear c0 c1 c2 c3 c4 d0 d1 d2 d3 d4)
  have c0 := HB2.out.x0.cell 0 rfl; have c1 := HB2.out.x0.cell 1 rfl; have c2 := HB2.out.x0.cell 2 rfl; have c3 := HB2.out.x0.cell 3 rfl; have c4 := HB2.out.x0.cell 4 rfl
  have d0 := HB2.out.x1.cell 0 rfl; have d1 := HB2.out.x1.cell 1 rfl; have d2 := HB2.out.x1.cell 2 rfl; have d3 := HB2.out.x1.cell 3 rfl; have d4 := HB2.out.x1.cell 4 rfl
  clear hb1
  go_wp2_with fail
  refine (hS _ _ _ _ _ HB2.out.q1 HB2.out.q2).mono ?_
  rintro e V1 ⟨rfl, hb1⟩
  clear hS hW3
  replace HB2 := hid (HB2.out.below hb1)
  replace hb := hb.trans (hb1.mono hb.size)
  (try clear c0 c1 c2 c3 c4 d0 d1 d2 d3 d4)
  have c0 := HB2.out.x0.cell 0 rfl; have c1 := HB2.out.x0.cell 1 rfl; have c2 := HB2.out.x0.cell 2 rfl; have c3 := HB2.out.x0.cell 3 rfl; have c4 := HB2.out.x0.cell 4 rfl
  have d0 := HB2.out.x1.cell 0 rfl; have d1 := HB2.out.x1.cell 1 rfl; have d2 := HB2.out.x1.cell 2 rfl; have d3 := HB2.out.x1.cell 3 rfl; have d4 := HB2.out.x1.cell 4 rfl
  clear hb1
  go_wp2_with fail
  refine (hT _ HB2.out.hR HB2.out.hP).mono ?_
  rintro e V2 ⟨rfl, hb1⟩
  clear hT
  replace HB2 := hid (HB2.out.below hb1)
  replace hb := hb.trans (hb1.mono hb.size)
  (try clear c0 c1 c2 c3 c4 d0 d1 d2 d3 d4)
  have c0 := HB2.out.x0.cell 0 rfl; have c1 := HB2.out.x0.cell 1 rfl; have c2 := HB2.out.x0.cell 2 rfl; have c3 := HB2.out.x0.cell 3 rfl; have c4 := HB2.out.x0.cell 4 rfl
  have d0 := HB2.out.x1.cell 0 rfl; have d1 := HB2.out.x1.cell 1 rfl; have d2 := HB2.out.x1.cell 2 rfl; have d3 := HB2.out.x1.cell 3 rfl; have d4 := HB2.out.x1.cell 4 rfl
  clear hb1
  go_wp2_with fail
  refine (hA _ _ _ _ _ HB2.out.q1 HB2.out.q2).mono ?_
  rintro e V4 ⟨rfl, hb1⟩
  clear hA
  replace HB2 := hid (HB2.out.below hb1)
  replace hb := hb.trans (hb1.mono hb.size)
  (try clear c0 c1 c2 c3 c4 d0 d1 d2 d3 d4)
  have c0 := HB2.out.x0.cell 0 rfl; have c1 := HB2.out.x0.cell 1 rfl; have c2 := HB2.out.x0.cell 2 rfl; have c3 := HB2.out.x0.cell 3 rfl; have c4 := HB2.out.x0.cell 4 rfl
  have d0 := HB2.out.x1.cell 0 rfl; have d1 := HB2.out.x1.cell 1 rfl; have d2 := HB2.out.x1.cell 2 rfl; have d3 := HB2.out.x1.cell 3 rfl; have d4 := HB2.out.x1.cell 4 rfl
  clear hb1
  go_wp2_with fail
  refine (hsm _ _ _ _ _ HB2.out.q1 HB2.out.q2 HB2.out.hR HB2.out.hP).mono ?_
  rintro e V6 ⟨rfl, hb1⟩
  clear hsm
  replace HB2 := hid (HB2.out.below hb1)
  replace hb := hb.trans (hb1.mono hb.size)
  (try clear c0 c1 c2 c3 c4 d0 d1 d2 d3 d4)
  have c0 := HB2.out.x0.cell 0 rfl; have c1 := HB2.out.x0.cell 1 rfl; have c2 := HB2.out.x0.cell 2 rfl; have c3 := HB2.out.x0.cell 3 rfl; have c4 := HB2.out.x0.cell 4 rfl
  have d0 := HB2.out.x1.cell 0 rfl; have d1 := HB2.out.x1.cell 1 rfl; have d2 := HB2.out.x1.cell 2 rfl; have d3 := HB2.out.x1.cell 3 rfl; have d4 := HB2.out.x1.cell 4 rfl
  clear hb1
  go_wp2_with fail
  refine (works_any _).mono ?_
  rintro e V3 ⟨rfl, hb1⟩
  replace hb := hb.trans (hb1.mono hb.size)
  clear hb1
  clear HB2 c0 c1 c2 c3 c4 d0 d1 d2 d3 d4
  go_wp2
  go_ret
  exact ⟨rfl, hb⟩

set_option maxRecDepth 100000 in
set_option maxHeartbeats 4000000 in
theorem wide_15 (ar ap : Option Addr) (cr cp : Nat) (rs ps : List (Int × Int)) (p0 way step : Int) (w : World) (hR : Prs w ar rs) (hP : Prs w ap ps) (hl : rs.length ≤ 40 ∧ ps.length ≤ 40) (h4 : 4 < rs.length) (hv : trB rs ps p0 way step = false) :
    Calls Try.prog 15 #[.agg #[.slice ar rs.length cr, .int .i64 p0, .int .i64 way, .int .i64 step, .slice ap ps.length cp]] w (WorksP w) := by
  have hr : (20 : Int) = if trB rs ps p0 way step then (if ps.length = 0 then (3 : Int) else 0) else 20 := by rw [hv]; rfl
  have hS := fun aa ab ca cb V h1 h2 => Soonest_bad aa ab ca cb rs ps p0 way step V h1 h2 (by omega) 20 hr (by decide) (by decide)
  have hA := fun aa ab ca cb V h1 h2 => Arrange_bad aa ab ca cb rs ps p0 way step V h1 h2 (by omega) 20 hr (by decide) (by decide)
  have hT := fun V h1 h2 => rSoon_bad ar ap cr cp rs ps p0 way step V h1 h2 20 hr (by decide) (by omega)
  have hck := fun V h1 h2 => rCheck_any ar ap cr cp rs ps p0 way step V h1 h2
  rw [hv] at hck
  clear hr hv
  obtain ⟨n, hn⟩ : ∃ n, n = rs.length := ⟨_, rfl⟩
  obtain ⟨m, hm⟩ : ∃ m, m = ps.length := ⟨_, rfl⟩
  have HN := hid hn; have HM := hid hm
  have hcp := fun V h1 h2 => copy_any ar ap cr cp rs ps p0 way step V h1 h2 (by omega) (by omega)
  unfold CopyP at hcp
  rw [← hn, ← hm] at hcp hl ⊢
  obtain ⟨W, hW, hb, hs, x0⟩ := boxes1 w #[.slice ar n cr, .int .i64 p0, .int .i64 way, .int .i64 step, .slice ap m cp] 25
  clear hs
  have hfa := Far2_any ar ap cr cp rs ps p0 way step W (by omega) (by omega)
  rw [← hn, ← hm, show (decide (40 < n) || decide (40 < m)) = false by simp; omega] at hfa
  have hsm := fun aa ab ca cb V h1 h2 h3 h4 => Same_eq aa ab ca cb rs ps p0 way step ar ap cr cp V h1 h2 h3 h4
  rw [← hn, ← hm] at hsm
  have hnI : (n : Int) ≤ 40 := by omega
  have hmI : (m : Int) ≤ 40 := by omega
  rw [← hn, ← hm] at hS hA hT hck
  have h4I : (4 : Int) < (n : Int) := by omega
  have c0 := x0.cell 0 rfl; have c1 := x0.cell 1 rfl; have c2 := x0.cell 2 rfl; have c3 := x0.cell 3 rfl; have c4 := x0.cell 4 rfl
  clear hn hm
  go_enter Try.func15, Try.ntmps15
  go_wp2_with fail
  refine hfa.mono ?_
  rintro e W1 ⟨rfl, hb1⟩
  clear hW hfa
  (try clear c0 c1 c2 c3 c4); replace x0 := x0.below hb1; have c0 := x0.cell 0 rfl; have c1 := x0.cell 1 rfl; have c2 := x0.cell 2 rfl; have c3 := x0.cell 3 rfl; have c4 := x0.cell 4 rfl; replace hb := hb.trans (hb1.mono hb.size); clear hb1
  go_wp2_with fail
  refine (hck _ (hR.below hb (Nat.le_refl _)) (hP.below hb (Nat.le_refl _))).mono ?_
  rintro e W9 ⟨rfl, hb1⟩
  clear hck
  (try clear c0 c1 c2 c3 c4); replace x0 := x0.below hb1; have c0 := x0.cell 0 rfl; have c1 := x0.cell 1 rfl; have c2 := x0.cell 2 rfl; have c3 := x0.cell 3 rfl; have c4 := x0.cell 4 rfl; replace hb := hb.trans (hb1.mono hb.size); clear hb1
  go_wp2_with fail
  refine (hcp _ (hR.below hb (Nat.le_refl _)) (hP.below hb (Nat.le_refl _))).mono ?_
  rintro e W2 ⟨hb1, a1, a2, e1, e2, rfl, own1, own2, _⟩
  clear hcp
  obtain ⟨W3, hW3, hbx, hsx, x1⟩ := boxes1 W2 #[.slice a1 n e1, .int .i64 p0, .int .i64 way, .int .i64 step, .slice a2 m e2] 25
  have HB2 := hid (show TwoB w.heap.size W2.heap.size n m ar ap a1 a2 cr cp e1 e2 p0 way step rs ps W3 from
    ⟨(x0.below hb1).below hbx, x1, hR.below (hb.trans ((hb1.trans (hbx.mono hb1.size)).mono hb.size)) (Nat.le_refl _), hP.below (hb.trans ((hb1.trans (hbx.mono hb1.size)).mono hb.size)) (Nat.le_refl _), (copy_prs own1 HN.out hl.1 hR).below hbx (Nat.le_refl _), (copy_prs own2 HM.out hl.2 hP).below hbx (Nat.le_refl _)⟩)
  replace hb := (hb.trans (hb1.mono hb.size)).trans (hbx.mono (hb.trans (hb1.mono hb.size)).size)
  clear own1 own2 hb1 hbx hsx x0 x1 c0 c1 c2 c3 c4
  have hb1 := Below.refl W3.heap.size W3
  replace HB2 := hid (HB2.out.below hb1)
  replace hb := hb.trans (hb1.mono hb.size)
  (try clear c0 c1 c2 c3 c4 d0 d1 d2 d3 d4)
  have c0 := HB2.out.x0.cell 0 rfl; have c1 := HB2.out.x0.cell 1 rfl; have c2 := HB2.out.x0.cell 2 rfl; have c3 := HB2.out.x0.cell 3 rfl; have c4 := HB2.out.x0.cell 4 rfl
  have d0 := HB2.out.x1.cell 0 rfl; have d1 := HB2.out.x1.cell 1 rfl; have d2 := HB2.out.x1.cell 2 rfl; have d3 := HB2.out.x1.cell 3 rfl; have d4 := HB2.out.x1.cell 4 rfl
  clear hb1
  go_wp2_with fail
  refine (hS _ _ _ _ _ HB2.out.q1 HB2.out.q2).mono ?_
  rintro e V1 ⟨rfl, hb1⟩
  clear hS hW3
  replace HB2 := hid (HB2.out.below hb1)
  replace hb := hb.trans (hb1.mono hb.size)
  (try clear c0 c1 c2 c3 c4 d0 d1 d2 d3 d4)
  have c0 := HB2.out.x0.cell 0 rfl; have c1 := HB2.out.x0.cell 1 rfl; have c2 := HB2.out.x0.cell 2 rfl; have c3 := HB2.out.x0.cell 3 rfl; have c4 := HB2.out.x0.cell 4 rfl
  have d0 := HB2.out.x1.cell 0 rfl; have d1 := HB2.out.x1.cell 1 rfl; have d2 := HB2.out.x1.cell 2 rfl; have d3 := HB2.out.x1.cell 3 rfl; have d4 := HB2.out.x1.cell 4 rfl
  clear hb1
  go_wp2_with fail
  refine (hT _ HB2.out.hR HB2.out.hP).mono ?_
  rintro e V2 ⟨rfl, hb1⟩
  clear hT
  replace HB2 := hid (HB2.out.below hb1)
  replace hb := hb.trans (hb1.mono hb.size)
  (try clear c0 c1 c2 c3 c4 d0 d1 d2 d3 d4)
  have c0 := HB2.out.x0.cell 0 rfl; have c1 := HB2.out.x0.cell 1 rfl; have c2 := HB2.out.x0.cell 2 rfl; have c3 := HB2.out.x0.cell 3 rfl; have c4 := HB2.out.x0.cell 4 rfl
  have d0 := HB2.out.x1.cell 0 rfl; have d1 := HB2.out.x1.cell 1 rfl; have d2 := HB2.out.x1.cell 2 rfl; have d3 := HB2.out.x1.cell 3 rfl; have d4 := HB2.out.x1.cell 4 rfl
  clear hb1
  go_wp2_with fail
  refine (hA _ _ _ _ _ HB2.out.q1 HB2.out.q2).mono ?_
  rintro e V4 ⟨rfl, hb1⟩
  clear hA
  replace HB2 := hid (HB2.out.below hb1)
  replace hb := hb.trans (hb1.mono hb.size)
  (try clear c0 c1 c2 c3 c4 d0 d1 d2 d3 d4)
  have c0 := HB2.out.x0.cell 0 rfl; have c1 := HB2.out.x0.cell 1 rfl; have c2 := HB2.out.x0.cell 2 rfl; have c3 := HB2.out.x0.cell 3 rfl; have c4 := HB2.out.x0.cell 4 rfl
  have d0 := HB2.out.x1.cell 0 rfl; have d1 := HB2.out.x1.cell 1 rfl; have d2 := HB2.out.x1.cell 2 rfl; have d3 := HB2.out.x1.cell 3 rfl; have d4 := HB2.out.x1.cell 4 rfl
  clear hb1
  go_wp2_with fail
  refine (hsm _ _ _ _ _ HB2.out.q1 HB2.out.q2 HB2.out.hR HB2.out.hP).mono ?_
  rintro e V6 ⟨rfl, hb1⟩
  clear hsm
  replace HB2 := hid (HB2.out.below hb1)
  replace hb := hb.trans (hb1.mono hb.size)
  (try clear c0 c1 c2 c3 c4 d0 d1 d2 d3 d4)
  have c0 := HB2.out.x0.cell 0 rfl; have c1 := HB2.out.x0.cell 1 rfl; have c2 := HB2.out.x0.cell 2 rfl; have c3 := HB2.out.x0.cell 3 rfl; have c4 := HB2.out.x0.cell 4 rfl
  have d0 := HB2.out.x1.cell 0 rfl; have d1 := HB2.out.x1.cell 1 rfl; have d2 := HB2.out.x1.cell 2 rfl; have d3 := HB2.out.x1.cell 3 rfl; have d4 := HB2.out.x1.cell 4 rfl
  clear hb1
  go_wp2_with fail
  refine (works_any _).mono ?_
  rintro e V3 ⟨rfl, hb1⟩
  replace hb := hb.trans (hb1.mono hb.size)
  clear hb1
  clear HB2 c0 c1 c2 c3 c4 d0 d1 d2 d3 d4
  go_wp2
  go_ret
  exact ⟨rfl, hb⟩
set_option maxRecDepth 100000 in
set_option maxHeartbeats 4000000 in
theorem ok_15 (ar ap : Option Addr) (cr cp : Nat) (rs ps : List (Int × Int)) (p0 way step : Int) (w : World) (hR : Prs w ar rs) (hP : Prs w ap ps) (hl : rs.length ≤ 40 ∧ ps.length ≤ 40) (h4 : rs.length ≤ 4) (hv : trB rs ps p0 way step = true) (h0 : ps.length ≠ 0) :
    Calls Try.prog 15 #[.agg #[.slice ar rs.length cr, .int .i64 p0, .int .i64 way, .int .i64 step, .slice ap ps.length cp]] w (WorksP w) := by
  obtain ⟨T, hTT, hp12⟩ := tr_of hv
  have hn1 := hTT.hv.n1
  rw [hTT.T1] at hn1
  obtain ⟨os, hbm, hper⟩ := best_one hTT h4
  have hord := ((oall hn1 h4).2 os hper).1
  obtain ⟨hall, hol⟩ := isOrd_iff.1 hord
  have hos := (perms_ok (n := (rs.length : Int)) (by omega) rs.length 0 (idL rs.length) (idL_mem _) os hper).2
  have hTo := ordT_is hTT hol hos
  have hvo := trB_of hTo (by rw [ordP_len]; exact hp12)
  have hbo : ∀ x ∈ ordR rs os, -9223372036854775808 ≤ x.1 ∧ x.1 ≤ 9223372036854775807 ∧ -9223372036854775808 ≤ x.2 ∧ x.2 ≤ 9223372036854775807 := fun x hx => by have := hTo.hv.rc x (by rw [hTo.T1]; exact hx); omega
  have hbp : ∀ x ∈ ordP os ps, -9223372036854775808 ≤ x.1 ∧ x.1 ≤ 9223372036854775807 ∧ -9223372036854775808 ≤ x.2 ∧ x.2 ≤ 9223372036854775807 := fun x hx => by have h1 := hTo.hv.pr x (by rw [hTo.T2]; exact hx); have h2 := hTo.hv.n6; omega
  have hps : ∀ p ∈ ps, 0 ≤ p.1 ∧ p.1 < 2 * (rs.length : Int) := fun p hp => by have h1 := hTT.hv.pr p (by rw [hTT.T2]; exact hp); rw [hTT.T1] at h1; omega
  have har := fun ao co V h1 h2 h3 => arranged_any ao co os ar ap cr cp rs ps p0 way step V h1 h2 h3 (by omega) hos hol hall hps (by omega) hbo hbp
  unfold OrdP at har
  have hE := fun a1 a2 c1 c2 V h1 h2 => rEnd_ok a1 a2 c1 c2 (ordR rs os) (ordP os ps) p0 way step V h1 h2 hvo (by rw [ordP_len]; exact h0) (by rw [ordP_len]; omega) (ordT T os) hTo _ rfl
  have hio := fun ao co V h => isOrder_any ar ap ao cr cp co rs ps os p0 way step V (by omega) h
  rw [hord] at hio
  have hbos : ∀ x ∈ os, -9223372036854775808 ≤ x ∧ x ≤ 9223372036854775807 := fun x hx => by have := hos x hx; omega
  obtain ⟨b, hbe⟩ : ∃ b, b = endO T os := ⟨_, rfl⟩
  have hb2 : b = (bestM T maxI).2 := by rw [hbm, hbe]
  have hb3 : (runM (ordT T os) maxI).fin = b := hbe.symm
  rw [hb3] at hE
  have hS := fun aa ab ca cb V h1 h2 => Soonest_ok aa ab ca cb rs ps p0 way step V h1 h2 hv h0 hp12 T hTT
  rw [← hb2] at hS
  have hT := fun V h1 h2 => rSoon_ok ar ap cr cp rs ps p0 way step V h1 h2 hv h0 hp12 h4 T hTT b hb2
  have hA : ∀ aa ab ca cb V, Prs V aa rs → Prs V ab ps → Calls Try.prog 50 #[.agg #[.slice aa rs.length ca, .int .i64 p0, .int .i64 way, .int .i64 step, .slice ab ps.length cb]] V fun e w' => ∃ ao co, e = .returned (.tuple #[.slice ao os.length co, .int .i64 0]) ∧ Ints w' ao os ∧ Below V.heap.size V w' := fun aa ab ca cb V h1 h2 => by
    refine (Arrange_of aa ab ca cb rs ps p0 way step V h1 h2 hv h0 (fun W' v _ => ∃ ao co, v = .slice ao os.length co ∧ Ints W' ao os) fun W k1 k2 => (bestOrder_any aa ab ca cb rs ps p0 way step W k1 k2 T hTT hp12).mono ?_).mono ?_
    · rintro e W1 ⟨hb, v, rfl, hrow⟩
      rw [hbm] at hrow
      obtain ⟨ao, co, rfl, hI⟩ := Ints.of_own hrow (by dsimp only; omega) hbos
      exact ⟨_, _, rfl, ⟨ao, co, rfl, hI⟩, hb⟩
    · rintro e W1 ⟨v, q, rfl, ⟨ao, co, rfl, hI⟩, hb⟩
      exact ⟨ao, co, rfl, hI, hb⟩
  rw [hol] at hA har hio
  clear hbo hbp hps hos hall hper hord hbm hTo hvo hbe hb2 hb3 hTT hv h0 hn1 hbos
  obtain ⟨n, hn⟩ : ∃ n, n = rs.length := ⟨_, rfl⟩
  obtain ⟨m, hm⟩ : ∃ m, m = ps.length := ⟨_, rfl⟩
  have HN := hid hn; have HM := hid hm
  have hcp := fun V h1 h2 => copy_any ar ap cr cp rs ps p0 way step V h1 h2 (by omega) (by omega)
  unfold CopyP at hcp
  rw [← hn, ← hm] at hcp hl ⊢
  obtain ⟨W, hW, hb, hs, x0⟩ := boxes1 w #[.slice ar n cr, .int .i64 p0, .int .i64 way, .int .i64 step, .slice ap m cp] 25
  clear hs
  have hfa := Far2_any ar ap cr cp rs ps p0 way step W (by omega) (by omega)
  rw [← hn, ← hm, show (decide (40 < n) || decide (40 < m)) = false by simp; omega] at hfa
  have hsm := fun aa ab ca cb V h1 h2 h3 h4 => Same_eq aa ab ca cb rs ps p0 way step ar ap cr cp V h1 h2 h3 h4
  rw [← hn, ← hm] at hsm
  have hnI : (n : Int) ≤ 40 := by omega
  have hmI : (m : Int) ≤ 40 := by omega
  rw [← hn, ← hm] at hS hA hT har hio
  have h4I : (n : Int) ≤ 4 := by omega
  have HE := hid hE
  obtain ⟨n2, hn2⟩ : ∃ n2, n2 = (ordR rs os).length := ⟨_, rfl⟩
  obtain ⟨m2, hm2⟩ : ∃ m2, m2 = (ordP os ps).length := ⟨_, rfl⟩
  obtain ⟨R2, hR2⟩ : ∃ R2, R2 = ordR rs os := ⟨_, rfl⟩
  obtain ⟨P2, hP2⟩ : ∃ P2, P2 = ordP os ps := ⟨_, rfl⟩
  rw [← hn2, ← hm2, ← hR2, ← hP2] at har hE
  clear hn2 hm2 hR2 hP2 HE hol
  have c0 := x0.cell 0 rfl; have c1 := x0.cell 1 rfl; have c2 := x0.cell 2 rfl; have c3 := x0.cell 3 rfl; have c4 := x0.cell 4 rfl
  clear hn hm
  go_enter Try.func15, Try.ntmps15
  go_wp2_with fail
  refine hfa.mono ?_
  rintro e W1 ⟨rfl, hb1⟩
  clear hW hfa
  (try clear c0 c1 c2 c3 c4); replace x0 := x0.below hb1; have c0 := x0.cell 0 rfl; have c1 := x0.cell 1 rfl; have c2 := x0.cell 2 rfl; have c3 := x0.cell 3 rfl; have c4 := x0.cell 4 rfl; replace hb := hb.trans (hb1.mono hb.size); clear hb1
  go_wp2_with fail
  refine (hcp _ (hR.below hb (Nat.le_refl _)) (hP.below hb (Nat.le_refl _))).mono ?_
  rintro e W2 ⟨hb1, a1, a2, e1, e2, rfl, own1, own2, _⟩
  clear hcp
  obtain ⟨W3, hW3, hbx, hsx, x1⟩ := boxes1 W2 #[.slice a1 n e1, .int .i64 p0, .int .i64 way, .int .i64 step, .slice a2 m e2] 25
  have HB2 := hid (show TwoB w.heap.size W2.heap.size n m ar ap a1 a2 cr cp e1 e2 p0 way step rs ps W3 from
    ⟨(x0.below hb1).below hbx, x1, hR.below (hb.trans ((hb1.trans (hbx.mono hb1.size)).mono hb.size)) (Nat.le_refl _), hP.below (hb.trans ((hb1.trans (hbx.mono hb1.size)).mono hb.size)) (Nat.le_refl _), (copy_prs own1 HN.out hl.1 hR).below hbx (Nat.le_refl _), (copy_prs own2 HM.out hl.2 hP).below hbx (Nat.le_refl _)⟩)
  replace hb := (hb.trans (hb1.mono hb.size)).trans (hbx.mono (hb.trans (hb1.mono hb.size)).size)
  clear own1 own2 hb1 hbx hsx x0 x1 c0 c1 c2 c3 c4
  have hb1 := Below.refl W3.heap.size W3
  replace HB2 := hid (HB2.out.below hb1)
  replace hb := hb.trans (hb1.mono hb.size)
  (try clear c0 c1 c2 c3 c4 d0 d1 d2 d3 d4)
  have c0 := HB2.out.x0.cell 0 rfl; have c1 := HB2.out.x0.cell 1 rfl; have c2 := HB2.out.x0.cell 2 rfl; have c3 := HB2.out.x0.cell 3 rfl; have c4 := HB2.out.x0.cell 4 rfl
  have d0 := HB2.out.x1.cell 0 rfl; have d1 := HB2.out.x1.cell 1 rfl; have d2 := HB2.out.x1.cell 2 rfl; have d3 := HB2.out.x1.cell 3 rfl; have d4 := HB2.out.x1.cell 4 rfl
  clear hb1
  go_wp2_with fail
  refine (hS _ _ _ _ _ HB2.out.q1 HB2.out.q2).mono ?_
  rintro e V1 ⟨rfl, hb1⟩
  clear hS hW3
  replace HB2 := hid (HB2.out.below hb1)
  replace hb := hb.trans (hb1.mono hb.size)
  (try clear c0 c1 c2 c3 c4 d0 d1 d2 d3 d4)
  have c0 := HB2.out.x0.cell 0 rfl; have c1 := HB2.out.x0.cell 1 rfl; have c2 := HB2.out.x0.cell 2 rfl; have c3 := HB2.out.x0.cell 3 rfl; have c4 := HB2.out.x0.cell 4 rfl
  have d0 := HB2.out.x1.cell 0 rfl; have d1 := HB2.out.x1.cell 1 rfl; have d2 := HB2.out.x1.cell 2 rfl; have d3 := HB2.out.x1.cell 3 rfl; have d4 := HB2.out.x1.cell 4 rfl
  clear hb1
  go_wp2_with fail
  refine (hT _ HB2.out.hR HB2.out.hP).mono ?_
  rintro e V2 ⟨rfl, hb1⟩
  clear hT
  replace HB2 := hid (HB2.out.below hb1)
  replace hb := hb.trans (hb1.mono hb.size)
  (try clear c0 c1 c2 c3 c4 d0 d1 d2 d3 d4)
  have c0 := HB2.out.x0.cell 0 rfl; have c1 := HB2.out.x0.cell 1 rfl; have c2 := HB2.out.x0.cell 2 rfl; have c3 := HB2.out.x0.cell 3 rfl; have c4 := HB2.out.x0.cell 4 rfl
  have d0 := HB2.out.x1.cell 0 rfl; have d1 := HB2.out.x1.cell 1 rfl; have d2 := HB2.out.x1.cell 2 rfl; have d3 := HB2.out.x1.cell 3 rfl; have d4 := HB2.out.x1.cell 4 rfl
  clear hb1
  go_wp2_with fail
  refine (hA _ _ _ _ _ HB2.out.q1 HB2.out.q2).mono ?_
  rintro e V4 ⟨ao, co, rfl, hI, hb1⟩
  clear hA
  replace HB2 := hid (HB2.out.below hb1)
  replace hb := hb.trans (hb1.mono hb.size)
  (try clear c0 c1 c2 c3 c4 d0 d1 d2 d3 d4)
  have c0 := HB2.out.x0.cell 0 rfl; have c1 := HB2.out.x0.cell 1 rfl; have c2 := HB2.out.x0.cell 2 rfl; have c3 := HB2.out.x0.cell 3 rfl; have c4 := HB2.out.x0.cell 4 rfl
  have d0 := HB2.out.x1.cell 0 rfl; have d1 := HB2.out.x1.cell 1 rfl; have d2 := HB2.out.x1.cell 2 rfl; have d3 := HB2.out.x1.cell 3 rfl; have d4 := HB2.out.x1.cell 4 rfl
  clear hb1
  go_wp2_with fail
  refine (hsm _ _ _ _ _ HB2.out.q1 HB2.out.q2 HB2.out.hR HB2.out.hP).mono ?_
  rintro e V6 ⟨rfl, hb1⟩
  clear hsm
  replace hI := hI.below hb1 (Nat.le_refl _)
  replace HB2 := hid (HB2.out.below hb1)
  replace hb := hb.trans (hb1.mono hb.size)
  (try clear c0 c1 c2 c3 c4 d0 d1 d2 d3 d4)
  have c0 := HB2.out.x0.cell 0 rfl; have c1 := HB2.out.x0.cell 1 rfl; have c2 := HB2.out.x0.cell 2 rfl; have c3 := HB2.out.x0.cell 3 rfl; have c4 := HB2.out.x0.cell 4 rfl
  have d0 := HB2.out.x1.cell 0 rfl; have d1 := HB2.out.x1.cell 1 rfl; have d2 := HB2.out.x1.cell 2 rfl; have d3 := HB2.out.x1.cell 3 rfl; have d4 := HB2.out.x1.cell 4 rfl
  clear hb1
  go_wp2_with fail
  refine (hio _ _ _ hI).mono ?_
  rintro e V7 ⟨rfl, hb1⟩
  clear hio
  replace hI := hI.below hb1 (Nat.le_refl _)
  replace HB2 := hid (HB2.out.below hb1)
  replace hb := hb.trans (hb1.mono hb.size)
  (try clear c0 c1 c2 c3 c4 d0 d1 d2 d3 d4)
  have c0 := HB2.out.x0.cell 0 rfl; have c1 := HB2.out.x0.cell 1 rfl; have c2 := HB2.out.x0.cell 2 rfl; have c3 := HB2.out.x0.cell 3 rfl; have c4 := HB2.out.x0.cell 4 rfl
  have d0 := HB2.out.x1.cell 0 rfl; have d1 := HB2.out.x1.cell 1 rfl; have d2 := HB2.out.x1.cell 2 rfl; have d3 := HB2.out.x1.cell 3 rfl; have d4 := HB2.out.x1.cell 4 rfl
  clear hb1
  go_wp2_with fail
  refine (har _ _ _ HB2.out.hR HB2.out.hP hI).mono ?_
  rintro e V8 ⟨hb1, a1', a2', c1', c2', rfl, q1, q2⟩
  clear har hI
  replace HB2 := hid (HB2.out.below hb1)
  replace hb := hb.trans (hb1.mono hb.size)
  (try clear c0 c1 c2 c3 c4 d0 d1 d2 d3 d4)
  have c0 := HB2.out.x0.cell 0 rfl; have c1 := HB2.out.x0.cell 1 rfl; have c2 := HB2.out.x0.cell 2 rfl; have c3 := HB2.out.x0.cell 3 rfl; have c4 := HB2.out.x0.cell 4 rfl
  have d0 := HB2.out.x1.cell 0 rfl; have d1 := HB2.out.x1.cell 1 rfl; have d2 := HB2.out.x1.cell 2 rfl; have d3 := HB2.out.x1.cell 3 rfl; have d4 := HB2.out.x1.cell 4 rfl
  clear hb1
  go_wp2_with fail
  refine (hE a1' a2' c1' c2' _ q1 q2).mono ?_
  rintro e V9 ⟨rfl, hb1⟩
  clear hE q1 q2
  replace HB2 := hid (HB2.out.below hb1)
  replace hb := hb.trans (hb1.mono hb.size)
  (try clear c0 c1 c2 c3 c4 d0 d1 d2 d3 d4)
  have c0 := HB2.out.x0.cell 0 rfl; have c1 := HB2.out.x0.cell 1 rfl; have c2 := HB2.out.x0.cell 2 rfl; have c3 := HB2.out.x0.cell 3 rfl; have c4 := HB2.out.x0.cell 4 rfl
  have d0 := HB2.out.x1.cell 0 rfl; have d1 := HB2.out.x1.cell 1 rfl; have d2 := HB2.out.x1.cell 2 rfl; have d3 := HB2.out.x1.cell 3 rfl; have d4 := HB2.out.x1.cell 4 rfl
  clear hb1
  go_wp2_with fail
  refine (works_any _).mono ?_
  rintro e V3 ⟨rfl, hb1⟩
  replace hb := hb.trans (hb1.mono hb.size)
  clear hb1
  clear HB2 c0 c1 c2 c3 c4 d0 d1 d2 d3 d4
  go_wp2
  go_ret
  exact ⟨rfl, hb⟩
theorem soonlaw_any (ar ap : Option Addr) (cr cp : Nat) (rs ps : List (Int × Int)) (p0 way step : Int) (w : World) (hlr : rs.length ≤ 9223372036854775807) (hlp : ps.length ≤ 9223372036854775807) (hR : rs.length ≤ 1000 → Prs w ar rs) (hP : ps.length ≤ 1000 → Prs w ap ps) :
    Calls Try.prog 15 #[.agg #[.slice ar rs.length cr, .int .i64 p0, .int .i64 way, .int .i64 step, .slice ap ps.length cp]] w (WorksP w) := by
  cases hf : (decide (40 < rs.length) || decide (40 < ps.length))
  · simp only [Bool.or_eq_false_iff, decide_eq_false_iff_not] at hf
    have hl : rs.length ≤ 40 ∧ ps.length ≤ 40 := by omega
    have hR' := hR (by omega)
    have hP' := hP (by omega)
    cases hv : trB rs ps p0 way step
    · by_cases h4 : 4 < rs.length
      · exact wide_15 ar ap cr cp rs ps p0 way step w hR' hP' hl h4 hv
      · exact err_15_20 ar ap cr cp rs ps p0 way step w hR' hP' hl (by omega) (by rw [hv]; rfl)
    · by_cases h4 : 4 < rs.length
      · exact many_15 ar ap cr cp rs ps p0 way step w hR' hP' hl h4 hv
      · by_cases h0 : ps.length = 0
        · exact err_15_3 ar ap cr cp rs ps p0 way step w hR' hP' hl (by omega) (by rw [hv, if_pos rfl, if_pos h0])
        · exact ok_15 ar ap cr cp rs ps p0 way step w hR' hP' hl (by omega) hv h0
  · exact far_15 ar ap cr cp rs ps p0 way step w hlr hlp hf
end Go.Proofs.Ytknaljghpfeikaa
