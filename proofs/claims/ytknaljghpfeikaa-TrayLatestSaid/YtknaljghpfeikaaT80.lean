import Derived.Test.YtknaljghpfeikaaT79
namespace Go.Proofs.Ytknaljghpfeikaa
open Go.RowKit

set_option maxRecDepth 100000 in
set_option maxHeartbeats 1000000 in
theorem far_14 (ar ap : Option Addr) (cr cp : Nat) (rs ps : List (Int × Int)) (p0 way step : Int) (x by' : Int) (w : World) (hlr : rs.length ≤ 9223372036854775807) (hlp : ps.length ≤ 9223372036854775807) (hf : (decide (40 < rs.length) || decide (40 < ps.length)) = true) :
    Calls Try.prog 14 #[.agg #[.slice ar rs.length cr, .int .i64 p0, .int .i64 way, .int .i64 step, .slice ap ps.length cp], .int .i64 x, .int .i64 by'] w (WorksP w) := by
  obtain ⟨W, hW, hb, hs, x0⟩ := boxes1 w #[.slice ar rs.length cr, .int .i64 p0, .int .i64 way, .int .i64 step, .slice ap ps.length cp] 25
  clear hs
  have hfa := Far2_any ar ap cr cp rs ps p0 way step W hlr hlp
  rw [hf] at hfa
  have c0 := x0.cell 0 rfl; have c1 := x0.cell 1 rfl; have c2 := x0.cell 2 rfl; have c3 := x0.cell 3 rfl; have c4 := x0.cell 4 rfl
  clear hlr hlp hf
  go_enter Try.func14, Try.ntmps14
  go_wp2_with fail
  refine hfa.mono ?_
  rintro e W1 ⟨rfl, hb1⟩
  clear hW hfa
  (try clear c0 c1 c2 c3 c4); replace x0 := x0.below hb1; have c0 := x0.cell 0 rfl; have c1 := x0.cell 1 rfl; have c2 := x0.cell 2 rfl; have c3 := x0.cell 3 rfl; have c4 := x0.cell 4 rfl; replace hb := hb.trans (hb1.mono hb.size); clear hb1
  go_wp2_with fail
  refine (works_any _).mono ?_
  rintro e V3 ⟨rfl, hb1⟩
  replace hb := hb.trans (hb1.mono hb.size)
  clear hb1
  clear x0 c0 c1 c2 c3 c4
  go_wp2
  go_ret
  exact ⟨rfl, hb⟩
set_option maxRecDepth 100000 in
set_option maxHeartbeats 1000000 in
theorem late_14 (ar ap : Option Addr) (cr cp : Nat) (rs ps : List (Int × Int)) (p0 way step : Int) (x by' : Int) (w : World) (hl : rs.length ≤ 40 ∧ ps.length ≤ 40) (hb1 : 400 < by') (hb2 : by' ≤ 9999) :
    Calls Try.prog 14 #[.agg #[.slice ar rs.length cr, .int .i64 p0, .int .i64 way, .int .i64 step, .slice ap ps.length cp], .int .i64 x, .int .i64 by'] w (WorksP w) := by
  obtain ⟨W, hW, hb, hs, x0⟩ := boxes1 w #[.slice ar rs.length cr, .int .i64 p0, .int .i64 way, .int .i64 step, .slice ap ps.length cp] 25
  clear hs
  have hfa := Far2_any ar ap cr cp rs ps p0 way step W (by omega) (by omega)
  rw [show (decide (40 < rs.length) || decide (40 < ps.length)) = false by simp; omega] at hfa
  have c0 := x0.cell 0 rfl; have c1 := x0.cell 1 rfl; have c2 := x0.cell 2 rfl; have c3 := x0.cell 3 rfl; have c4 := x0.cell 4 rfl
  have hB1 : 400 < by' := hb1
  clear hb1
  go_enter Try.func14, Try.ntmps14
  go_wp2_with fail
  refine hfa.mono ?_
  rintro e W1 ⟨rfl, hb1⟩
  clear hW hfa
  (try clear c0 c1 c2 c3 c4); replace x0 := x0.below hb1; have c0 := x0.cell 0 rfl; have c1 := x0.cell 1 rfl; have c2 := x0.cell 2 rfl; have c3 := x0.cell 3 rfl; have c4 := x0.cell 4 rfl; replace hb := hb.trans (hb1.mono hb.size); clear hb1
  go_wp2_with fail
  refine (works_any _).mono ?_
  rintro e V3 ⟨rfl, hb1⟩
  replace hb := hb.trans (hb1.mono hb.size)
  clear hb1
  clear x0 c0 c1 c2 c3 c4
  go_wp2
  go_ret
  exact ⟨rfl, hb⟩

set_option maxRecDepth 100000 in
set_option maxHeartbeats 4000000 in
theorem latest_of0 (ar ap : Option Addr) (cr cp : Nat) (rs ps : List (Int × Int)) (p0 way step : Int) (x by' : Int) (w : World) (hR : Prs w ar rs) (hP : Prs w ap ps) (hl : rs.length ≤ 40 ∧ ps.length ≤ 40) (hy : by' ≤ 400) (Q : Int → Int → Prop)
    (hA : ∀ (aa ab : Option Addr) (ca cb : Nat) (V : World), Prs V aa rs → Prs V ab ps → Calls Try.prog 32 #[.agg #[.slice aa rs.length ca, .int .i64 p0, .int .i64 way, .int .i64 step, .slice ab ps.length cb], .int .i64 x, .int .i64 by'] V fun e' w' => ∃ a r : Int, e' = .returned (.tuple #[.int .i64 a, .int .i64 r]) ∧ Q a r ∧ Below V.heap.size V w')
    (hB : ∀ (a r : Int), Q a r → ∀ (V : World), Prs V ar rs → Prs V ap ps → Calls Try.prog 48 #[.agg #[.slice ar rs.length cr, .int .i64 p0, .int .i64 way, .int .i64 step, .slice ap ps.length cp], .int .i64 x, .int .i64 by'] V fun e' w' => e' = .returned (.tuple #[.int .i64 a, .int .i64 r]) ∧ Below V.heap.size V w') :
    Calls Try.prog 14 #[.agg #[.slice ar rs.length cr, .int .i64 p0, .int .i64 way, .int .i64 step, .slice ap ps.length cp], .int .i64 x, .int .i64 by'] w (WorksP w) := by
  obtain ⟨n, hn⟩ : ∃ n, n = rs.length := ⟨_, rfl⟩
  obtain ⟨m, hm⟩ : ∃ m, m = ps.length := ⟨_, rfl⟩
  have HN := hid hn; have HM := hid hm
  have hcp := fun V h1 h2 => copy_any ar ap cr cp rs ps p0 way step V h1 h2 (by omega) (by omega)
  unfold CopyP at hcp
  rw [← hn, ← hm] at hcp hl ⊢
  obtain ⟨W, hW, hb, hs, x0⟩ := boxes1 w #[.slice ar n cr, .int .i64 p0, .int .i64 way, .int .i64 step, .slice ap m cp] 25
  clear hs
  have hfa := Far2_any ar ap cr cp rs ps p0 way step W (by omega) (by omega)
  rw [← hn, ← hm, show (decide (40 < n) || decide (40 < m)) = false by simp; omega] at hfa
  have hsm := fun aa ab ca cb V h1 h2 h3 h4 => Same_eq aa ab ca cb rs ps p0 way step ar ap cr cp V h1 h2 h3 h4
  rw [← hn, ← hm] at hsm
  have hnI : (n : Int) ≤ 40 := by omega
  have hmI : (m : Int) ≤ 40 := by omega
  rw [← hn, ← hm] at hA hB
  have c0 := x0.cell 0 rfl; have c1 := x0.cell 1 rfl; have c2 := x0.cell 2 rfl; have c3 := x0.cell 3 rfl; have c4 := x0.cell 4 rfl
  clear hn hm
  go_enter Try.func14, Try.ntmps14
  go_wp2_with fail
  refine hfa.mono ?_
  rintro e W1 ⟨rfl, hb1⟩
  clear hW hfa
  (try clear c0 c1 c2 c3 c4); replace x0 := x0.below hb1; have c0 := x0.cell 0 rfl; have c1 := x0.cell 1 rfl; have c2 := x0.cell 2 rfl; have c3 := x0.cell 3 rfl; have c4 := x0.cell 4 rfl; replace hb := hb.trans (hb1.mono hb.size); clear hb1
  go_wp2_with fail
  refine (hcp _ (hR.below hb (Nat.le_refl _)) (hP.below hb (Nat.le_refl _))).mono ?_
  rintro e W2 ⟨hb1, a1, a2, e1, e2, rfl, own1, own2, _⟩
  clear hcp
  obtain ⟨W3, hW3, hbx, hsx, x1⟩ := boxes1 W2 #[.slice a1 n e1, .int .i64 p0, .int .i64 way, .int .i64 step, .slice a2 m e2] 25
  have HB2 := hid (show TwoB w.heap.size W2.heap.size n m ar ap a1 a2 cr cp e1 e2 p0 way step rs ps W3 from
    ⟨(x0.below hb1).below hbx, x1, hR.below (hb.trans ((hb1.trans (hbx.mono hb1.size)).mono hb.size)) (Nat.le_refl _), hP.below (hb.trans ((hb1.trans (hbx.mono hb1.size)).mono hb.size)) (Nat.le_refl _), (copy_prs own1 HN.out hl.1 hR).below hbx (Nat.le_refl _), (copy_prs own2 HM.out hl.2 hP).below hbx (Nat.le_refl _)⟩)
  replace hb := (hb.trans (hb1.mono hb.size)).trans (hbx.mono (hb.trans (hb1.mono hb.size)).size)
  clear own1 own2 hb1 hbx hsx x0 x1 c0 c1 c2 c3 c4
  have hb1 := Below.refl W3.heap.size W3
  replace HB2 := hid (HB2.out.below hb1)
  replace hb := hb.trans (hb1.mono hb.size)
  (try clear c0 c1 c2 c3 c4 d0 d1 d2 d3 d4)
  have c0 := HB2.out.x0.cell 0 rfl; have c1 := HB2.out.x0.cell 1 rfl; have c2 := HB2.out.x0.cell 2 rfl; have c3 := HB2.out.x0.cell 3 rfl; have c4 := HB2.out.x0.cell 4 rfl
  have d0 := HB2.out.x1.cell 0 rfl; have d1 := HB2.out.x1.cell 1 rfl; have d2 := HB2.out.x1.cell 2 rfl; have d3 := HB2.out.x1.cell 3 rfl; have d4 := HB2.out.x1.cell 4 rfl
  clear hb1
  go_wp2_with fail
  refine (hA _ _ _ _ _ HB2.out.q1 HB2.out.q2).mono ?_
  rintro e V1 ⟨a, r, rfl, hQ, hb1⟩
  clear hA hW3
  replace HB2 := hid (HB2.out.below hb1)
  replace hb := hb.trans (hb1.mono hb.size)
  (try clear c0 c1 c2 c3 c4 d0 d1 d2 d3 d4)
  have c0 := HB2.out.x0.cell 0 rfl; have c1 := HB2.out.x0.cell 1 rfl; have c2 := HB2.out.x0.cell 2 rfl; have c3 := HB2.out.x0.cell 3 rfl; have c4 := HB2.out.x0.cell 4 rfl
  have d0 := HB2.out.x1.cell 0 rfl; have d1 := HB2.out.x1.cell 1 rfl; have d2 := HB2.out.x1.cell 2 rfl; have d3 := HB2.out.x1.cell 3 rfl; have d4 := HB2.out.x1.cell 4 rfl
  clear hb1
  have hB' := hB a r hQ
  clear hB hQ
  go_wp2_with fail
  refine (hB' _ HB2.out.hR HB2.out.hP).mono ?_
  rintro e V1 ⟨rfl, hb1⟩
  clear hB'
  replace HB2 := hid (HB2.out.below hb1)
  replace hb := hb.trans (hb1.mono hb.size)
  (try clear c0 c1 c2 c3 c4 d0 d1 d2 d3 d4)
  have c0 := HB2.out.x0.cell 0 rfl; have c1 := HB2.out.x0.cell 1 rfl; have c2 := HB2.out.x0.cell 2 rfl; have c3 := HB2.out.x0.cell 3 rfl; have c4 := HB2.out.x0.cell 4 rfl
  have d0 := HB2.out.x1.cell 0 rfl; have d1 := HB2.out.x1.cell 1 rfl; have d2 := HB2.out.x1.cell 2 rfl; have d3 := HB2.out.x1.cell 3 rfl; have d4 := HB2.out.x1.cell 4 rfl
  clear hb1
  go_wp2_with fail
  refine (hsm _ _ _ _ _ HB2.out.q1 HB2.out.q2 HB2.out.hR HB2.out.hP).mono ?_
  rintro e V6 ⟨rfl, hb1⟩
  clear hsm
  replace HB2 := hid (HB2.out.below hb1)
  replace hb := hb.trans (hb1.mono hb.size)
  (try clear c0 c1 c2 c3 c4 d0 d1 d2 d3 d4)
  have c0 := HB2.out.x0.cell 0 rfl; have c1 := HB2.out.x0.cell 1 rfl; have c2 := HB2.out.x0.cell 2 rfl; have c3 := HB2.out.x0.cell 3 rfl; have c4 := HB2.out.x0.cell 4 rfl
  have d0 := HB2.out.x1.cell 0 rfl; have d1 := HB2.out.x1.cell 1 rfl; have d2 := HB2.out.x1.cell 2 rfl; have d3 := HB2.out.x1.cell 3 rfl; have d4 := HB2.out.x1.cell 4 rfl
  clear hb1
  go_wp2_with fail
  refine (works_any _).mono ?_
  rintro e V3 ⟨rfl, hb1⟩
  replace hb := hb.trans (hb1.mono hb.size)
  clear hb1
  clear HB2 c0 c1 c2 c3 c4 d0 d1 d2 d3 d4
  go_wp2
  go_ret
  exact ⟨rfl, hb⟩

set_option maxRecDepth 100000 in
set_option maxHeartbeats 4000000 in
theorem latest_of1 (ar ap : Option Addr) (cr cp : Nat) (rs ps : List (Int × Int)) (p0 way step : Int) (x by' : Int) (w : World) (hR : Prs w ar rs) (hP : Prs w ap ps) (hl : rs.length ≤ 40 ∧ ps.length ≤ 40) (hy : 9999 < by') (Q : Int → Int → Prop)
    (hA : ∀ (aa ab : Option Addr) (ca cb : Nat) (V : World), Prs V aa rs → Prs V ab ps → Calls Try.prog 32 #[.agg #[.slice aa rs.length ca, .int .i64 p0, .int .i64 way, .int .i64 step, .slice ab ps.length cb], .int .i64 x, .int .i64 by'] V fun e' w' => ∃ a r : Int, e' = .returned (.tuple #[.int .i64 a, .int .i64 r]) ∧ Q a r ∧ Below V.heap.size V w')
    (hB : ∀ (a r : Int), Q a r → ∀ (V : World), Prs V ar rs → Prs V ap ps → Calls Try.prog 48 #[.agg #[.slice ar rs.length cr, .int .i64 p0, .int .i64 way, .int .i64 step, .slice ap ps.length cp], .int .i64 x, .int .i64 by'] V fun e' w' => e' = .returned (.tuple #[.int .i64 a, .int .i64 r]) ∧ Below V.heap.size V w') :
    Calls Try.prog 14 #[.agg #[.slice ar rs.length cr, .int .i64 p0, .int .i64 way, .int .i64 step, .slice ap ps.length cp], .int .i64 x, .int .i64 by'] w (WorksP w) := by
  obtain ⟨n, hn⟩ : ∃ n, n = rs.length := ⟨_, rfl⟩
  obtain ⟨m, hm⟩ : ∃ m, m = ps.length := ⟨_, rfl⟩
  have HN := hid hn; have HM := hid hm
  have hcp := fun V h1 h2 => copy_any ar ap cr cp rs ps p0 way step V h1 h2 (by omega) (by omega)
  unfold CopyP at hcp
  rw [← hn, ← hm] at hcp hl ⊢
  obtain ⟨W, hW, hb, hs, x0⟩ := boxes1 w #[.slice ar n cr, .int .i64 p0, .int .i64 way, .int .i64 step, .slice ap m cp] 25
  clear hs
  have hfa := Far2_any ar ap cr cp rs ps p0 way step W (by omega) (by omega)
  rw [← hn, ← hm, show (decide (40 < n) || decide (40 < m)) = false by simp; omega] at hfa
  have hsm := fun aa ab ca cb V h1 h2 h3 h4 => Same_eq aa ab ca cb rs ps p0 way step ar ap cr cp V h1 h2 h3 h4
  rw [← hn, ← hm] at hsm
  have hnI : (n : Int) ≤ 40 := by omega
  have hmI : (m : Int) ≤ 40 := by omega
  rw [← hn, ← hm] at hA hB
  have c0 := x0.cell 0 rfl; have c1 := x0.cell 1 rfl; have c2 := x0.cell 2 rfl; have c3 := x0.cell 3 rfl; have c4 := x0.cell 4 rfl
  clear hn hm
  go_enter Try.func14, Try.ntmps14
  go_wp2_with fail
  refine hfa.mono ?_
  rintro e W1 ⟨rfl, hb1⟩
  clear hW hfa
  (try clear c0 c1 c2 c3 c4); replace x0 := x0.below hb1; have c0 := x0.cell 0 rfl; have c1 := x0.cell 1 rfl; have c2 := x0.cell 2 rfl; have c3 := x0.cell 3 rfl; have c4 := x0.cell 4 rfl; replace hb := hb.trans (hb1.mono hb.size); clear hb1
  go_wp2_with fail
  refine (hcp _ (hR.below hb (Nat.le_refl _)) (hP.below hb (Nat.le_refl _))).mono ?_
  rintro e W2 ⟨hb1, a1, a2, e1, e2, rfl, own1, own2, _⟩
  clear hcp
  obtain ⟨W3, hW3, hbx, hsx, x1⟩ := boxes1 W2 #[.slice a1 n e1, .int .i64 p0, .int .i64 way, .int .i64 step, .slice a2 m e2] 25
  have HB2 := hid (show TwoB w.heap.size W2.heap.size n m ar ap a1 a2 cr cp e1 e2 p0 way step rs ps W3 from
    ⟨(x0.below hb1).below hbx, x1, hR.below (hb.trans ((hb1.trans (hbx.mono hb1.size)).mono hb.size)) (Nat.le_refl _), hP.below (hb.trans ((hb1.trans (hbx.mono hb1.size)).mono hb.size)) (Nat.le_refl _), (copy_prs own1 HN.out hl.1 hR).below hbx (Nat.le_refl _), (copy_prs own2 HM.out hl.2 hP).below hbx (Nat.le_refl _)⟩)
  replace hb := (hb.trans (hb1.mono hb.size)).trans (hbx.mono (hb.trans (hb1.mono hb.size)).size)
  clear own1 own2 hb1 hbx hsx x0 x1 c0 c1 c2 c3 c4
  have hb1 := Below.refl W3.heap.size W3
  replace HB2 := hid (HB2.out.below hb1)
  replace hb := hb.trans (hb1.mono hb.size)
  (try clear c0 c1 c2 c3 c4 d0 d1 d2 d3 d4)
  have c0 := HB2.out.x0.cell 0 rfl; have c1 := HB2.out.x0.cell 1 rfl; have c2 := HB2.out.x0.cell 2 rfl; have c3 := HB2.out.x0.cell 3 rfl; have c4 := HB2.out.x0.cell 4 rfl
  have d0 := HB2.out.x1.cell 0 rfl; have d1 := HB2.out.x1.cell 1 rfl; have d2 := HB2.out.x1.cell 2 rfl; have d3 := HB2.out.x1.cell 3 rfl; have d4 := HB2.out.x1.cell 4 rfl
  clear hb1
  go_wp2_with fail
  refine (hA _ _ _ _ _ HB2.out.q1 HB2.out.q2).mono ?_
  rintro e V1 ⟨a, r, rfl, hQ, hb1⟩
  clear hA hW3
  replace HB2 := hid (HB2.out.below hb1)
  replace hb := hb.trans (hb1.mono hb.size)
  (try clear c0 c1 c2 c3 c4 d0 d1 d2 d3 d4)
  have c0 := HB2.out.x0.cell 0 rfl; have c1 := HB2.out.x0.cell 1 rfl; have c2 := HB2.out.x0.cell 2 rfl; have c3 := HB2.out.x0.cell 3 rfl; have c4 := HB2.out.x0.cell 4 rfl
  have d0 := HB2.out.x1.cell 0 rfl; have d1 := HB2.out.x1.cell 1 rfl; have d2 := HB2.out.x1.cell 2 rfl; have d3 := HB2.out.x1.cell 3 rfl; have d4 := HB2.out.x1.cell 4 rfl
  clear hb1
  have hB' := hB a r hQ
  clear hB hQ
  go_wp2_with fail
  refine (hB' _ HB2.out.hR HB2.out.hP).mono ?_
  rintro e V1 ⟨rfl, hb1⟩
  clear hB'
  replace HB2 := hid (HB2.out.below hb1)
  replace hb := hb.trans (hb1.mono hb.size)
  (try clear c0 c1 c2 c3 c4 d0 d1 d2 d3 d4)
  have c0 := HB2.out.x0.cell 0 rfl; have c1 := HB2.out.x0.cell 1 rfl; have c2 := HB2.out.x0.cell 2 rfl; have c3 := HB2.out.x0.cell 3 rfl; have c4 := HB2.out.x0.cell 4 rfl
  have d0 := HB2.out.x1.cell 0 rfl; have d1 := HB2.out.x1.cell 1 rfl; have d2 := HB2.out.x1.cell 2 rfl; have d3 := HB2.out.x1.cell 3 rfl; have d4 := HB2.out.x1.cell 4 rfl
  clear hb1
  go_wp2_with fail
  refine (hsm _ _ _ _ _ HB2.out.q1 HB2.out.q2 HB2.out.hR HB2.out.hP).mono ?_
  rintro e V6 ⟨rfl, hb1⟩
  clear hsm
  replace HB2 := hid (HB2.out.below hb1)
  replace hb := hb.trans (hb1.mono hb.size)
  (try clear c0 c1 c2 c3 c4 d0 d1 d2 d3 d4)
  have c0 := HB2.out.x0.cell 0 rfl; have c1 := HB2.out.x0.cell 1 rfl; have c2 := HB2.out.x0.cell 2 rfl; have c3 := HB2.out.x0.cell 3 rfl; have c4 := HB2.out.x0.cell 4 rfl
  have d0 := HB2.out.x1.cell 0 rfl; have d1 := HB2.out.x1.cell 1 rfl; have d2 := HB2.out.x1.cell 2 rfl; have d3 := HB2.out.x1.cell 3 rfl; have d4 := HB2.out.x1.cell 4 rfl
  clear hb1
  go_wp2_with fail
  refine (works_any _).mono ?_
  rintro e V3 ⟨rfl, hb1⟩
  replace hb := hb.trans (hb1.mono hb.size)
  clear hb1
  clear HB2 c0 c1 c2 c3 c4 d0 d1 d2 d3 d4
  go_wp2
  go_ret
  exact ⟨rfl, hb⟩

theorem latestlaw_any (ar ap : Option Addr) (cr cp : Nat) (rs ps : List (Int × Int)) (p0 way step : Int) (x by' : Int) (w : World) (hlr : rs.length ≤ 9223372036854775807) (hlp : ps.length ≤ 9223372036854775807) (hR : rs.length ≤ 1000 → Prs w ar rs) (hP : ps.length ≤ 1000 → Prs w ap ps) :
    Calls Try.prog 14 #[.agg #[.slice ar rs.length cr, .int .i64 p0, .int .i64 way, .int .i64 step, .slice ap ps.length cp], .int .i64 x, .int .i64 by'] w (WorksP w) := by
  cases hf : (decide (40 < rs.length) || decide (40 < ps.length))
  · simp only [Bool.or_eq_false_iff, decide_eq_false_iff_not] at hf
    have hl : rs.length ≤ 40 ∧ ps.length ≤ 40 := by omega
    have hR' := hR (by omega)
    have hP' := hP (by omega)
    by_cases hb : 400 < by' ∧ by' ≤ 9999
    · exact late_14 ar ap cr cp rs ps p0 way step x by' w hl hb.1 hb.2
    · obtain ⟨Q, hA, hB⟩ : ∃ Q : Int → Int → Prop,
          (∀ (aa ab : Option Addr) (ca cb : Nat) (V : World), Prs V aa rs → Prs V ab ps → Calls Try.prog 32 #[.agg #[.slice aa rs.length ca, .int .i64 p0, .int .i64 way, .int .i64 step, .slice ab ps.length cb], .int .i64 x, .int .i64 by'] V fun e' w' => ∃ a r : Int, e' = .returned (.tuple #[.int .i64 a, .int .i64 r]) ∧ Q a r ∧ Below V.heap.size V w') ∧
          (∀ (a r : Int), Q a r → ∀ (V : World), Prs V ar rs → Prs V ap ps → Calls Try.prog 48 #[.agg #[.slice ar rs.length cr, .int .i64 p0, .int .i64 way, .int .i64 step, .slice ap ps.length cp], .int .i64 x, .int .i64 by'] V fun e' w' => e' = .returned (.tuple #[.int .i64 a, .int .i64 r]) ∧ Below V.heap.size V w') := by
        cases hv : trB rs ps p0 way step
        · exact ⟨fun a r => a = 0 ∧ r = 20, fun aa ab ca cb V h1 h2 => (Latest_bad aa ab ca cb rs ps p0 way step x by' V h1 h2 hv).mono fun e' w' h => ⟨0, 20, h.1, ⟨rfl, rfl⟩, h.2⟩, fun a r hQ V h1 h2 => by rw [hQ.1, hQ.2]; exact rLatest_bad ar ap cr cp rs ps p0 way step x by' V h1 h2 hv⟩
        · cases hx : (inR 0 x (2 * (rs.length : Int) - 1) && inR 0 by' 9999)
          · exact ⟨fun a r => a = 0 ∧ r = 1, fun aa ab ca cb V h1 h2 => (Latest_arg aa ab ca cb rs ps p0 way step x by' V h1 h2 hv hx).mono fun e' w' h => ⟨0, 1, h.1, ⟨rfl, rfl⟩, h.2⟩, fun a r hQ V h1 h2 => by rw [hQ.1, hQ.2]; exact rLatest_arg ar ap cr cp rs ps p0 way step x by' V h1 h2 hv hx⟩
          · rw [Bool.and_eq_true] at hx
            obtain ⟨T, hT, h12⟩ := tr_of hv
            refine ⟨fun a r => ∃ k : Nat, (k : Int) ≤ by' + 1 ∧ (0 < k → lateP T x by' (k - 1) = false) ∧ ((k : Int) < by' + 1 → lateP T x by' k = true) ∧ Value.tuple #[.int .i64 a, .int .i64 r] = (if k = 0 then .tuple #[.int .i64 0, .int .i64 3] else .tuple #[.int .i64 ((k : Int) - 1), .int .i64 0]), fun aa ab ca cb V h1 h2 => (Latest_ok aa ab ca cb rs ps p0 way step x by' V h1 h2 hv hx.1 hx.2 h12 T hT).mono fun e' w' h => ?_, fun a r hQ V h1 h2 => ?_⟩
            · obtain ⟨k, h3, h4, h5, h6, h7⟩ := h
              by_cases hk : k = 0
              · rw [if_pos hk] at h3
                exact ⟨0, 3, h3, ⟨k, h4, h5, h6, by rw [if_pos hk]⟩, h7⟩
              · rw [if_neg hk] at h3
                exact ⟨(k : Int) - 1, 0, h3, ⟨k, h4, h5, h6, by rw [if_neg hk]⟩, h7⟩
            · obtain ⟨k, h4, h5, h6, h7⟩ := hQ
              rw [h7]
              exact rLatest_ok ar ap cr cp rs ps p0 way step x by' V h1 h2 hv hx.1 hx.2 T hT h12 k h4 h5 h6
      by_cases h4 : by' ≤ 400
      · exact latest_of0 ar ap cr cp rs ps p0 way step x by' w hR' hP' hl h4 Q hA hB
      · exact latest_of1 ar ap cr cp rs ps p0 way step x by' w hR' hP' hl (by omega) Q hA hB
  · exact far_14 ar ap cr cp rs ps p0 way step x by' w hlr hlp hf
end Go.Proofs.Ytknaljghpfeikaa
