import Derived.Test.YtknaljghpfeikaaT72
namespace Go.Proofs.Ytknaljghpfeikaa
open Go.RowKit

set_option maxRecDepth 100000 in
set_option maxHeartbeats 1000000 in
theorem far_12 (ar ap : Option Addr) (cr cp : Nat) (rs ps : List (Int × Int)) (p0 way step : Int) (t : Int) (w : World) (hlr : rs.length ≤ 9223372036854775807) (hlp : ps.length ≤ 9223372036854775807) (hf : (decide (40 < rs.length) || decide (40 < ps.length)) = true) :
    Calls Try.prog 12 #[.agg #[.slice ar rs.length cr, .int .i64 p0, .int .i64 way, .int .i64 step, .slice ap ps.length cp], .int .i64 t] w (WorksP w) := by
  obtain ⟨W, hW, hb, hs, x0⟩ := boxes1 w #[.slice ar rs.length cr, .int .i64 p0, .int .i64 way, .int .i64 step, .slice ap ps.length cp] 25
  clear hs
  have hfa := Far2_any ar ap cr cp rs ps p0 way step W hlr hlp
  rw [hf] at hfa
  have c0 := x0.cell 0 rfl; have c1 := x0.cell 1 rfl; have c2 := x0.cell 2 rfl; have c3 := x0.cell 3 rfl; have c4 := x0.cell 4 rfl
  clear hlr hlp hf
  go_enter Try.func12, Try.ntmps12
  go_wp2_with fail
  refine hfa.mono ?_
  rintro e W1 ⟨rfl, hb1⟩
  clear hW hfa
  (try clear c0 c1 c2 c3 c4); replace x0 := x0.below hb1; have c0 := x0.cell 0 rfl; have c1 := x0.cell 1 rfl; have c2 := x0.cell 2 rfl; have c3 := x0.cell 3 rfl; have c4 := x0.cell 4 rfl; replace hb := hb.trans (hb1.mono hb.size); clear hb1
  go_wp2_with fail
  refine (works_any _).mono ?_
  rintro e V3 ⟨rfl, hb1⟩
  replace hb := hb.trans (hb1.mono hb.size)
  clear hb1
  clear x0 c0 c1 c2 c3 c4
  go_wp2
  go_ret
  exact ⟨rfl, hb⟩
set_option maxRecDepth 100000 in
set_option maxHeartbeats 4000000 in
theorem waits_of (ar ap : Option Addr) (cr cp : Nat) (rs ps : List (Int × Int)) (p0 way step : Int) (t : Int) (w : World) (hR : Prs w ar rs) (hP : Prs w ap ps) (hl : rs.length ≤ 40 ∧ ps.length ≤ 40) (x y e l z f : Int)
    (hA : ∀ (aa ab : Option Addr) (ca cb : Nat) (V : World), Prs V aa rs → Prs V ab ps → Calls Try.prog 20 #[.agg #[.slice aa rs.length ca, .int .i64 p0, .int .i64 way, .int .i64 step, .slice ab ps.length cb], .int .i64 t] V fun e' w' => e' = .returned (.tuple #[.int .i64 x, .int .i64 e]) ∧ Below V.heap.size V w')
    (hB : ∀ (V : World), Prs V ar rs → Prs V ap ps → Calls Try.prog 42 #[.agg #[.slice ar rs.length cr, .int .i64 p0, .int .i64 way, .int .i64 step, .slice ap ps.length cp], .int .i64 t] V fun e' w' => e' = .returned (.tuple #[.int .i64 x, .int .i64 e]) ∧ Below V.heap.size V w')
    (hC : ∀ (aa ab : Option Addr) (ca cb : Nat) (V : World), Prs V aa rs → Prs V ab ps → Calls Try.prog 21 #[.agg #[.slice aa rs.length ca, .int .i64 p0, .int .i64 way, .int .i64 step, .slice ab ps.length cb], .int .i64 t] V fun e' w' => e' = .returned (.tuple #[.int .i64 y, .int .i64 e]) ∧ Below V.heap.size V w')
    (hD : ∀ (V : World), Prs V ar rs → Prs V ap ps → Calls Try.prog 43 #[.agg #[.slice ar rs.length cr, .int .i64 p0, .int .i64 way, .int .i64 step, .slice ap ps.length cp], .int .i64 t] V fun e' w' => e' = .returned (.tuple #[.int .i64 y, .int .i64 e]) ∧ Below V.heap.size V w')
    (hE : ∀ (aa ab : Option Addr) (ca cb : Nat) (V : World), Prs V aa rs → Prs V ab ps → Calls Try.prog 44 #[.agg #[.slice aa rs.length ca, .int .i64 p0, .int .i64 way, .int .i64 step, .slice ab ps.length cb]] V fun e' w' => e' = .returned (.tuple #[.int .i64 l, .int .i64 f]) ∧ Below V.heap.size V w')
    (hF : ∀ (V : World), Prs V ar rs → Prs V ap ps → Calls Try.prog 45 #[.agg #[.slice ar rs.length cr, .int .i64 p0, .int .i64 way, .int .i64 step, .slice ap ps.length cp]] V fun e' w' => e' = .returned (.tuple #[.int .i64 l, .int .i64 f]) ∧ Below V.heap.size V w')
    (hG : ∀ (aa ab : Option Addr) (ca cb : Nat) (V : World), Prs V aa rs → Prs V ab ps → Calls Try.prog 22 #[.agg #[.slice aa rs.length ca, .int .i64 p0, .int .i64 way, .int .i64 step, .slice ab ps.length cb]] V fun e' w' => e' = .returned (.tuple #[.int .i64 z, .int .i64 f]) ∧ Below V.heap.size V w')
    (hH : ∀ (V : World), Prs V ar rs → Prs V ap ps → Calls Try.prog 46 #[.agg #[.slice ar rs.length cr, .int .i64 p0, .int .i64 way, .int .i64 step, .slice ap ps.length cp]] V fun e' w' => e' = .returned (.tuple #[.int .i64 z, .int .i64 f]) ∧ Below V.heap.size V w') :
    Calls Try.prog 12 #[.agg #[.slice ar rs.length cr, .int .i64 p0, .int .i64 way, .int .i64 step, .slice ap ps.length cp], .int .i64 t] w (WorksP w) := by
  obtain ⟨n, hn⟩ : ∃ n, n = rs.length := ⟨_, rfl⟩
  obtain ⟨m, hm⟩ : ∃ m, m = ps.length := ⟨_, rfl⟩
  have HN := hid hn; have HM := hid hm
  have hcp := fun V h1 h2 => copy_any ar ap cr cp rs ps p0 way step V h1 h2 (by omega) (by omega)
  unfold CopyP at hcp
  rw [← hn, ← hm] at hcp hl ⊢
  obtain ⟨W, hW, hb, hs, x0⟩ := boxes1 w #[.slice ar n cr, .int .i64 p0, .int .i64 way, .int .i64 step, .slice ap m cp] 25
  clear hs
  have hfa := Far2_any ar ap cr cp rs ps p0 way step W (by omega) (by omega)
  rw [← hn, ← hm, show (decide (40 < n) || decide (40 < m)) = false by simp; omega] at hfa
  have hsm := fun aa ab ca cb V h1 h2 h3 h4 => Same_eq aa ab ca cb rs ps p0 way step ar ap cr cp V h1 h2 h3 h4
  rw [← hn, ← hm] at hsm
  have hnI : (n : Int) ≤ 40 := by omega
  have hmI : (m : Int) ≤ 40 := by omega
  rw [← hn, ← hm] at hA hB hC hD hE hF hG hH
  have c0 := x0.cell 0 rfl; have c1 := x0.cell 1 rfl; have c2 := x0.cell 2 rfl; have c3 := x0.cell 3 rfl; have c4 := x0.cell 4 rfl
  clear hn hm
  go_enter Try.func12, Try.ntmps12
  go_wp2_with fail
  refine hfa.mono ?_
  rintro e W1 ⟨rfl, hb1⟩
  clear hW hfa
  (try clear c0 c1 c2 c3 c4); replace x0 := x0.below hb1; have c0 := x0.cell 0 rfl; have c1 := x0.cell 1 rfl; have c2 := x0.cell 2 rfl; have c3 := x0.cell 3 rfl; have c4 := x0.cell 4 rfl; replace hb := hb.trans (hb1.mono hb.size); clear hb1
  go_wp2_with fail
  refine (hcp _ (hR.below hb (Nat.le_refl _)) (hP.below hb (Nat.le_refl _))).mono ?_
  rintro e W2 ⟨hb1, a1, a2, e1, e2, rfl, own1, own2, _⟩
  clear hcp
  obtain ⟨W3, hW3, hbx, hsx, x1⟩ := boxes1 W2 #[.slice a1 n e1, .int .i64 p0, .int .i64 way, .int .i64 step, .slice a2 m e2] 25
  have HB2 := hid (show TwoB w.heap.size W2.heap.size n m ar ap a1 a2 cr cp e1 e2 p0 way step rs ps W3 from
    ⟨(x0.below hb1).below hbx, x1, hR.below (hb.trans ((hb1.trans (hbx.mono hb1.size)).mono hb.size)) (Nat.le_refl _), hP.below (hb.trans ((hb1.trans (hbx.mono hb1.size)).mono hb.size)) (Nat.le_refl _), (copy_prs own1 HN.out hl.1 hR).below hbx (Nat.le_refl _), (copy_prs own2 HM.out hl.2 hP).below hbx (Nat.le_refl _)⟩)
  replace hb := (hb.trans (hb1.mono hb.size)).trans (hbx.mono (hb.trans (hb1.mono hb.size)).size)
  clear own1 own2 hb1 hbx hsx x0 x1 c0 c1 c2 c3 c4
  have hb1 := Below.refl W3.heap.size W3
  replace HB2 := hid (HB2.out.below hb1)
  replace hb := hb.trans (hb1.mono hb.size)
  (try clear c0 c1 c2 c3 c4 d0 d1 d2 d3 d4)
  have c0 := HB2.out.x0.cell 0 rfl; have c1 := HB2.out.x0.cell 1 rfl; have c2 := HB2.out.x0.cell 2 rfl; have c3 := HB2.out.x0.cell 3 rfl; have c4 := HB2.out.x0.cell 4 rfl
  have d0 := HB2.out.x1.cell 0 rfl; have d1 := HB2.out.x1.cell 1 rfl; have d2 := HB2.out.x1.cell 2 rfl; have d3 := HB2.out.x1.cell 3 rfl; have d4 := HB2.out.x1.cell 4 rfl
  clear hb1
  go_wp2_with fail
  refine (hA _ _ _ _ _ HB2.out.q1 HB2.out.q2).mono ?_
  rintro e V1 ⟨rfl, hb1⟩
  clear hA
  replace HB2 := hid (HB2.out.below hb1)
  replace hb := hb.trans (hb1.mono hb.size)
  (try clear c0 c1 c2 c3 c4 d0 d1 d2 d3 d4)
  have c0 := HB2.out.x0.cell 0 rfl; have c1 := HB2.out.x0.cell 1 rfl; have c2 := HB2.out.x0.cell 2 rfl; have c3 := HB2.out.x0.cell 3 rfl; have c4 := HB2.out.x0.cell 4 rfl
  have d0 := HB2.out.x1.cell 0 rfl; have d1 := HB2.out.x1.cell 1 rfl; have d2 := HB2.out.x1.cell 2 rfl; have d3 := HB2.out.x1.cell 3 rfl; have d4 := HB2.out.x1.cell 4 rfl
  clear hb1
  clear hW3
  go_wp2_with fail
  refine (hB _ HB2.out.hR HB2.out.hP).mono ?_
  rintro e V1 ⟨rfl, hb1⟩
  clear hB
  replace HB2 := hid (HB2.out.below hb1)
  replace hb := hb.trans (hb1.mono hb.size)
  (try clear c0 c1 c2 c3 c4 d0 d1 d2 d3 d4)
  have c0 := HB2.out.x0.cell 0 rfl; have c1 := HB2.out.x0.cell 1 rfl; have c2 := HB2.out.x0.cell 2 rfl; have c3 := HB2.out.x0.cell 3 rfl; have c4 := HB2.out.x0.cell 4 rfl
  have d0 := HB2.out.x1.cell 0 rfl; have d1 := HB2.out.x1.cell 1 rfl; have d2 := HB2.out.x1.cell 2 rfl; have d3 := HB2.out.x1.cell 3 rfl; have d4 := HB2.out.x1.cell 4 rfl
  clear hb1
  go_wp2_with fail
  refine (hC _ _ _ _ _ HB2.out.q1 HB2.out.q2).mono ?_
  rintro e V1 ⟨rfl, hb1⟩
  clear hC
  replace HB2 := hid (HB2.out.below hb1)
  replace hb := hb.trans (hb1.mono hb.size)
  (try clear c0 c1 c2 c3 c4 d0 d1 d2 d3 d4)
  have c0 := HB2.out.x0.cell 0 rfl; have c1 := HB2.out.x0.cell 1 rfl; have c2 := HB2.out.x0.cell 2 rfl; have c3 := HB2.out.x0.cell 3 rfl; have c4 := HB2.out.x0.cell 4 rfl
  have d0 := HB2.out.x1.cell 0 rfl; have d1 := HB2.out.x1.cell 1 rfl; have d2 := HB2.out.x1.cell 2 rfl; have d3 := HB2.out.x1.cell 3 rfl; have d4 := HB2.out.x1.cell 4 rfl
  clear hb1
  go_wp2_with fail
  refine (hD _ HB2.out.hR HB2.out.hP).mono ?_
  rintro e V1 ⟨rfl, hb1⟩
  clear hD
  replace HB2 := hid (HB2.out.below hb1)
  replace hb := hb.trans (hb1.mono hb.size)
  (try clear c0 c1 c2 c3 c4 d0 d1 d2 d3 d4)
  have c0 := HB2.out.x0.cell 0 rfl; have c1 := HB2.out.x0.cell 1 rfl; have c2 := HB2.out.x0.cell 2 rfl; have c3 := HB2.out.x0.cell 3 rfl; have c4 := HB2.out.x0.cell 4 rfl
  have d0 := HB2.out.x1.cell 0 rfl; have d1 := HB2.out.x1.cell 1 rfl; have d2 := HB2.out.x1.cell 2 rfl; have d3 := HB2.out.x1.cell 3 rfl; have d4 := HB2.out.x1.cell 4 rfl
  clear hb1
  go_wp2_with fail
  refine (hE _ _ _ _ _ HB2.out.q1 HB2.out.q2).mono ?_
  rintro e V1 ⟨rfl, hb1⟩
  clear hE
  replace HB2 := hid (HB2.out.below hb1)
  replace hb := hb.trans (hb1.mono hb.size)
  (try clear c0 c1 c2 c3 c4 d0 d1 d2 d3 d4)
  have c0 := HB2.out.x0.cell 0 rfl; have c1 := HB2.out.x0.cell 1 rfl; have c2 := HB2.out.x0.cell 2 rfl; have c3 := HB2.out.x0.cell 3 rfl; have c4 := HB2.out.x0.cell 4 rfl
  have d0 := HB2.out.x1.cell 0 rfl; have d1 := HB2.out.x1.cell 1 rfl; have d2 := HB2.out.x1.cell 2 rfl; have d3 := HB2.out.x1.cell 3 rfl; have d4 := HB2.out.x1.cell 4 rfl
  clear hb1
  go_wp2_with fail
  refine (hF _ HB2.out.hR HB2.out.hP).mono ?_
  rintro e V1 ⟨rfl, hb1⟩
  clear hF
  replace HB2 := hid (HB2.out.below hb1)
  replace hb := hb.trans (hb1.mono hb.size)
  (try clear c0 c1 c2 c3 c4 d0 d1 d2 d3 d4)
  have c0 := HB2.out.x0.cell 0 rfl; have c1 := HB2.out.x0.cell 1 rfl; have c2 := HB2.out.x0.cell 2 rfl; have c3 := HB2.out.x0.cell 3 rfl; have c4 := HB2.out.x0.cell 4 rfl
  have d0 := HB2.out.x1.cell 0 rfl; have d1 := HB2.out.x1.cell 1 rfl; have d2 := HB2.out.x1.cell 2 rfl; have d3 := HB2.out.x1.cell 3 rfl; have d4 := HB2.out.x1.cell 4 rfl
  clear hb1
  go_wp2_with fail
  refine (hG _ _ _ _ _ HB2.out.q1 HB2.out.q2).mono ?_
  rintro e V1 ⟨rfl, hb1⟩
  clear hG
  replace HB2 := hid (HB2.out.below hb1)
  replace hb := hb.trans (hb1.mono hb.size)
  (try clear c0 c1 c2 c3 c4 d0 d1 d2 d3 d4)
  have c0 := HB2.out.x0.cell 0 rfl; have c1 := HB2.out.x0.cell 1 rfl; have c2 := HB2.out.x0.cell 2 rfl; have c3 := HB2.out.x0.cell 3 rfl; have c4 := HB2.out.x0.cell 4 rfl
  have d0 := HB2.out.x1.cell 0 rfl; have d1 := HB2.out.x1.cell 1 rfl; have d2 := HB2.out.x1.cell 2 rfl; have d3 := HB2.out.x1.cell 3 rfl; have d4 := HB2.out.x1.cell 4 rfl
  clear hb1
  go_wp2_with fail
  refine (hH _ HB2.out.hR HB2.out.hP).mono ?_
  rintro e V1 ⟨rfl, hb1⟩
  clear hH
  replace HB2 := hid (HB2.out.below hb1)
  replace hb := hb.trans (hb1.mono hb.size)
  (try clear c0 c1 c2 c3 c4 d0 d1 d2 d3 d4)
  have c0 := HB2.out.x0.cell 0 rfl; have c1 := HB2.out.x0.cell 1 rfl; have c2 := HB2.out.x0.cell 2 rfl; have c3 := HB2.out.x0.cell 3 rfl; have c4 := HB2.out.x0.cell 4 rfl
  have d0 := HB2.out.x1.cell 0 rfl; have d1 := HB2.out.x1.cell 1 rfl; have d2 := HB2.out.x1.cell 2 rfl; have d3 := HB2.out.x1.cell 3 rfl; have d4 := HB2.out.x1.cell 4 rfl
  clear hb1
  go_wp2_with fail
  refine (hsm _ _ _ _ _ HB2.out.q1 HB2.out.q2 HB2.out.hR HB2.out.hP).mono ?_
  rintro e V6 ⟨rfl, hb1⟩
  clear hsm
  replace HB2 := hid (HB2.out.below hb1)
  replace hb := hb.trans (hb1.mono hb.size)
  (try clear c0 c1 c2 c3 c4 d0 d1 d2 d3 d4)
  have c0 := HB2.out.x0.cell 0 rfl; have c1 := HB2.out.x0.cell 1 rfl; have c2 := HB2.out.x0.cell 2 rfl; have c3 := HB2.out.x0.cell 3 rfl; have c4 := HB2.out.x0.cell 4 rfl
  have d0 := HB2.out.x1.cell 0 rfl; have d1 := HB2.out.x1.cell 1 rfl; have d2 := HB2.out.x1.cell 2 rfl; have d3 := HB2.out.x1.cell 3 rfl; have d4 := HB2.out.x1.cell 4 rfl
  clear hb1
  go_wp2_with fail
  refine (works_any _).mono ?_
  rintro e V3 ⟨rfl, hb1⟩
  replace hb := hb.trans (hb1.mono hb.size)
  clear hb1
  clear HB2 c0 c1 c2 c3 c4 d0 d1 d2 d3 d4
  go_wp2
  go_ret
  exact ⟨rfl, hb⟩
theorem waits_any (ar ap : Option Addr) (cr cp : Nat) (rs ps : List (Int × Int)) (p0 way step : Int) (t : Int) (w : World) (hlr : rs.length ≤ 9223372036854775807) (hlp : ps.length ≤ 9223372036854775807) (hR : rs.length ≤ 1000 → Prs w ar rs) (hP : ps.length ≤ 1000 → Prs w ap ps) :
    Calls Try.prog 12 #[.agg #[.slice ar rs.length cr, .int .i64 p0, .int .i64 way, .int .i64 step, .slice ap ps.length cp], .int .i64 t] w (WorksP w) := by
  cases hf : (decide (40 < rs.length) || decide (40 < ps.length))
  · simp only [Bool.or_eq_false_iff, decide_eq_false_iff_not] at hf
    have hl : rs.length ≤ 40 ∧ ps.length ≤ 40 := by omega
    have hR' := hR (by omega)
    have hP' := hP (by omega)
    cases hv : trB rs ps p0 way step
    · have hsb := fun aa ab ca cb V h1 h2 => serviceOf_bad aa ab ca cb rs ps p0 way step t V h1 h2 hv
      have hrb := fun V h1 h2 => rServed_bad ar ap cr cp rs ps p0 way step t V h1 h2 hv
      have h20 : (20 : Int) = if trB rs ps p0 way step then (if ps.length = 0 then 3 else 0) else 20 := by rw [hv]; rfl
      exact waits_of ar ap cr cp rs ps p0 way step t w hR' hP' hl 0 0 20 0 0 20
        (fun aa ab ca cb V h1 h2 => Served_of aa ab ca cb rs ps p0 way step t V h1 h2 0 0 20 (fun W => hsb aa ab ca cb W)) hrb
        (fun aa ab ca cb V h1 h2 => Wait_of aa ab ca cb rs ps p0 way step t V h1 h2 0 0 20 (fun W => hsb aa ab ca cb W)) (fun V h1 h2 => rWait_err20 ar ap cr cp rs ps p0 way step t V h1 h2 hrb)
        (fun aa ab ca cb V h1 h2 => Longest_bad aa ab ca cb rs ps p0 way step V h1 h2 (by omega) 20 h20 (by omega) (by omega)) (fun V h1 h2 => rLongest_bad ar ap cr cp rs ps p0 way step V h1 h2 20 h20 (by omega) (by omega))
        (fun aa ab ca cb V h1 h2 => End_bad aa ab ca cb rs ps p0 way step V h1 h2 (by omega) 20 h20 (by omega) (by omega)) (fun V h1 h2 => rEnd_bad ar ap cr cp rs ps p0 way step V h1 h2 20 h20 (by omega) (by omega))
    · obtain ⟨T, hT, _⟩ := tr_of hv
      obtain ⟨x, y, e, hA, hB, hC, hD⟩ : ∃ x y e : Int,
          (∀ (aa ab : Option Addr) (ca cb : Nat) (V : World), Prs V aa rs → Prs V ab ps → Calls Try.prog 20 #[.agg #[.slice aa rs.length ca, .int .i64 p0, .int .i64 way, .int .i64 step, .slice ab ps.length cb], .int .i64 t] V fun e' w' => e' = .returned (.tuple #[.int .i64 x, .int .i64 e]) ∧ Below V.heap.size V w') ∧
          (∀ (V : World), Prs V ar rs → Prs V ap ps → Calls Try.prog 42 #[.agg #[.slice ar rs.length cr, .int .i64 p0, .int .i64 way, .int .i64 step, .slice ap ps.length cp], .int .i64 t] V fun e' w' => e' = .returned (.tuple #[.int .i64 x, .int .i64 e]) ∧ Below V.heap.size V w') ∧
          (∀ (aa ab : Option Addr) (ca cb : Nat) (V : World), Prs V aa rs → Prs V ab ps → Calls Try.prog 21 #[.agg #[.slice aa rs.length ca, .int .i64 p0, .int .i64 way, .int .i64 step, .slice ab ps.length cb], .int .i64 t] V fun e' w' => e' = .returned (.tuple #[.int .i64 y, .int .i64 e]) ∧ Below V.heap.size V w') ∧
          (∀ (V : World), Prs V ar rs → Prs V ap ps → Calls Try.prog 43 #[.agg #[.slice ar rs.length cr, .int .i64 p0, .int .i64 way, .int .i64 step, .slice ap ps.length cp], .int .i64 t] V fun e' w' => e' = .returned (.tuple #[.int .i64 y, .int .i64 e]) ∧ Below V.heap.size V w') := by
        cases ht : inR 0 t ((ps.length : Int) - 1)
        · have hsb := fun aa ab ca cb V h1 h2 => serviceOf_arg aa ab ca cb rs ps p0 way step t V h1 h2 hv ht
          have hrb := fun V h1 h2 => rServed_arg ar ap cr cp rs ps p0 way step t V h1 h2 hv ht
          exact ⟨0, 0, 1, fun aa ab ca cb V h1 h2 => Served_of aa ab ca cb rs ps p0 way step t V h1 h2 0 0 1 (fun W => hsb aa ab ca cb W), hrb,
            fun aa ab ca cb V h1 h2 => Wait_of aa ab ca cb rs ps p0 way step t V h1 h2 0 0 1 (fun W => hsb aa ab ca cb W), fun V h1 h2 => rWait_err1 ar ap cr cp rs ps p0 way step t V h1 h2 hrb⟩
        · have htI := inR_iff.1 ht
          obtain ⟨j, rfl⟩ : ∃ j : Nat, t = (j : Int) := ⟨t.toNat, by omega⟩
          have hjl : j < ps.length := by omega
          obtain ⟨p, hp⟩ : ∃ p, ps[j]? = some p := ⟨_, List.getElem?_eq_getElem hjl⟩
          obtain ⟨px, py⟩ := p
          have hsb := fun aa ab ca cb V h1 h2 => serviceOf_ok aa ab ca cb rs ps p0 way step (j : Int) V h1 h2 hv ht T hT _ rfl px py (by rw [Int.toNat_natCast]; exact hp)
          exact ⟨_, _, 0, fun aa ab ca cb V h1 h2 => Served_of aa ab ca cb rs ps p0 way step (j : Int) V h1 h2 _ _ 0 (fun W => hsb aa ab ca cb W), fun V h1 h2 => rServed_ok ar ap cr cp rs ps p0 way step j V h1 h2 hv T hT _ rfl px py hp,
            fun aa ab ca cb V h1 h2 => Wait_of aa ab ca cb rs ps p0 way step (j : Int) V h1 h2 _ _ 0 (fun W => hsb aa ab ca cb W), fun V h1 h2 => rWait_ok ar ap cr cp rs ps p0 way step j V h1 h2 hv T hT _ rfl px py hp⟩
      by_cases h0 : ps.length = 0
      · have h3 : (3 : Int) = if trB rs ps p0 way step then (if ps.length = 0 then 3 else 0) else 20 := by rw [hv, if_pos h0]; rfl
        exact waits_of ar ap cr cp rs ps p0 way step t w hR' hP' hl x y e 0 0 3 hA hB hC hD
          (fun aa ab ca cb V h1 h2 => Longest_bad aa ab ca cb rs ps p0 way step V h1 h2 (by omega) 3 h3 (by omega) (by omega)) (fun V h1 h2 => rLongest_bad ar ap cr cp rs ps p0 way step V h1 h2 3 h3 (by omega) (by omega))
          (fun aa ab ca cb V h1 h2 => End_bad aa ab ca cb rs ps p0 way step V h1 h2 (by omega) 3 h3 (by omega) (by omega)) (fun V h1 h2 => rEnd_bad ar ap cr cp rs ps p0 way step V h1 h2 3 h3 (by omega) (by omega))
      · exact waits_of ar ap cr cp rs ps p0 way step t w hR' hP' hl x y e _ _ 0 hA hB hC hD
          (fun aa ab ca cb V h1 h2 => Longest_ok aa ab ca cb rs ps p0 way step V h1 h2 hv h0 T hT _ rfl) (fun V h1 h2 => rLongest_ok ar ap cr cp rs ps p0 way step V h1 h2 hv h0 T hT _ rfl)
          (fun aa ab ca cb V h1 h2 => End_ok aa ab ca cb rs ps p0 way step V h1 h2 hv h0 T hT _ rfl) (fun V h1 h2 => rEnd_ok ar ap cr cp rs ps p0 way step V h1 h2 hv h0 (by omega) T hT _ rfl)
  · exact far_12 ar ap cr cp rs ps p0 way step t w hlr hlp hf
end Go.Proofs.Ytknaljghpfeikaa
