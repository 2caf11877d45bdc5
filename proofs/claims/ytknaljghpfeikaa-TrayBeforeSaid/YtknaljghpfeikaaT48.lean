import Derived.Test.YtknaljghpfeikaaT45
import Derived.Test.YtknaljghpfeikaaM6
namespace Go.Proofs.Ytknaljghpfeikaa
open Go.RowKit

set_option maxRecDepth 100000 in
set_option maxHeartbeats 1000000 in
theorem be_arg0 (ar ap : Option Addr) (cr cp : Nat) (rs ps : List (Int × Int)) (p0 way step : Int) (x y time : Int) (w : World) (hlr : rs.length ≤ 9223372036854775807) (hlp : ps.length ≤ 9223372036854775807) (hR : rs.length ≤ 1000 → Prs w ar rs) (hP : ps.length ≤ 1000 → Prs w ap ps) (hv : rdB rs ps p0 way step = false) :
    Calls Try.prog 6 #[.agg #[.slice ar rs.length cr, .int .i64 p0, .int .i64 way, .int .i64 step, .slice ap ps.length cp], .agg #[.int .i64 x, .int .i64 y], .int .i64 time] w (WorksP w) := by
  obtain ⟨W, hW, hb, hs, x0, x4⟩ := boxes2 w #[.slice ar rs.length cr, .int .i64 p0, .int .i64 way, .int .i64 step, .slice ap ps.length cp] 25 #[.int .i64 x, .int .i64 y] 40
  clear hs
  have hrd := ready_any ar ap cr cp rs ps p0 way step W hlr hlp (fun h => (hR h).below hb (Nat.le_refl _)) (fun h => (hP h).below hb (Nat.le_refl _))
  rw [hv] at hrd
  have c0 := x0.cell 0 rfl; have c1 := x0.cell 1 rfl; have c2 := x0.cell 2 rfl; have c3 := x0.cell 3 rfl; have c4 := x0.cell 4 rfl
  have d0 := x4.cell 0 rfl; have d1 := x4.cell 1 rfl
  clear hR hP hlr hlp hv
  go_enter Try.func6, Try.ntmps6
  go_wp2_with fail
  refine hrd.mono ?_
  rintro e W1 ⟨rfl, hb1⟩
  clear hW hrd
  (try clear c0 c1 c2 c3 c4); replace x0 := x0.below hb1; have c0 := x0.cell 0 rfl; have c1 := x0.cell 1 rfl; have c2 := x0.cell 2 rfl; have c3 := x0.cell 3 rfl; have c4 := x0.cell 4 rfl; (try clear d0 d1); replace x4 := x4.below hb1; have d0 := x4.cell 0 rfl; have d1 := x4.cell 1 rfl; replace hb := hb.trans (hb1.mono hb.size); clear hb1
  go_wp2_with fail
  refine (works_any _).mono ?_
  rintro e V3 ⟨rfl, hb1⟩
  replace hb := hb.trans (hb1.mono hb.size)
  clear hb1
  clear x0 c0 c1 c2 c3 c4 x4 d0 d1
  go_wp2
  go_ret
  exact ⟨rfl, hb⟩
set_option maxRecDepth 100000 in
set_option maxHeartbeats 2000000 in
theorem be_arg1 (ar ap : Option Addr) (cr cp : Nat) (rs ps : List (Int × Int)) (p0 way step : Int) (x y time : Int) (w : World) (hR : Prs w ar rs) (hP : Prs w ap ps) (hl : ps.length ≤ 40 ∧ rs.length ≤ 40) (hv : rdB rs ps p0 way step = true) (hbad : 12 ≤ ps.length ∨ inR 0 x (2 * (rs.length : Int) - 1) = false ∨ inR 0 y 9999 = false ∨ time < 0 ∨ y ≤ time) :
    Calls Try.prog 6 #[.agg #[.slice ar rs.length cr, .int .i64 p0, .int .i64 way, .int .i64 step, .slice ap ps.length cp], .agg #[.int .i64 x, .int .i64 y], .int .i64 time] w (WorksP w) := by
  obtain ⟨W, hW, hb, hs, x0, x4⟩ := boxes2 w #[.slice ar rs.length cr, .int .i64 p0, .int .i64 way, .int .i64 step, .slice ap ps.length cp] 25 #[.int .i64 x, .int .i64 y] 40
  clear hs
  have hrd := ready_any ar ap cr cp rs ps p0 way step W (by omega) (by omega) (fun h => hR.below hb (Nat.le_refl _)) (fun h => hP.below hb (Nat.le_refl _))
  rw [hv] at hrd
  have hlr2 : rs.length ≤ 4611686018427387903 := by omega
  have hlI : (ps.length : Int) ≤ 40 := by omega
  have c0 := x0.cell 0 rfl; have c1 := x0.cell 1 rfl; have c2 := x0.cell 2 rfl; have c3 := x0.cell 3 rfl; have c4 := x0.cell 4 rfl
  have d0 := x4.cell 0 rfl; have d1 := x4.cell 1 rfl
  clear hR hP hv hl
  by_cases h1 : 12 ≤ ps.length
  · have h1I : (12 : Int) ≤ (ps.length : Int) := by omega
    clear hbad
    go_enter Try.func6, Try.ntmps6
    go_wp2_with fail
    refine hrd.mono ?_
    rintro e W1 ⟨rfl, hb1⟩
    clear hW hrd
    (try clear c0 c1 c2 c3 c4); replace x0 := x0.below hb1; have c0 := x0.cell 0 rfl; have c1 := x0.cell 1 rfl; have c2 := x0.cell 2 rfl; have c3 := x0.cell 3 rfl; have c4 := x0.cell 4 rfl; (try clear d0 d1); replace x4 := x4.below hb1; have d0 := x4.cell 0 rfl; have d1 := x4.cell 1 rfl; replace hb := hb.trans (hb1.mono hb.size); clear hb1
    go_wp2_with fail
    refine (works_any _).mono ?_
    rintro e V3 ⟨rfl, hb1⟩
    replace hb := hb.trans (hb1.mono hb.size)
    clear hb1
    clear x0 c0 c1 c2 c3 c4 x4 d0 d1
    go_wp2
    go_ret
    exact ⟨rfl, hb⟩
  have h1I : (ps.length : Int) < 12 := by omega
  cases his : inR 0 x (2 * (rs.length : Int) - 1)
  · clear hbad
    go_enter Try.func6, Try.ntmps6
    go_wp2_with fail
    refine hrd.mono ?_
    rintro e W1 ⟨rfl, hb1⟩
    clear hW hrd
    (try clear c0 c1 c2 c3 c4); replace x0 := x0.below hb1; have c0 := x0.cell 0 rfl; have c1 := x0.cell 1 rfl; have c2 := x0.cell 2 rfl; have c3 := x0.cell 3 rfl; have c4 := x0.cell 4 rfl; (try clear d0 d1); replace x4 := x4.below hb1; have d0 := x4.cell 0 rfl; have d1 := x4.cell 1 rfl; replace hb := hb.trans (hb1.mono hb.size); clear hb1
    go_wp2_with fail
    refine (isSide_29 ar ap cr cp rs ps p0 way step x _ hlr2).mono ?_
    rintro e W2 ⟨rfl, hb1⟩
    rw [his]
    (try clear c0 c1 c2 c3 c4); replace x0 := x0.below hb1; have c0 := x0.cell 0 rfl; have c1 := x0.cell 1 rfl; have c2 := x0.cell 2 rfl; have c3 := x0.cell 3 rfl; have c4 := x0.cell 4 rfl; (try clear d0 d1); replace x4 := x4.below hb1; have d0 := x4.cell 0 rfl; have d1 := x4.cell 1 rfl; replace hb := hb.trans (hb1.mono hb.size); clear hb1
    clear his
    go_wp2_with fail
    refine (works_any _).mono ?_
    rintro e V3 ⟨rfl, hb1⟩
    replace hb := hb.trans (hb1.mono hb.size)
    clear hb1
    clear x0 c0 c1 c2 c3 c4 x4 d0 d1
    go_wp2
    go_ret
    exact ⟨rfl, hb⟩
  cases hit : inR 0 y 9999
  · clear hbad
    go_enter Try.func6, Try.ntmps6
    go_wp2_with fail
    refine hrd.mono ?_
    rintro e W1 ⟨rfl, hb1⟩
    clear hW hrd
    (try clear c0 c1 c2 c3 c4); replace x0 := x0.below hb1; have c0 := x0.cell 0 rfl; have c1 := x0.cell 1 rfl; have c2 := x0.cell 2 rfl; have c3 := x0.cell 3 rfl; have c4 := x0.cell 4 rfl; (try clear d0 d1); replace x4 := x4.below hb1; have d0 := x4.cell 0 rfl; have d1 := x4.cell 1 rfl; replace hb := hb.trans (hb1.mono hb.size); clear hb1
    go_wp2_with fail
    refine (isSide_29 ar ap cr cp rs ps p0 way step x _ hlr2).mono ?_
    rintro e W2 ⟨rfl, hb1⟩
    rw [his]
    (try clear c0 c1 c2 c3 c4); replace x0 := x0.below hb1; have c0 := x0.cell 0 rfl; have c1 := x0.cell 1 rfl; have c2 := x0.cell 2 rfl; have c3 := x0.cell 3 rfl; have c4 := x0.cell 4 rfl; (try clear d0 d1); replace x4 := x4.below hb1; have d0 := x4.cell 0 rfl; have d1 := x4.cell 1 rfl; replace hb := hb.trans (hb1.mono hb.size); clear hb1
    clear his
    go_wp2_with fail
    refine (refTime_any _ _).mono ?_
    rintro e W3 ⟨rfl, rfl⟩
    rw [hit]
    clear hit
    go_wp2_with fail
    refine (works_any _).mono ?_
    rintro e V3 ⟨rfl, hb1⟩
    replace hb := hb.trans (hb1.mono hb.size)
    clear hb1
    clear x0 c0 c1 c2 c3 c4 x4 d0 d1
    go_wp2
    go_ret
    exact ⟨rfl, hb⟩
  by_cases h2 : time < 0
  · clear hbad
    go_enter Try.func6, Try.ntmps6
    go_wp2_with fail
    refine hrd.mono ?_
    rintro e W1 ⟨rfl, hb1⟩
    clear hW hrd
    (try clear c0 c1 c2 c3 c4); replace x0 := x0.below hb1; have c0 := x0.cell 0 rfl; have c1 := x0.cell 1 rfl; have c2 := x0.cell 2 rfl; have c3 := x0.cell 3 rfl; have c4 := x0.cell 4 rfl; (try clear d0 d1); replace x4 := x4.below hb1; have d0 := x4.cell 0 rfl; have d1 := x4.cell 1 rfl; replace hb := hb.trans (hb1.mono hb.size); clear hb1
    go_wp2_with fail
    refine (isSide_29 ar ap cr cp rs ps p0 way step x _ hlr2).mono ?_
    rintro e W2 ⟨rfl, hb1⟩
    rw [his]
    (try clear c0 c1 c2 c3 c4); replace x0 := x0.below hb1; have c0 := x0.cell 0 rfl; have c1 := x0.cell 1 rfl; have c2 := x0.cell 2 rfl; have c3 := x0.cell 3 rfl; have c4 := x0.cell 4 rfl; (try clear d0 d1); replace x4 := x4.below hb1; have d0 := x4.cell 0 rfl; have d1 := x4.cell 1 rfl; replace hb := hb.trans (hb1.mono hb.size); clear hb1
    clear his
    go_wp2_with fail
    refine (refTime_any _ _).mono ?_
    rintro e W3 ⟨rfl, rfl⟩
    rw [hit]
    clear hit
    go_wp2_with fail
    refine (works_any _).mono ?_
    rintro e V3 ⟨rfl, hb1⟩
    replace hb := hb.trans (hb1.mono hb.size)
    clear hb1
    clear x0 c0 c1 c2 c3 c4 x4 d0 d1
    go_wp2
    go_ret
    exact ⟨rfl, hb⟩
  · have h3 : y ≤ time := by
      rcases hbad with h | h | h | h | h
      · exact absurd h h1
      · rw [his] at h; cases h
      · rw [hit] at h; cases h
      · exact absurd h h2
      · exact h
    have h2' : 0 ≤ time := by omega
    clear hbad h2
    go_enter Try.func6, Try.ntmps6
    go_wp2_with fail
    refine hrd.mono ?_
    rintro e W1 ⟨rfl, hb1⟩
    clear hW hrd
    (try clear c0 c1 c2 c3 c4); replace x0 := x0.below hb1; have c0 := x0.cell 0 rfl; have c1 := x0.cell 1 rfl; have c2 := x0.cell 2 rfl; have c3 := x0.cell 3 rfl; have c4 := x0.cell 4 rfl; (try clear d0 d1); replace x4 := x4.below hb1; have d0 := x4.cell 0 rfl; have d1 := x4.cell 1 rfl; replace hb := hb.trans (hb1.mono hb.size); clear hb1
    go_wp2_with fail
    refine (isSide_29 ar ap cr cp rs ps p0 way step x _ hlr2).mono ?_
    rintro e W2 ⟨rfl, hb1⟩
    rw [his]
    (try clear c0 c1 c2 c3 c4); replace x0 := x0.below hb1; have c0 := x0.cell 0 rfl; have c1 := x0.cell 1 rfl; have c2 := x0.cell 2 rfl; have c3 := x0.cell 3 rfl; have c4 := x0.cell 4 rfl; (try clear d0 d1); replace x4 := x4.below hb1; have d0 := x4.cell 0 rfl; have d1 := x4.cell 1 rfl; replace hb := hb.trans (hb1.mono hb.size); clear hb1
    clear his
    go_wp2_with fail
    refine (refTime_any _ _).mono ?_
    rintro e W3 ⟨rfl, rfl⟩
    rw [hit]
    clear hit
    go_wp2_with fail
    refine (works_any _).mono ?_
    rintro e V3 ⟨rfl, hb1⟩
    replace hb := hb.trans (hb1.mono hb.size)
    clear hb1
    clear x0 c0 c1 c2 c3 c4 x4 d0 d1
    go_wp2
    go_ret
    exact ⟨rfl, hb⟩
theorem gset2 (W : World) (g : Nat) (v0 v1 : Value) {vs : Array Value} {T : TypeId} (_ : Bx W g vs T) : W.grownBy ((W.setCell ⟨g, 0, none⟩ v0).setCell ⟨g, 1, none⟩ v1) (some g) := gtr (gset W ⟨g, 0, none⟩ v0) (gset _ ⟨g, 1, none⟩ v1)
set_option maxRecDepth 100000 in
set_option maxHeartbeats 8000000 in
theorem be_ok (ar ap : Option Addr) (cr cp : Nat) (rs ps : List (Int × Int)) (p0 way step : Int) (x y time : Int) (w : World) (hR : Prs w ar rs) (hP : Prs w ap ps) (hv : rdB rs ps p0 way step = true) (h12 : ps.length < 12) (his : inR 0 x (2 * (rs.length : Int) - 1) = true) (hit : inR 0 y 9999 = true) (ht : 0 ≤ time ∧ time < y) (T : Tr) (hT : IsTr T rs ps p0 way step) :
    Calls Try.prog 6 #[.agg #[.slice ar rs.length cr, .int .i64 p0, .int .i64 way, .int .i64 step, .slice ap ps.length cp], .agg #[.int .i64 x, .int .i64 y], .int .i64 time] w (WorksP w) := by
  obtain ⟨i0, hi0, iz0, iz1, iz2⟩ := info_parts info40
  obtain ⟨hr6, hp12, hr1⟩ := rdB_6 (rdB_len hv)
  obtain ⟨W, hW, hb, hs, x0, x4⟩ := boxes2 w #[.slice ar rs.length cr, .int .i64 p0, .int .i64 way, .int .i64 step, .slice ap ps.length cp] 25 #[.int .i64 x, .int .i64 y] 40
  clear hs
  have hrd := ready_any ar ap cr cp rs ps p0 way step W (by omega) (by omega) (fun h => hR.below hb (Nat.le_refl _)) (fun h => hP.below hb (Nat.le_refl _))
  rw [hv] at hrd
  have hlr2 : rs.length ≤ 4611686018427387903 := by omega
  have h1I : (ps.length : Int) < 12 := by omega
  have hvt := rdB_len hv
  have hxI := inR_iff.1 his
  have hyI := inR_iff.1 hit
  obtain ⟨e1, e2, e3, e4, e5, hVT⟩ := hT
  have hTt : IsTr T rs ps p0 way step := ⟨e1, e2, e3, e4, e5, hVT⟩
  have hT' : IsTr (plusT T x y) rs (ps ++ [(x, y)]) p0 way step := addP_is (x := x) (y := y) hTt hp12 (by omega) hyI
  have hv' : trB rs (ps ++ [(x, y)]) p0 way step = true := by
    have h0 := hvt
    unfold trB at h0 ⊢
    simp only [Bool.and_eq_true, Bool.or_eq_true, decide_eq_true_eq, inR_iff, List.all_append, List.all_cons, List.all_nil, Bool.and_true, List.length_append, List.length_cons, List.length_nil] at h0 ⊢
    refine ⟨⟨h0.1.1, by omega⟩, h0.2.1, ⟨h0.2.2.1, ?_⟩, h0.2.2.2⟩
    unfold preB
    simp only [Bool.and_eq_true, inR_iff]
    omega
  have hdA : decide ((12 : Int) ≤ (ps.length : Int)) = false := by simp; omega
  have hdB : decide (time < 0) = false := by simp; omega
  have hdC : decide (y ≤ time) = false := by simp; omega
  have hitm : inR 0 time 9999 = true := inR_iff.2 (by omega)
  -- what stands and what is played
  have hstd := runM_before (x := x) (y := y) hVT (b := time + 1) (by unfold maxI; omega) (by omega)
  have hSV : standV (runM (plusT T x y) (time + 1)) = standV (runM T (time + 1)) := by unfold standV; rw [hstd.1, hstd.2.1, hstd.2.2.1]
  have hS1 := fun V h1 h2 => Stand_ok ar ap cr cp rs ps p0 way step time V h1 h2 hvt hitm T hTt (runM T (time + 1)) rfl
  have hS2 := fun a1 a2 c1 c2 V h1 h2 => Stand_ok a1 a2 c1 c2 rs (ps ++ [(x, y)]) p0 way step time V h1 h2 hv' hitm (plusT T x y) hT' (runM (plusT T x y) (time + 1)) rfl
  rw [hSV] at hS2
  unfold standV at hS1 hS2
  obtain ⟨z0, hz0⟩ : ∃ z : Int, z = ((runM T (time + 1)).pos : Nat) := ⟨_, rfl⟩
  obtain ⟨z1, hz1⟩ : ∃ z : Int, z = (if (runM T (time + 1)).up then 1 else -1) := ⟨_, rfl⟩
  obtain ⟨z2, hz2⟩ : ∃ z : Int, z = (runM T (time + 1)).side := ⟨_, rfl⟩
  rw [← hz0, ← hz1, ← hz2] at hS1 hS2
  obtain ⟨P, R, R', hpl, hpl', hRy, hRy'⟩ := plays_before hVT (x := x) hT'.hv (y := y) (by omega) (by unfold maxI; omega)
  have hc1 := cn_run hVT (Int.le_refl maxI)
  have hc2 := cn_run hT'.hv (Int.le_refl maxI)
  have hP1 := fun V h1 h2 => Plays_ok ar ap cr cp rs ps p0 way step V h1 h2 hvt T hTt (runM T maxI) rfl
  have hP2 := fun a1 a2 c1 c2 V h1 h2 => Plays_ok a1 a2 c1 c2 rs (ps ++ [(x, y)]) p0 way step V h1 h2 hv' (plusT T x y) hT' (runM (plusT T x y) maxI) rfl
  unfold PlaysP at hP1 hP2
  have hk1 : (runM T maxI).plays.length ≤ 12 := by have := hc1.n; rw [e2] at this; omega
  have hk2 : (runM (plusT T x y) maxI).plays.length ≤ 13 := by
    have := hc2.n
    have e : (plusT T x y).prs.length = ps.length + 1 := by show (T.prs ++ [(x, y)]).length = _; rw [e2]; simp
    rw [e] at this
    omega
  obtain ⟨L, hL⟩ : ∃ L, L = (runM T maxI).plays := ⟨_, rfl⟩
  obtain ⟨L', hL'⟩ : ∃ L, L = (runM (plusT T x y) maxI).plays := ⟨_, rfl⟩
  rw [← hL] at hP1 hpl hk1
  rw [← hL'] at hP2 hpl' hk2
  have hlen : (ps ++ [(x, y)]).length = ps.length + 1 := by simp
  rw [hlen] at hP2 hS2
  have hPL := hid (And.intro hpl (And.intro hpl' (And.intro hRy hRy')))
  have hcp := fun V h1 h2 => copy_any ar ap cr cp rs ps p0 way step V h1 h2 (by omega) (by omega)
  unfold CopyP at hcp
  have HBR := hid hR.2.1
  have HBP := hid hP.2.1
  have c0 := x0.cell 0 rfl; have c1 := x0.cell 1 rfl; have c2 := x0.cell 2 rfl; have c3 := x0.cell 3 rfl; have c4 := x0.cell 4 rfl
  have d0 := x4.cell 0 rfl; have d1 := x4.cell 1 rfl
  clear hv hvt e1 e2 e3 e4 e5 hVT hTt hT' hv' hitm hstd hSV hz0 hz1 hz2 hpl hpl' hRy hRy' hc1 hc2 hL hL' hlen
  go_enter Try.func6, Try.ntmps6
  go_wp2_with fail
  refine hrd.mono ?_
  rintro e W1 ⟨rfl, hb1⟩
  clear hW hrd
  (try clear c0 c1 c2 c3 c4); replace x0 := x0.below hb1; have c0 := x0.cell 0 rfl; have c1 := x0.cell 1 rfl; have c2 := x0.cell 2 rfl; have c3 := x0.cell 3 rfl; have c4 := x0.cell 4 rfl; (try clear d0 d1); replace x4 := x4.below hb1; have d0 := x4.cell 0 rfl; have d1 := x4.cell 1 rfl; replace hb := hb.trans (hb1.mono hb.size); clear hb1
  go_wp2_with fail
  refine (isSide_29 ar ap cr cp rs ps p0 way step x _ hlr2).mono ?_
  rintro e W2 ⟨rfl, hb1⟩
  rw [his]
  (try clear c0 c1 c2 c3 c4); replace x0 := x0.below hb1; have c0 := x0.cell 0 rfl; have c1 := x0.cell 1 rfl; have c2 := x0.cell 2 rfl; have c3 := x0.cell 3 rfl; have c4 := x0.cell 4 rfl; (try clear d0 d1); replace x4 := x4.below hb1; have d0 := x4.cell 0 rfl; have d1 := x4.cell 1 rfl; replace hb := hb.trans (hb1.mono hb.size); clear hb1
  clear his
  go_wp2_with fail
  refine (refTime_any _ _).mono ?_
  rintro e W3 ⟨rfl, rfl⟩
  rw [hit]
  clear hit
  go_wp2_with fail
  refine (hcp _ (hR.below hb (Nat.le_refl _)) (hP.below hb (Nat.le_refl _))).mono ?_
  rintro e W6 ⟨hb1, a1, a2, c1', c2', rfl, own1, own2, hdis⟩
  clear hcp
  have hl1 := own_lt own1; have hl2 := own_lt own2
  obtain ⟨B0, hB0⟩ : ∃ B, B = W2.heap.size := ⟨_, rfl⟩
  have hxB := x0.lt; have hgB := x4.lt; have hsb := hb.size; have hs6 := hb1.size
  rw [← hB0] at own1 own2 hxB hgB hsb hs6
  replace x0 := x0.below hb1; replace x4 := x4.below hb1; replace hb := hb.trans (hb1.mono hb.size)
  obtain ⟨Wc, hWc, hbx, hsx, x12⟩ := boxes1 W6 #[.slice a1 rs.length c1', .int .i64 p0, .int .i64 way, .int .i64 step, .slice a2 ps.length c2'] 25
  replace x0 := x0.below hbx; replace x4 := x4.below hbx; replace hb := hb.trans (hbx.mono hb.size)
  replace own1 := own_below2 own1 hbx; replace own2 := own_below2 own2 hbx
  have hap := fun v5 W5 => app_step (v5 := v5) (W5 := W5) (w := w) (x := x) (y := y) x0 x4 x12 own1 own2 hdis hb hsb hxB hgB hs6 hl1 hl2 rfl rfl (by omega) (by omega) HBR.out HBP.out (by omega) (by omega)
  have HAP := hid hap
  have own2d := own_below2 own2 (below_one (w := Wc) (.cells #[.int .i64 x, .int .i64 y] 40))
  have hcl := Cls.of_bx (Bx.new Wc #[.int .i64 x, .int .i64 y] 40)
  have hBc : B0 ≤ (Wc.alloc (.cells #[.int .i64 x, .int .i64 y] 40)).heap.size := by simp [hsx]; omega
  have k12 := x12.cell 4 rfl
  have k110 := x4.cell 0 rfl; have k111 := x4.cell 1 rfl
  clear hap hdis own1 own2 hl1 hB0 hxB hgB hs6 x0 c0 c1 c2 c3 c4 x4 d0 d1 x12 hbx hsx hb1
  go_wp2_with (at_builtin; refine wpList_appAt rfl (.tmp 55) (.tmp 57) 23 rfl B0 40 i0 (.agg #[.int .i64 0, .int .i64 0]) 2 16 under23 hi0 iz0 iz1 iz2 rfl (by decide) (.slice a2 ps.length c2') ps.length (pcells ps) rfl own2d (some ⟨Wc.heap.size, 0, none⟩) 1 1 [.int .i64 x, .int .i64 y] rfl rfl hcl (by simp; exact ⟨rfl, rfl⟩) (by unfold maxLen; omega) (by omega) hBc ?_; intro v5 W5' hown5 hg5 hat; obtain ⟨a5, c5, rfl, fr5, kc5, HF⟩ := HAP.out _ _ hown5 hg5 hat; clear hown5 hg5 hat; have c0 := HF.out.1.cell 0 rfl; have c1 := HF.out.1.cell 1 rfl; have c2 := HF.out.1.cell 2 rfl; have c3 := HF.out.1.cell 3 rfl; have c4 := HF.out.1.cell 4 rfl)
  obtain ⟨x0, x4, x12, q1, q2, hb⟩ := HF.out
  clear HF HAP own2d hcl k12 k110 k111 hWc c0 c1 c2 c3 c4 fr5 kc5 hBc hi0
  generalize W5'.setCell ⟨W6.heap.size, 4, none⟩ (.slice a5 (ps.length + 1) c5) = W7 at *
  have c0 := x0.cell 0 rfl; have c1 := x0.cell 1 rfl; have c2 := x0.cell 2 rfl; have c3 := x0.cell 3 rfl; have c4 := x0.cell 4 rfl
  refine (hS1 _ (hR.below hb (Nat.le_refl _)) (hP.below hb (Nat.le_refl _))).mono ?_
  rintro e V1 ⟨rfl, hb1⟩
  obtain ⟨V2, hV2, hbx, hsx, x8⟩ := boxes1 V1 #[.int .i64 z0, .int .i64 z1, .int .i64 z2] 50
  replace hb1 := hb1.trans (hbx.mono hb1.size)
  replace q1 := q1.below hb1 (Nat.le_refl _); replace q2 := q2.below hb1 (Nat.le_refl _); replace x4 := x4.below hb1; (try clear c0 c1 c2 c3 c4); replace x0 := x0.below hb1; have c0 := x0.cell 0 rfl; have c1 := x0.cell 1 rfl; have c2 := x0.cell 2 rfl; have c3 := x0.cell 3 rfl; have c4 := x0.cell 4 rfl; (try clear d0 d1 d2 d3 d4); replace x12 := x12.below hb1; have d0 := x12.cell 0 rfl; have d1 := x12.cell 1 rfl; have d2 := x12.cell 2 rfl; have d3 := x12.cell 3 rfl; have d4 := x12.cell 4 rfl; replace hb := hb.trans (hb1.mono hb.size); clear hb1
  clear hS1 hsx hbx
  go_wp2_with fail
  refine (hS2 _ _ _ _ _ q1 q2).mono ?_
  rintro e V3 ⟨rfl, hb1⟩
  clear hV2
  obtain ⟨V4, hV4, hbx, hsx, x10⟩ := boxes1 V3 #[.int .i64 z0, .int .i64 z1, .int .i64 z2] 50
  replace hb1 := hb1.trans (hbx.mono hb1.size)
  replace q1 := q1.below hb1 (Nat.le_refl _); replace q2 := q2.below hb1 (Nat.le_refl _); replace x4 := x4.below hb1; replace x8 := x8.below hb1; (try clear c0 c1 c2 c3 c4); replace x0 := x0.below hb1; have c0 := x0.cell 0 rfl; have c1 := x0.cell 1 rfl; have c2 := x0.cell 2 rfl; have c3 := x0.cell 3 rfl; have c4 := x0.cell 4 rfl; (try clear d0 d1 d2 d3 d4); replace x12 := x12.below hb1; have d0 := x12.cell 0 rfl; have d1 := x12.cell 1 rfl; have d2 := x12.cell 2 rfl; have d3 := x12.cell 3 rfl; have d4 := x12.cell 4 rfl; replace hb := hb.trans (hb1.mono hb.size); clear hb1
  clear hS2 hsx hbx
  go_wp2_with fail
  refine (hP1 _ (hR.below hb (Nat.le_refl _)) (hP.below hb (Nat.le_refl _))).mono ?_
  rintro e V5 ⟨hb1, aa, ca, rfl, r1⟩
  clear hV4
  replace q1 := q1.below hb1 (Nat.le_refl _); replace q2 := q2.below hb1 (Nat.le_refl _); replace x4 := x4.below hb1; replace x8 := x8.below hb1; replace x10 := x10.below hb1; (try clear c0 c1 c2 c3 c4); replace x0 := x0.below hb1; have c0 := x0.cell 0 rfl; have c1 := x0.cell 1 rfl; have c2 := x0.cell 2 rfl; have c3 := x0.cell 3 rfl; have c4 := x0.cell 4 rfl; (try clear d0 d1 d2 d3 d4); replace x12 := x12.below hb1; have d0 := x12.cell 0 rfl; have d1 := x12.cell 1 rfl; have d2 := x12.cell 2 rfl; have d3 := x12.cell 3 rfl; have d4 := x12.cell 4 rfl; replace hb := hb.trans (hb1.mono hb.size); clear hb1
  clear hP1
  go_wp2_with fail
  refine (hP2 _ _ _ _ _ q1 q2).mono ?_
  rintro e V6 ⟨hb1, ab, cb, rfl, r2⟩
  replace r1 := r1.below hb1 (Nat.le_refl _); replace x4 := x4.below hb1; (try clear c0 c1 c2); replace x8 := x8.below hb1; have c0 := x8.cell 0 rfl; have c1 := x8.cell 1 rfl; have c2 := x8.cell 2 rfl; (try clear d0 d1 d2); replace x10 := x10.below hb1; have d0 := x10.cell 0 rfl; have d1 := x10.cell 1 rfl; have d2 := x10.cell 2 rfl; replace hb := hb.trans (hb1.mono hb.size); clear hb1
  clear hP2 x0 x12 q1 q2 c3 c4 d3 d4
  obtain ⟨n1, hn1⟩ : ∃ n, n = L.length := ⟨_, rfl⟩
  obtain ⟨n2, hn2⟩ : ∃ n, n = L'.length := ⟨_, rfl⟩
  rw [← hn1] at hk1 ⊢
  rw [← hn2] at hk2
  have HN1 := hid hn1; have HN2 := hid hn2
  have hk1I : (n1 : Int) ≤ 12 := by omega
  have hk2I : (n2 : Int) ≤ 13 := by omega
  have hkd1 : decide ((40 : Int) < (n1 : Int)) = false := by simp; omega
  have hkd2 : decide ((40 : Int) < (n2 : Int)) = false := by simp; omega
  rw [← hn2]
  clear hn1 hn2
  go_wp2
  clear hkd1 hkd2 hdA hdB hdC c0 c1 c2 d0 d1 d2 x8 x10
  have hx4lt := x4.lt
  go_loopw [6, 16] (fun v6 v16 wr => ∃ i : Nat, v6 = .bool false ∧ v16 = .int .i64 (i : Int) ∧ Below V6.heap.size V6 wr) (fun _ v16 _ => max n1 n2 - (intOf v16).toNat)
  case atStart => exact ⟨0, rfl, rfl, Below.refl _ _⟩
  case round =>
    obtain ⟨i, rfl, rfl, hb1⟩ := hrel
    have hbr := hb.trans (hb1.mono hb.size)
    have x4r := x4.below hb1
    have r1r := r1.below hb1 (Nat.le_refl _)
    have r2r := r2.below hb1 (Nat.le_refl _)
    by_cases hlt : i < max n1 n2
    · have hltI : (i : Int) < max (n1 : Int) (n2 : Int) := by omega
      have hi0 : (0 : Int) ≤ (i : Int) := by omega
      have hi13 : (i : Int) ≤ 13 := by omega
      go_upto_region 14 with fail
      go_cut [17, 18] (fun s17 s18 wx => ∃ g1 g2 : Nat, s17 = .pointer (some ⟨g1, 0, none⟩) ∧ s18 = .pointer (some ⟨g2, 0, none⟩) ∧ g1 ≠ g2 ∧ V6.heap.size ≤ g1 ∧ V6.heap.size ≤ g2 ∧ Bx wx g1 #[.int .i64 (-1), .int .i64 y] 39 ∧ Bx wx g2 #[.int .i64 (-1), .int .i64 y] 39 ∧ Below V6.heap.size V6 wx)
      case first =>
        have hbd := (Below.refl wr.heap.size wr).drew
        have S0 := x4r.below hbd
        replace hb1 := hb1.trans (hbd.mono hb1.size)
        clear hbd x4r r1r r2r hbr
        refine wp_region_head 9 (fun w' => Bx w' (w.heap.size + 1) #[.int .i64 x, .int .i64 y] 40) (by kernel_rfl) rfl ?_
        generalize wr.drew = Y0 at *
        refine HeadAt.take (i := 0) (.pointer (some ⟨w.heap.size + 1, 1, none⟩)) rfl (by kernel_rfl) (.inl ⟨rfl, fun _ _ => by simp [go_sem]⟩) S0 ?_
        refine HeadAt.take (i := 1) (.int .i64 y) rfl (by kernel_rfl) (.inl ⟨rfl, fun w' z => ?_⟩) S0 ?_
        · (have z0 := z.cell 1 rfl; simp [go_sem, z0])
        refine HeadAt.take (i := 2) (.agg #[.int .i64 (-1), .int .i64 y]) rfl (by kernel_rfl) (.inl ⟨rfl, fun _ _ => by simp [go_sem]⟩) S0 ?_
        refine HeadAt.take (i := 3) (.pointer (some ⟨w.heap.size + 1, 1, none⟩)) rfl (by kernel_rfl) (.inl ⟨rfl, fun _ _ => by simp [go_sem]⟩) S0 ?_
        simp only [Act.put, List.getElem_toArray, List.getElem_cons_succ, List.getElem_cons_zero, List.setIfInBounds_toArray, List.set_cons_succ, List.set_cons_zero]
        refine HeadAt.take (i := 4) (.int .i64 y) rfl (by kernel_rfl) (.inl ⟨rfl, fun w' z => ?_⟩) S0 ?_
        · (have z0 := z.cell 1 rfl; simp [go_sem, z0])
        refine HeadAt.take (i := 5) (.agg #[.int .i64 (-1), .int .i64 y]) rfl (by kernel_rfl) (.inl ⟨rfl, fun _ _ => by simp [go_sem]⟩) S0 ?_
        simp only [Act.put, List.getElem_toArray, List.getElem_cons_succ, List.getElem_cons_zero, List.setIfInBounds_toArray, List.set_cons_succ, List.set_cons_zero]
        obtain ⟨Y2, hY2, hby, hsy, z17, z18⟩ := boxes2 Y0 #[.int .i64 0, .int .i64 0] 39 #[.int .i64 0, .int .i64 0] 39
        have hbo := below_one (w := Y0) (.cells #[.int .i64 0, .int .i64 0] 39)
        have hs1 := hb1.size
        have S1 := S0.below hbo
        have S2 := S0.below hby
        have hb2 := hb1.trans (hby.mono hb1.size)
        have HY := hid (And.intro z17 (And.intro z18 (And.intro S2 (And.intro hb2 (And.intro hsy hs1)))))
        have HS1 := hid S1
        clear z17 z18 S2 hb2 hby hbo hs1 hsy S1 hb1
        refine HeadAt.two (i := 6) (j := 7) rfl rfl (by kernel_rfl) ?_ ?_
        · skip
          generalize hK : Upto _ _ = K0
          (try simp only [List.getElem_toArray, List.getElem_cons_succ, List.getElem_cons_zero])
          go_wp2_with fail
          subst hK
          refine ⟨HS1.out, ?_⟩
          refine HeadAt.one (i := 7) rfl (by kernel_rfl) ?_
          generalize hK : Upto _ _ = K0
          (try simp only [List.getElem_toArray, List.getElem_cons_succ, List.getElem_cons_zero])
          go_wp2_with fail
          subst hK
          (try rw [hY2])
          obtain ⟨z17, z18, S2, hb2, hsy, hs1⟩ := HY.out
          refine ⟨S2, ?_⟩
          obtain ⟨g7, hg7⟩ : ∃ g, g = Y0.heap.size := ⟨_, rfl⟩
          have hgs : V6.heap.size ≤ g7 := by omega
          rw [← hg7] at z17 z18
          rw [← hg7]
          clear hg7 hsy hs1 HY HS1 hY2 S0
          generalize Y2 = Q0 at *
          have f0 := z17.free 0; have f1 := z17.free 1; have k0 := z17.cell 0 rfl; have k1 := z17.cell 1 rfl
          have w17 := z17.set2 (.int .i64 (-1)) (.int .i64 y)
          have gs1 := gset2 Q0 _ (.int .i64 (-1)) (.int .i64 y) z17
          have w18 := z18.gb gs1 (fun k hk => by cases hk; omega)
          have S3 := S2.gb gs1 (fun k hk => by cases hk; omega)
          have hb3 := hb2.grown gs1 hb2.size (fun k hk => by cases hk; omega)
          have HQ := hid (And.intro S3 (And.intro w17 (And.intro w18 hb3)))
          clear w17 w18 S3 hb3 gs1 z17 z18 S2 hb2
          refine HeadAt.one (i := 8) rfl (by kernel_rfl) ?_
          generalize hK : Upto _ _ = K0
          (try simp only [List.getElem_toArray, List.getElem_cons_succ, List.getElem_cons_zero])
          go_wp2_with fail
          subst hK
          clear f0 f1 k0 k1
          obtain ⟨S3, w17, w18, hb3⟩ := HQ.out
          clear HQ
          refine ⟨S3, ?_⟩
          generalize hQ1 : (Q0.setCell _ _).setCell _ _ = Q1 at *
          have f0 := w18.free 0; have f1 := w18.free 1; have k0 := w18.cell 0 rfl; have k1 := w18.cell 1 rfl
          have v18 := w18.set2 (.int .i64 (-1)) (.int .i64 y)
          have gs1 := gset2 Q1 _ (.int .i64 (-1)) (.int .i64 y) w18
          have v17 := w17.gb gs1 (fun k hk => by cases hk; omega)
          have hb4 := hb3.grown gs1 hb3.size (fun k hk => by cases hk; omega)
          have HQ := hid (And.intro v17 (And.intro v18 hb4))
          clear v17 v18 hb4 gs1 w17 w18 S3 hb3 hQ1
          refine HeadAt.done (by kernel_rfl) ?_
          (try simp only [List.drop_succ_cons, List.drop_zero])
          go_wp2_with fail
          refine NoPanic.normal ?_
          go_wp2_with fail
          go_meet
          exact ⟨_, _, rfl, rfl, by omega, by omega, by omega, HQ.out⟩
        · skip
          generalize hK : Upto _ _ = K0
          (try simp only [List.getElem_toArray, List.getElem_cons_succ, List.getElem_cons_zero])
          go_wp2_with fail
          subst hK
          refine ⟨HS1.out, ?_⟩
          refine HeadAt.one (i := 6) rfl (by kernel_rfl) ?_
          generalize hK : Upto _ _ = K0
          (try simp only [List.getElem_toArray, List.getElem_cons_succ, List.getElem_cons_zero])
          go_wp2_with fail
          subst hK
          (try rw [hY2])
          obtain ⟨z18, z17, S2, hb2, hsy, hs1⟩ := HY.out
          refine ⟨S2, ?_⟩
          obtain ⟨g7, hg7⟩ : ∃ g, g = Y0.heap.size := ⟨_, rfl⟩
          have hgs : V6.heap.size ≤ g7 := by omega
          rw [← hg7] at z17 z18
          rw [← hg7]
          clear hg7 hsy hs1 HY HS1 hY2 S0
          generalize Y2 = Q0 at *
          have f0 := z17.free 0; have f1 := z17.free 1; have k0 := z17.cell 0 rfl; have k1 := z17.cell 1 rfl
          have w17 := z17.set2 (.int .i64 (-1)) (.int .i64 y)
          have gs1 := gset2 Q0 _ (.int .i64 (-1)) (.int .i64 y) z17
          have w18 := z18.gb gs1 (fun k hk => by cases hk; omega)
          have S3 := S2.gb gs1 (fun k hk => by cases hk; omega)
          have hb3 := hb2.grown gs1 hb2.size (fun k hk => by cases hk; omega)
          have HQ := hid (And.intro S3 (And.intro w17 (And.intro w18 hb3)))
          clear w17 w18 S3 hb3 gs1 z17 z18 S2 hb2
          refine HeadAt.one (i := 8) rfl (by kernel_rfl) ?_
          generalize hK : Upto _ _ = K0
          (try simp only [List.getElem_toArray, List.getElem_cons_succ, List.getElem_cons_zero])
          go_wp2_with fail
          subst hK
          clear f0 f1 k0 k1
          obtain ⟨S3, w17, w18, hb3⟩ := HQ.out
          clear HQ
          refine ⟨S3, ?_⟩
          generalize hQ1 : (Q0.setCell _ _).setCell _ _ = Q1 at *
          have f0 := w18.free 0; have f1 := w18.free 1; have k0 := w18.cell 0 rfl; have k1 := w18.cell 1 rfl
          have v18 := w18.set2 (.int .i64 (-1)) (.int .i64 y)
          have gs1 := gset2 Q1 _ (.int .i64 (-1)) (.int .i64 y) w18
          have v17 := w17.gb gs1 (fun k hk => by cases hk; omega)
          have hb4 := hb3.grown gs1 hb3.size (fun k hk => by cases hk; omega)
          have HQ := hid (And.intro v17 (And.intro v18 hb4))
          clear v17 v18 hb4 gs1 w17 w18 S3 hb3 hQ1
          refine HeadAt.done (by kernel_rfl) ?_
          (try simp only [List.drop_succ_cons, List.drop_zero])
          go_wp2_with fail
          refine NoPanic.normal ?_
          go_wp2_with fail
          go_meet
          exact ⟨_, _, rfl, rfl, by omega, by omega, by omega, HQ.out⟩
      case rest =>
        clear hb1 hbr x4r r1r r2r hb
        obtain ⟨g1, g2, rfl, rfl, hne, hg1, hg2, y17, y18, hb1⟩ := hcut
        have hne' : g2 ≠ g1 := fun e => hne e.symm
        obtain ⟨hpl, hpl', hRy, hRy'⟩ := hPL.out
        by_cases hin1 : i < n1
        · by_cases hin2 : i < n2
          · obtain ⟨b1, o1, u1, t1, rfl, hbl1, e10, e11, _, _, ex1, _⟩ := (r1.below hb1 (Nat.le_refl _)).at (show i < L.length by rw [← HN1.out]; exact hin1)
            have hin1I : (i : Int) < (n1 : Int) := by omega
            have f0 := y17.free 0; have f1 := y17.free 1; have k0 := y17.cell 0 rfl; have k1 := y17.cell 1 rfl
            have w17 := y17.set2 (.int .i64 u1) (.int .i64 t1)
            have gs1 := gset2 _ _ (.int .i64 u1) (.int .i64 t1) y17
            have w18 := y18.gb gs1 (fun k hk => by cases hk; exact fun e => hne e.symm)
            have hb2 := hb1.grown gs1 hb1.size (fun k hk => by cases hk; omega)
            obtain ⟨b2, o2, u2, t2, rfl, hbl2, e20, e21, _, _, ex2, _⟩ := (r2.below hb2 (Nat.le_refl _)).at (show i < L'.length by rw [← HN2.out]; exact hin2)
            have hin2I : (i : Int) < (n2 : Int) := by omega
            have f2 := w18.free 0; have f3 := w18.free 1; have k2 := w18.cell 0 rfl; have k3 := w18.cell 1 rfl
            have v18 := w18.set2 (.int .i64 u2) (.int .i64 t2)
            have gs2 := gset2 _ _ (.int .i64 u2) (.int .i64 t2) w18
            have v17 := w17.gb gs2 (fun k hk => by cases hk; exact hne)
            have hb3 := hb2.grown gs2 hb2.size (fun k hk => by cases hk; omega)
            have x4c := (x4.below hb3).cell 1 rfl
            have m0 := v17.cell 0 rfl; have m1 := v17.cell 1 rfl; have m2 := v18.cell 0 rfl; have m3 := v18.cell 1 rfl
            by_cases hP : i < P.length
            · have hab : u2 = u1 ∧ t2 = t1 := by
                have h1 := ex1.out; have h2 := ex2.out
                rw [hpl, List.getElem?_append_left hP] at h1
                rw [hpl', List.getElem?_append_left hP] at h2
                rw [h1] at h2
                simp only [Option.some.injEq, Prod.mk.injEq] at h2
                exact ⟨h2.1.symm, h2.2.symm⟩
              obtain ⟨rfl, rfl⟩ := hab
              clear hpl hpl' hRy hRy' ex1 ex2 gs1 gs2 w17 w18 v17 v18 y17 y18 hb1 hb2
              by_cases hty : t2 < y
              · go_wp2
                go_roundw
                case rel => exact ⟨i + 1, rfl, by go_num, hb3⟩
                case measure => simp [intOf]; omega
              · have hty' : y ≤ t2 := by omega
                go_wp2
                go_roundw
                case rel => exact ⟨i + 1, rfl, by go_num, hb3⟩
                case measure => simp [intOf]; omega
            · have h1 := ex1.out; have h2 := ex2.out
              rw [hpl, List.getElem?_append_right (by omega)] at h1
              rw [hpl', List.getElem?_append_right (by omega)] at h2
              have hty1 := hRy _ (List.mem_of_getElem? h1)
              have hty2 := hRy' _ (List.mem_of_getElem? h2)
              dsimp only at hty1 hty2
              clear hpl hpl' hRy hRy' ex1 ex2 gs1 gs2 w17 w18 v17 v18 y17 y18 hb1 hb2 h1 h2
              go_wp2
              go_roundw
              case rel => exact ⟨i + 1, rfl, by go_num, hb3⟩
              case measure => simp [intOf]; omega
          · have hin2I : (n2 : Int) ≤ (i : Int) := by omega
            obtain ⟨b1, o1, u1, t1, rfl, hbl1, e10, e11, _, _, ex1, _⟩ := (r1.below hb1 (Nat.le_refl _)).at (show i < L.length by rw [← HN1.out]; exact hin1)
            have hin1I : (i : Int) < (n1 : Int) := by omega
            have f0 := y17.free 0; have f1 := y17.free 1; have k0 := y17.cell 0 rfl; have k1 := y17.cell 1 rfl
            have w17 := y17.set2 (.int .i64 u1) (.int .i64 t1)
            have gs1 := gset2 _ _ (.int .i64 u1) (.int .i64 t1) y17
            have w18 := y18.gb gs1 (fun k hk => by cases hk; exact fun e => hne e.symm)
            have hb2 := hb1.grown gs1 hb1.size (fun k hk => by cases hk; omega)
            have v17 := w17
            have v18 := w18
            have hb3 := hb2
            have x4c := (x4.below hb3).cell 1 rfl
            have m0 := v17.cell 0 rfl; have m1 := v17.cell 1 rfl; have m2 := v18.cell 0 rfl; have m3 := v18.cell 1 rfl
            have h1 := ex1.out
            have hPl : P.length ≤ n2 := by rw [HN2.out, hpl']; simp
            rw [hpl, List.getElem?_append_right (by omega)] at h1
            have hty1 := hRy _ (List.mem_of_getElem? h1)
            dsimp only at hty1
            clear hpl hpl' hRy hRy' ex1 gs1 w17 w18 v17 v18 y17 y18 hb1 hb2 h1
            go_wp2
            go_roundw
            case rel => exact ⟨i + 1, rfl, by go_num, hb3⟩
            case measure => simp [intOf]; omega
        · have hin1I : (n1 : Int) ≤ (i : Int) := by omega
          have hin2 : i < n2 := by omega
          have w17 := y17
          have w18 := y18
          have hb2 := hb1
          obtain ⟨b2, o2, u2, t2, rfl, hbl2, e20, e21, _, _, ex2, _⟩ := (r2.below hb2 (Nat.le_refl _)).at (show i < L'.length by rw [← HN2.out]; exact hin2)
          have hin2I : (i : Int) < (n2 : Int) := by omega
          have f2 := w18.free 0; have f3 := w18.free 1; have k2 := w18.cell 0 rfl; have k3 := w18.cell 1 rfl
          have v18 := w18.set2 (.int .i64 u2) (.int .i64 t2)
          have gs2 := gset2 _ _ (.int .i64 u2) (.int .i64 t2) w18
          have v17 := w17.gb gs2 (fun k hk => by cases hk; exact hne)
          have hb3 := hb2.grown gs2 hb2.size (fun k hk => by cases hk; omega)
          have x4c := (x4.below hb3).cell 1 rfl
          have m0 := v17.cell 0 rfl; have m1 := v17.cell 1 rfl; have m2 := v18.cell 0 rfl; have m3 := v18.cell 1 rfl
          have h2 := ex2.out
          have hPl : P.length ≤ n1 := by rw [HN1.out, hpl]; simp
          rw [hpl', List.getElem?_append_right (by omega)] at h2
          have hty2 := hRy' _ (List.mem_of_getElem? h2)
          dsimp only at hty2
          clear hpl hpl' hRy hRy' ex2 gs2 w17 w18 v17 v18 y17 y18 hb1 hb2 h2
          go_wp2
          go_roundw
          case rel => exact ⟨i + 1, rfl, by go_num, hb3⟩
          case measure => simp [intOf]; omega
    · have hltI : max (n1 : Int) (n2 : Int) ≤ (i : Int) := by omega
      go_wp2_with fail
      replace hb := hbr
      refine (works_any _).mono ?_
      rintro e V3 ⟨rfl, hb1⟩
      replace hb := hb.trans (hb1.mono hb.size)
      clear hb1
      go_wp2
      go_ret
      exact ⟨rfl, hb⟩
theorem before_any (ar ap : Option Addr) (cr cp : Nat) (rs ps : List (Int × Int)) (p0 way step : Int) (x y time : Int) (w : World) (hlr : rs.length ≤ 9223372036854775807) (hlp : ps.length ≤ 9223372036854775807) (hR : rs.length ≤ 1000 → Prs w ar rs) (hP : ps.length ≤ 1000 → Prs w ap ps) :
    Calls Try.prog 6 #[.agg #[.slice ar rs.length cr, .int .i64 p0, .int .i64 way, .int .i64 step, .slice ap ps.length cp], .agg #[.int .i64 x, .int .i64 y], .int .i64 time] w (WorksP w) := by
  cases hv : rdB rs ps p0 way step
  · exact be_arg0 ar ap cr cp rs ps p0 way step x y time w hlr hlp hR hP hv
  · have hl := rdB_6 (rdB_len hv)
    have hR' := hR (by omega)
    have hP' := hP (by omega)
    by_cases hbad : 12 ≤ ps.length ∨ inR 0 x (2 * (rs.length : Int) - 1) = false ∨ inR 0 y 9999 = false ∨ time < 0 ∨ y ≤ time
    · exact be_arg1 ar ap cr cp rs ps p0 way step x y time w hR' hP' (by omega) hv hbad
    · have his : inR 0 x (2 * (rs.length : Int) - 1) = true := by
        cases h : inR 0 x (2 * (rs.length : Int) - 1)
        · exact absurd (.inr (.inl h)) hbad
        · rfl
      have hit : inR 0 y 9999 = true := by
        cases h : inR 0 y 9999
        · exact absurd (.inr (.inr (.inl h))) hbad
        · rfl
      obtain ⟨T, hT, _⟩ := tr_of (rdB_len hv)
      exact be_ok ar ap cr cp rs ps p0 way step x y time w hR' hP' hv (by omega) his hit (by omega) T hT
end Go.Proofs.Ytknaljghpfeikaa
