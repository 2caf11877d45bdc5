import Derived.Test.YtknaljghpfeikaaT45
namespace Go.Proofs.Ytknaljghpfeikaa
open Go.RowKit

set_option maxRecDepth 100000 in
set_option maxHeartbeats 1000000 in
theorem tw_arg0 (ar ap : Option Addr) (cr cp : Nat) (rs ps : List (Int × Int)) (p0 way step : Int) (pr be : Int) (w : World) (hlr : rs.length ≤ 9223372036854775807) (hlp : ps.length ≤ 9223372036854775807) (hR : rs.length ≤ 1000 → Prs w ar rs) (hP : ps.length ≤ 1000 → Prs w ap ps) (hv : rdB rs ps p0 way step = false) :
    Calls Try.prog 5 #[.agg #[.slice ar rs.length cr, .int .i64 p0, .int .i64 way, .int .i64 step, .slice ap ps.length cp], .int .i64 pr, .int .i64 be] w (WorksP w) := by
  obtain ⟨W, hW, hb, hs, x0⟩ := boxes1 w #[.slice ar rs.length cr, .int .i64 p0, .int .i64 way, .int .i64 step, .slice ap ps.length cp] 25
  clear hs
  have hrd := ready_any ar ap cr cp rs ps p0 way step W hlr hlp (fun h => (hR h).below hb (Nat.le_refl _)) (fun h => (hP h).below hb (Nat.le_refl _))
  rw [hv] at hrd
  have c0 := x0.cell 0 rfl; have c1 := x0.cell 1 rfl; have c2 := x0.cell 2 rfl; have c3 := x0.cell 3 rfl; have c4 := x0.cell 4 rfl
  clear hR hP hlr hlp hv
  go_enter Try.func5, Try.ntmps5
  go_wp2_with fail
  refine hrd.mono ?_
  rintro e W1 ⟨rfl, hb1⟩
  clear hW hrd
  (try clear c0 c1 c2 c3 c4); replace x0 := x0.below hb1; have c0 := x0.cell 0 rfl; have c1 := x0.cell 1 rfl; have c2 := x0.cell 2 rfl; have c3 := x0.cell 3 rfl; have c4 := x0.cell 4 rfl; replace hb := hb.trans (hb1.mono hb.size); clear hb1
  go_wp2_with fail
  refine (works_any _).mono ?_
  rintro e V3 ⟨rfl, hb1⟩
  replace hb := hb.trans (hb1.mono hb.size)
  clear hb1
  clear x0 c0 c1 c2 c3 c4
  go_wp2
  go_ret
  exact ⟨rfl, hb⟩
set_option maxRecDepth 100000 in
set_option maxHeartbeats 1000000 in
theorem tw_arg1 (ar ap : Option Addr) (cr cp : Nat) (rs ps : List (Int × Int)) (p0 way step : Int) (pr be : Int) (w : World) (hR : Prs w ar rs) (hP : Prs w ap ps) (hl : ps.length ≤ 40 ∧ rs.length ≤ 40) (hv : rdB rs ps p0 way step = true) (hbad : 12 ≤ ps.length ∨ inR 0 pr ((ps.length : Int) - 1) = false ∨ be < 0 ∨ 9999 < be) :
    Calls Try.prog 5 #[.agg #[.slice ar rs.length cr, .int .i64 p0, .int .i64 way, .int .i64 step, .slice ap ps.length cp], .int .i64 pr, .int .i64 be] w (WorksP w) := by
  obtain ⟨W, hW, hb, hs, x0⟩ := boxes1 w #[.slice ar rs.length cr, .int .i64 p0, .int .i64 way, .int .i64 step, .slice ap ps.length cp] 25
  clear hs
  have hrd := ready_any ar ap cr cp rs ps p0 way step W (by omega) (by omega) (fun h => hR.below hb (Nat.le_refl _)) (fun h => hP.below hb (Nat.le_refl _))
  rw [hv] at hrd
  have hl2 : ps.length ≤ 4611686018427387903 := by omega
  have hlI : (ps.length : Int) ≤ 40 := by omega
  have c0 := x0.cell 0 rfl; have c1 := x0.cell 1 rfl; have c2 := x0.cell 2 rfl; have c3 := x0.cell 3 rfl; have c4 := x0.cell 4 rfl
  clear hR hP hv hl
  by_cases h1 : 12 ≤ ps.length
  · have h1I : (12 : Int) ≤ (ps.length : Int) := by omega
    clear hbad
    go_enter Try.func5, Try.ntmps5
    go_wp2_with fail
    refine hrd.mono ?_
    rintro e W1 ⟨rfl, hb1⟩
    clear hW hrd
    (try clear c0 c1 c2 c3 c4); replace x0 := x0.below hb1; have c0 := x0.cell 0 rfl; have c1 := x0.cell 1 rfl; have c2 := x0.cell 2 rfl; have c3 := x0.cell 3 rfl; have c4 := x0.cell 4 rfl; replace hb := hb.trans (hb1.mono hb.size); clear hb1
    go_wp2_with fail
    refine (works_any _).mono ?_
    rintro e V3 ⟨rfl, hb1⟩
    replace hb := hb.trans (hb1.mono hb.size)
    clear hb1
    clear x0 c0 c1 c2 c3 c4
    go_wp2
    go_ret
    exact ⟨rfl, hb⟩
  have h1I : (ps.length : Int) < 12 := by omega
  cases hip : inR 0 pr ((ps.length : Int) - 1)
  · clear hbad
    go_enter Try.func5, Try.ntmps5
    go_wp2_with fail
    refine hrd.mono ?_
    rintro e W1 ⟨rfl, hb1⟩
    clear hW hrd
    (try clear c0 c1 c2 c3 c4); replace x0 := x0.below hb1; have c0 := x0.cell 0 rfl; have c1 := x0.cell 1 rfl; have c2 := x0.cell 2 rfl; have c3 := x0.cell 3 rfl; have c4 := x0.cell 4 rfl; replace hb := hb.trans (hb1.mono hb.size); clear hb1
    go_wp2_with fail
    refine (isPress_any ar ap cr cp rs ps p0 way step pr _ hl2).mono ?_
    rintro e W2 ⟨rfl, hb1⟩
    rw [hip]
    (try clear c0 c1 c2 c3 c4); replace x0 := x0.below hb1; have c0 := x0.cell 0 rfl; have c1 := x0.cell 1 rfl; have c2 := x0.cell 2 rfl; have c3 := x0.cell 3 rfl; have c4 := x0.cell 4 rfl; replace hb := hb.trans (hb1.mono hb.size); clear hb1
    go_wp2_with fail
    refine (works_any _).mono ?_
    rintro e V3 ⟨rfl, hb1⟩
    replace hb := hb.trans (hb1.mono hb.size)
    clear hb1
    clear x0 c0 c1 c2 c3 c4
    go_wp2
    go_ret
    exact ⟨rfl, hb⟩
  by_cases h2 : be < 0
  · clear hbad
    go_enter Try.func5, Try.ntmps5
    go_wp2_with fail
    refine hrd.mono ?_
    rintro e W1 ⟨rfl, hb1⟩
    clear hW hrd
    (try clear c0 c1 c2 c3 c4); replace x0 := x0.below hb1; have c0 := x0.cell 0 rfl; have c1 := x0.cell 1 rfl; have c2 := x0.cell 2 rfl; have c3 := x0.cell 3 rfl; have c4 := x0.cell 4 rfl; replace hb := hb.trans (hb1.mono hb.size); clear hb1
    go_wp2_with fail
    refine (isPress_any ar ap cr cp rs ps p0 way step pr _ hl2).mono ?_
    rintro e W2 ⟨rfl, hb1⟩
    rw [hip]
    (try clear c0 c1 c2 c3 c4); replace x0 := x0.below hb1; have c0 := x0.cell 0 rfl; have c1 := x0.cell 1 rfl; have c2 := x0.cell 2 rfl; have c3 := x0.cell 3 rfl; have c4 := x0.cell 4 rfl; replace hb := hb.trans (hb1.mono hb.size); clear hb1
    clear hip
    go_wp2_with fail
    refine (works_any _).mono ?_
    rintro e V3 ⟨rfl, hb1⟩
    replace hb := hb.trans (hb1.mono hb.size)
    clear hb1
    clear x0 c0 c1 c2 c3 c4
    go_wp2
    go_ret
    exact ⟨rfl, hb⟩
  · have h3 : 9999 < be := by
      rcases hbad with h | h | h | h
      · exact absurd h h1
      · rw [hip] at h; cases h
      · exact absurd h h2
      · exact h
    have h2' : 0 ≤ be := by omega
    clear hbad h2
    go_enter Try.func5, Try.ntmps5
    go_wp2_with fail
    refine hrd.mono ?_
    rintro e W1 ⟨rfl, hb1⟩
    clear hW hrd
    (try clear c0 c1 c2 c3 c4); replace x0 := x0.below hb1; have c0 := x0.cell 0 rfl; have c1 := x0.cell 1 rfl; have c2 := x0.cell 2 rfl; have c3 := x0.cell 3 rfl; have c4 := x0.cell 4 rfl; replace hb := hb.trans (hb1.mono hb.size); clear hb1
    go_wp2_with fail
    refine (isPress_any ar ap cr cp rs ps p0 way step pr _ hl2).mono ?_
    rintro e W2 ⟨rfl, hb1⟩
    rw [hip]
    (try clear c0 c1 c2 c3 c4); replace x0 := x0.below hb1; have c0 := x0.cell 0 rfl; have c1 := x0.cell 1 rfl; have c2 := x0.cell 2 rfl; have c3 := x0.cell 3 rfl; have c4 := x0.cell 4 rfl; replace hb := hb.trans (hb1.mono hb.size); clear hb1
    clear hip
    go_wp2_with fail
    refine (works_any _).mono ?_
    rintro e V3 ⟨rfl, hb1⟩
    replace hb := hb.trans (hb1.mono hb.size)
    clear hb1
    clear x0 c0 c1 c2 c3 c4
    go_wp2
    go_ret
    exact ⟨rfl, hb⟩
set_option maxRecDepth 100000 in
set_option maxHeartbeats 4000000 in
theorem tw_ok1 (ar ap : Option Addr) (cr cp : Nat) (rs ps : List (Int × Int)) (p0 way step : Int) (s : Nat) (be : Int) (w : World) (hR : Prs w ar rs) (hP : Prs w ap ps) (hv : rdB rs ps p0 way step = true) (h12 : ps.length < 12) (hbe : 0 ≤ be ∧ be ≤ 9999) (T : Tr) (hT : IsTr T rs ps p0 way step) (x t : Int) (hxt : ps[s]? = some (x, t)) (hbad : inR 0 (t + be) 9999 = false) :
    Calls Try.prog 5 #[.agg #[.slice ar rs.length cr, .int .i64 p0, .int .i64 way, .int .i64 step, .slice ap ps.length cp], .int .i64 (s : Int), .int .i64 be] w (WorksP w) := by
  obtain ⟨hr6, hp12, hr1⟩ := rdB_6 (rdB_len hv)
  obtain ⟨W, hW, hb, hs, x0⟩ := boxes1 w #[.slice ar rs.length cr, .int .i64 p0, .int .i64 way, .int .i64 step, .slice ap ps.length cp] 25
  clear hs
  have hrd := ready_any ar ap cr cp rs ps p0 way step W (by omega) (by omega) (fun h => hR.below hb (Nat.le_refl _)) (fun h => hP.below hb (Nat.le_refl _))
  rw [hv] at hrd
  have hl2 : ps.length ≤ 4611686018427387903 := by omega
  have hlI : (ps.length : Int) < 12 := by omega
  have hl0 : (0 : Int) ≤ (ps.length : Int) := by omega
  have hvt := rdB_len hv
  have hsl : s < ps.length := by
    rcases Nat.lt_or_ge s ps.length with h | h
    · exact h
    · rw [List.getElem?_eq_none h] at hxt; cases hxt
  have hip : inR 0 (s : Int) ((ps.length : Int) - 1) = true := inR_iff.2 (by omega)
  have hmem : (x, t) ∈ T.prs := by rw [hT.T2]; exact List.mem_of_getElem? hxt
  have hpr := hT.hv.pr (x, t) hmem
  have hn6 := hT.hv.n6
  have hpb := (rng_run hT.hv (Int.le_refl maxI)).pb
  obtain ⟨A, q, B, hpl, hqx, hqt, hfp, hAn, hse, hge⟩ := serve_of hT.hv hmem
  have hso := fun V h1 h2 => serviceOf_ok ar ap cr cp rs ps p0 way step (s : Int) V h1 h2 hvt hip T hT (runM T maxI) rfl x t (by rw [Int.toNat_natCast]; exact hxt)
  rw [hse, Int.toNat_natCast, hge] at hso
  have hqb := hpb q (by rw [hpl]; simp)
  obtain ⟨wv, hwv⟩ : ∃ wv, wv = q.2 - t := ⟨_, rfl⟩
  rw [← hwv] at hso
  have hw0 : 0 ≤ wv := by omega
  have hwB : wv ≤ 100000000 := by omega
  have ht0 : 0 ≤ t ∧ t ≤ 9999 := hpr.2.2
  have hx0 : 0 ≤ x ∧ x < 12 := by have h1 := hpr.1; have h2 := hpr.2.1; dsimp only at h1 h2; omega
  have hcW := fun V h1 h2 => Wait_of ar ap cr cp rs ps p0 way step (s : Int) V h1 h2 _ _ _ hso
  have hcS := fun V h1 h2 => Served_of ar ap cr cp rs ps p0 way step (s : Int) V h1 h2 _ _ _ hso
  obtain ⟨j, hj⟩ : ∃ j, j = A.length := ⟨_, rfl⟩
  rw [← hj] at hcS
  have HM := hid (And.intro hmem (And.intro hfp (And.intro hAn (And.intro hpl (And.intro hqx (And.intro hwv hj))))))
  have hsI : (s : Int) < (ps.length : Int) := by omega
  have hs0 : (0 : Int) ≤ (s : Int) := by omega
  have HV := hid hvt
  have HXT := hid hxt
  have c0 := x0.cell 0 rfl; have c1 := x0.cell 1 rfl; have c2 := x0.cell 2 rfl; have c3 := x0.cell 3 rfl; have c4 := x0.cell 4 rfl
  clear hso hmem hpr hpb hpl hqx hqt hfp hAn hse hge hqb hj hv hvt hxt hwv
  go_enter Try.func5, Try.ntmps5
  go_wp2_with fail
  refine hrd.mono ?_
  rintro e W1 ⟨rfl, hb1⟩
  clear hW hrd
  (try clear c0 c1 c2 c3 c4); replace x0 := x0.below hb1; have c0 := x0.cell 0 rfl; have c1 := x0.cell 1 rfl; have c2 := x0.cell 2 rfl; have c3 := x0.cell 3 rfl; have c4 := x0.cell 4 rfl; replace hb := hb.trans (hb1.mono hb.size); clear hb1
  go_wp2_with fail
  refine (isPress_any ar ap cr cp rs ps p0 way step (s : Int) _ hl2).mono ?_
  rintro e W2 ⟨rfl, hb1⟩
  rw [hip]
  (try clear c0 c1 c2 c3 c4); replace x0 := x0.below hb1; have c0 := x0.cell 0 rfl; have c1 := x0.cell 1 rfl; have c2 := x0.cell 2 rfl; have c3 := x0.cell 3 rfl; have c4 := x0.cell 4 rfl; replace hb := hb.trans (hb1.mono hb.size); clear hb1
  clear hip
  go_wp2_with fail
  refine (hcW _ (hR.below hb (Nat.le_refl _)) (hP.below hb (Nat.le_refl _))).mono ?_
  rintro e W3 ⟨rfl, hb1⟩
  (try clear c0 c1 c2 c3 c4); replace x0 := x0.below hb1; have c0 := x0.cell 0 rfl; have c1 := x0.cell 1 rfl; have c2 := x0.cell 2 rfl; have c3 := x0.cell 3 rfl; have c4 := x0.cell 4 rfl; replace hb := hb.trans (hb1.mono hb.size); clear hb1
  clear hcW
  go_wp2_with fail
  refine (hcS _ (hR.below hb (Nat.le_refl _)) (hP.below hb (Nat.le_refl _))).mono ?_
  rintro e W4 ⟨rfl, hb1⟩
  (try clear c0 c1 c2 c3 c4); replace x0 := x0.below hb1; have c0 := x0.cell 0 rfl; have c1 := x0.cell 1 rfl; have c2 := x0.cell 2 rfl; have c3 := x0.cell 3 rfl; have c4 := x0.cell 4 rfl; replace hb := hb.trans (hb1.mono hb.size); clear hb1
  clear hcS
  obtain ⟨bp, op, u', t', rfl, _, hp1, hp2, _, _, hps, _⟩ := hP.at hsl
  have hut : u' = x ∧ t' = t := by
    have h := hps.out
    rw [HXT.out] at h
    simp only [Option.some.injEq, Prod.mk.injEq] at h
    exact ⟨h.1.symm, h.2.symm⟩
  obtain ⟨rfl, rfl⟩ := hut
  have hpw1 := Below.keep hb hp1
  have hpw2 := Below.keep hb hp2
  clear hps
  have hb4 := below_one (w := W4) (.cells #[.int .i64 u', .int .i64 (t' + be)] 40)
  by_cases hbw : wv < be
  · go_wp2_with fail
    replace hb := hb.trans (hb4.mono hb.size)
    refine (works_any _).mono ?_
    rintro e V3 ⟨rfl, hb1⟩
    replace hb := hb.trans (hb1.mono hb.size)
    clear hb1
    clear x0 c0 c1 c2 c3 c4 hpw1 hpw2 hb4
    go_wp2
    go_ret
    exact ⟨rfl, hb⟩
  · have hbw' : be ≤ wv := by omega
    go_wp2_with fail
    refine (refTime_any _ _).mono ?_
    rintro e W5 ⟨rfl, rfl⟩
    rw [hbad]
    replace hb := hb.trans (hb4.mono hb.size)
    go_wp2_with fail
    refine (works_any _).mono ?_
    rintro e V3 ⟨rfl, hb1⟩
    replace hb := hb.trans (hb1.mono hb.size)
    clear hb1
    clear x0 c0 c1 c2 c3 c4 hpw1 hpw2 hb4
    go_wp2
    go_ret
    exact ⟨rfl, hb⟩
set_option maxRecDepth 100000 in
set_option maxHeartbeats 6000000 in
theorem tw_ok2 (ar ap : Option Addr) (cr cp : Nat) (rs ps : List (Int × Int)) (p0 way step : Int) (s : Nat) (be : Int) (w : World) (hR : Prs w ar rs) (hP : Prs w ap ps) (hv : rdB rs ps p0 way step = true) (h12 : ps.length < 12) (hbe : 0 ≤ be ∧ be ≤ 9999) (T : Tr) (hT : IsTr T rs ps p0 way step) (x t : Int) (hxt : ps[s]? = some (x, t)) (hgood : inR 0 (t + be) 9999 = true) :
    Calls Try.prog 5 #[.agg #[.slice ar rs.length cr, .int .i64 p0, .int .i64 way, .int .i64 step, .slice ap ps.length cp], .int .i64 (s : Int), .int .i64 be] w (WorksP w) := by
  obtain ⟨i0, hi0, iz0, iz1, iz2⟩ := info_parts info40
  obtain ⟨hr6, hp12, hr1⟩ := rdB_6 (rdB_len hv)
  obtain ⟨W, hW, hb, hs, x0⟩ := boxes1 w #[.slice ar rs.length cr, .int .i64 p0, .int .i64 way, .int .i64 step, .slice ap ps.length cp] 25
  clear hs
  have hrd := ready_any ar ap cr cp rs ps p0 way step W (by omega) (by omega) (fun h => hR.below hb (Nat.le_refl _)) (fun h => hP.below hb (Nat.le_refl _))
  rw [hv] at hrd
  have hl2 : ps.length ≤ 4611686018427387903 := by omega
  have hlI : (ps.length : Int) < 12 := by omega
  have hl0 : (0 : Int) ≤ (ps.length : Int) := by omega
  have hvt := rdB_len hv
  have hsl : s < ps.length := by
    rcases Nat.lt_or_ge s ps.length with h | h
    · exact h
    · rw [List.getElem?_eq_none h] at hxt; cases hxt
  have hip : inR 0 (s : Int) ((ps.length : Int) - 1) = true := inR_iff.2 (by omega)
  have hmem : (x, t) ∈ T.prs := by rw [hT.T2]; exact List.mem_of_getElem? hxt
  have hpr := hT.hv.pr (x, t) hmem
  have hn6 := hT.hv.n6
  have hpb := (rng_run hT.hv (Int.le_refl maxI)).pb
  obtain ⟨A, q, B, hpl, hqx, hqt, hfp, hAn, hse, hge⟩ := serve_of hT.hv hmem
  have hso := fun V h1 h2 => serviceOf_ok ar ap cr cp rs ps p0 way step (s : Int) V h1 h2 hvt hip T hT (runM T maxI) rfl x t (by rw [Int.toNat_natCast]; exact hxt)
  rw [hse, Int.toNat_natCast, hge] at hso
  have hqb := hpb q (by rw [hpl]; simp)
  obtain ⟨wv, hwv⟩ : ∃ wv, wv = q.2 - t := ⟨_, rfl⟩
  rw [← hwv] at hso
  have hw0 : 0 ≤ wv := by omega
  have hwB : wv ≤ 100000000 := by omega
  have ht0 : 0 ≤ t ∧ t ≤ 9999 := hpr.2.2
  have hx0 : 0 ≤ x ∧ x < 12 := by have h1 := hpr.1; have h2 := hpr.2.1; dsimp only at h1 h2; omega
  have hcW := fun V h1 h2 => Wait_of ar ap cr cp rs ps p0 way step (s : Int) V h1 h2 _ _ _ hso
  have hcS := fun V h1 h2 => Served_of ar ap cr cp rs ps p0 way step (s : Int) V h1 h2 _ _ _ hso
  obtain ⟨j, hj⟩ : ∃ j, j = A.length := ⟨_, rfl⟩
  rw [← hj] at hcS
  have HM := hid (And.intro hmem (And.intro hfp (And.intro hAn (And.intro hpl (And.intro hqx (And.intro hwv hj))))))
  have hsI : (s : Int) < (ps.length : Int) := by omega
  have hs0 : (0 : Int) ≤ (s : Int) := by omega
  have HV := hid hvt
  have HXT := hid hxt
  have c0 := x0.cell 0 rfl; have c1 := x0.cell 1 rfl; have c2 := x0.cell 2 rfl; have c3 := x0.cell 3 rfl; have c4 := x0.cell 4 rfl
  clear hso hmem hpr hpb hpl hqx hqt hfp hAn hse hge hqb hj hv hvt hxt hwv
  go_enter Try.func5, Try.ntmps5
  go_wp2_with fail
  refine hrd.mono ?_
  rintro e W1 ⟨rfl, hb1⟩
  clear hW hrd
  (try clear c0 c1 c2 c3 c4); replace x0 := x0.below hb1; have c0 := x0.cell 0 rfl; have c1 := x0.cell 1 rfl; have c2 := x0.cell 2 rfl; have c3 := x0.cell 3 rfl; have c4 := x0.cell 4 rfl; replace hb := hb.trans (hb1.mono hb.size); clear hb1
  go_wp2_with fail
  refine (isPress_any ar ap cr cp rs ps p0 way step (s : Int) _ hl2).mono ?_
  rintro e W2 ⟨rfl, hb1⟩
  rw [hip]
  (try clear c0 c1 c2 c3 c4); replace x0 := x0.below hb1; have c0 := x0.cell 0 rfl; have c1 := x0.cell 1 rfl; have c2 := x0.cell 2 rfl; have c3 := x0.cell 3 rfl; have c4 := x0.cell 4 rfl; replace hb := hb.trans (hb1.mono hb.size); clear hb1
  clear hip
  go_wp2_with fail
  refine (hcW _ (hR.below hb (Nat.le_refl _)) (hP.below hb (Nat.le_refl _))).mono ?_
  rintro e W3 ⟨rfl, hb1⟩
  (try clear c0 c1 c2 c3 c4); replace x0 := x0.below hb1; have c0 := x0.cell 0 rfl; have c1 := x0.cell 1 rfl; have c2 := x0.cell 2 rfl; have c3 := x0.cell 3 rfl; have c4 := x0.cell 4 rfl; replace hb := hb.trans (hb1.mono hb.size); clear hb1
  clear hcW
  go_wp2_with fail
  refine (hcS _ (hR.below hb (Nat.le_refl _)) (hP.below hb (Nat.le_refl _))).mono ?_
  rintro e W4 ⟨rfl, hb1⟩
  (try clear c0 c1 c2 c3 c4); replace x0 := x0.below hb1; have c0 := x0.cell 0 rfl; have c1 := x0.cell 1 rfl; have c2 := x0.cell 2 rfl; have c3 := x0.cell 3 rfl; have c4 := x0.cell 4 rfl; replace hb := hb.trans (hb1.mono hb.size); clear hb1
  clear hcS
  obtain ⟨bp, op, u', t', rfl, _, hp1, hp2, _, _, hps, _⟩ := hP.at hsl
  have hut : u' = x ∧ t' = t := by
    have h := hps.out
    rw [HXT.out] at h
    simp only [Option.some.injEq, Prod.mk.injEq] at h
    exact ⟨h.1.symm, h.2.symm⟩
  obtain ⟨rfl, rfl⟩ := hut
  have hpw1 := Below.keep hb hp1
  have hpw2 := Below.keep hb hp2
  clear hps
  by_cases hbw : wv < be
  · have hb4 := below_one (w := W4) (.cells #[.int .i64 u', .int .i64 (t' + be)] 40)
    go_wp2_with fail
    replace hb := hb.trans (hb4.mono hb.size)
    refine (works_any _).mono ?_
    rintro e V3 ⟨rfl, hb1⟩
    replace hb := hb.trans (hb1.mono hb.size)
    clear hb1
    clear x0 c0 c1 c2 c3 c4 hpw1 hpw2 hb4
    go_wp2
    go_ret
    exact ⟨rfl, hb⟩
  have hbw' : be ≤ wv := by omega
  clear hbw
  -- the other tray and what its functions answer
  have hyI := inR_iff.1 hgood
  have hTt := hT
  obtain ⟨e1, e2, e3, e4, e5, hVT⟩ := hTt
  have hT' := addP_is (x := u') (y := t' + be) hT hp12 (by have h1 := (hVT.pr (u', t') HM.out.1); rw [e1] at h1; exact ⟨h1.1, h1.2.1⟩) hyI
  have hq2 : ∀ q, FirstP (runM T maxI).plays u' t' q → t' + be ≤ q.2 → runM (addP T u' (t' + be)) maxI = runM T maxI := fun q h1 h2 => run_twice hVT HM.out.1 (by omega) h1 h2
  obtain ⟨hmem, hfp, hAn, hpl, hqx, hwv, hj⟩ := HM.out
  have hq3 : t' + be ≤ q.2 := by omega
  have hrun := hq2 q hfp hq3
  have hv' : trB rs (ps ++ [(u', t' + be)]) p0 way step = true := by
    have h0 := HV.out
    unfold trB at h0 ⊢
    simp only [Bool.and_eq_true, Bool.or_eq_true, decide_eq_true_eq, inR_iff, List.all_append, List.all_cons, List.all_nil, Bool.and_true, List.length_append, List.length_cons, List.length_nil] at h0 ⊢
    refine ⟨⟨h0.1.1, by omega⟩, h0.2.1, ⟨h0.2.2.1, ?_⟩, h0.2.2.2⟩
    unfold preB
    simp only [Bool.and_eq_true, inR_iff]
    have h1 := (hVT.pr (u', t') hmem)
    rw [e1] at h1
    omega
  have hse' : servF u' (t' + be) (runM T maxI).plays 0 = (j : Int) := by
    rw [hpl, servF_is (servB_iff.2 ⟨hqx, hq3⟩) A 0 (fun r hr => by
      have h := hAn r hr
      cases hb : servB u' (t' + be) r
      · rfl
      · have h2 := servB_iff.1 hb
        exact absurd ⟨h2.1, by omega⟩ h), hj, Nat.zero_add]
  obtain ⟨c, hc⟩ : ∃ c, c = runM T maxI := ⟨_, rfl⟩
  have hc' : c = runM (addP T u' (t' + be)) maxI := by rw [hrun]; exact hc
  rw [← hc] at hse'
  have hP1 := fun V h1 h2 => Plays_ok ar (some ⟨bp, op, none⟩) cr cp rs ps p0 way step V h1 h2 HV.out T hT c hc
  have hP2 := fun a1 a2 c1 c2 V h1 h2 => Plays_ok a1 a2 c1 c2 rs (ps ++ [(u', t' + be)]) p0 way step V h1 h2 hv' (addP T u' (t' + be)) hT' c hc'
  have hS2 := fun a1 a2 c1 c2 V h1 h2 => Served_of a1 a2 c1 c2 rs (ps ++ [(u', t' + be)]) p0 way step (ps.length : Int) V h1 h2 _ _ _ (fun W d1 d2 => serviceOf_ok a1 a2 c1 c2 rs (ps ++ [(u', t' + be)]) p0 way step (ps.length : Int) W d1 d2 hv' (inR_iff.2 (by rw [List.length_append, List.length_singleton]; omega)) (addP T u' (t' + be)) hT' c hc' u' (t' + be) (by rw [Int.toNat_natCast]; simp))
  unfold PlaysP at hP1 hP2
  have hlen : (ps ++ [(u', t' + be)]).length = ps.length + 1 := by simp
  rw [hlen] at hP2 hS2
  rw [hse'] at hS2
  have hcp := fun V h1 h2 => copy_any ar (some ⟨bp, op, none⟩) cr cp rs ps p0 way step V h1 h2 (by omega) (by omega)
  unfold CopyP at hcp
  have hb4 := below_one (w := W4) (.cells #[.int .i64 u', .int .i64 (t' + be)] 40)
  have x11 := Bx.new W4 #[.int .i64 u', .int .i64 (t' + be)] 40
  have x04 := x0.below hb4
  have hb4w := hb.trans (hb4.mono hb.size)
  have HB := hid (And.intro x11 (And.intro x04 hb4w))
  have hjj : ((j : Int) == (j : Int)) = true := by simp
  have HBR := hid hR.2.1
  have HBP := hid hP.2.1
  clear hmem hfp hAn hpl hqx hwv hj hq2 hq3 hrun hse' hc hc' hT' hv' e1 e2 e3 e4 e5 hVT hlen x11 x04 hb4w hb4
  go_wp2_with fail
  refine (refTime_any _ _).mono ?_
  rintro e W5 ⟨rfl, rfl⟩
  rw [hgood]
  obtain ⟨x11, x04, hb⟩ := HB.out
  clear HB hpw1 hpw2 c0 c1 c2 c3 c4 x0
  obtain ⟨g11, hg11⟩ : ∃ g, W4.heap.size = g := ⟨_, rfl⟩
  rw [hg11] at x11
  have x0 := x04
  clear x04
  have c0 := x0.cell 0 rfl; have c1 := x0.cell 1 rfl; have c2 := x0.cell 2 rfl; have c3 := x0.cell 3 rfl; have c4 := x0.cell 4 rfl
  go_wp2_with fail
  refine (hcp _ (hR.below hb (Nat.le_refl _)) (hP.below hb (Nat.le_refl _))).mono ?_
  rintro e W6 ⟨hb1, a1, a2, c1', c2', rfl, own1, own2, hdis⟩
  clear hcp
  have hl1 := own_lt own1; have hl2 := own_lt own2
  obtain ⟨B0, hB0⟩ : ∃ B, B = (W4.alloc (.cells #[.int .i64 u', .int .i64 (t' + be)] 40)).heap.size := ⟨_, rfl⟩
  have hxB := x0.lt; have hgB := x11.lt; have hsb := hb.size; have hs6 := hb1.size
  rw [← hB0] at own1 own2 hxB hgB hsb hs6
  replace x0 := x0.below hb1; replace x11 := x11.below hb1; replace hb := hb.trans (hb1.mono hb.size)
  obtain ⟨Wc, hWc, hbx, hsx, x12⟩ := boxes1 W6 #[.slice a1 rs.length c1', .int .i64 p0, .int .i64 way, .int .i64 step, .slice a2 ps.length c2'] 25
  replace x0 := x0.below hbx; replace x11 := x11.below hbx; replace hb := hb.trans (hbx.mono hb.size)
  replace own1 := own_below2 own1 hbx; replace own2 := own_below2 own2 hbx
  have hap := fun v5 W5 => app_step (v5 := v5) (W5 := W5) (w := w) (x := u') (y := t' + be) x0 x11 x12 own1 own2 hdis hb hsb hxB hgB hs6 hl1 hl2 rfl rfl (by omega) (by omega) HBR.out HBP.out (by omega) (by omega)
  have HAP := hid hap
  have own2d := own_below2 own2 (below_one (w := Wc) (.cells #[.int .i64 u', .int .i64 (t' + be)] 40))
  have hcl := Cls.of_bx (Bx.new Wc #[.int .i64 u', .int .i64 (t' + be)] 40)
  have hBc : B0 ≤ (Wc.alloc (.cells #[.int .i64 u', .int .i64 (t' + be)] 40)).heap.size := by simp [hsx]; omega
  have k12 := x12.cell 4 rfl
  have k110 := x11.cell 0 rfl; have k111 := x11.cell 1 rfl
  clear hap hdis own1 own2 hl1 hB0 hxB hgB hs6 x0 c0 c1 c2 c3 c4 x11 x12 hbx hsx hb1
  go_wp2_with (at_builtin; refine wpList_appAt rfl (.tmp 86) (.tmp 88) 23 rfl B0 40 i0 (.agg #[.int .i64 0, .int .i64 0]) 2 16 under23 hi0 iz0 iz1 iz2 rfl (by decide) (.slice a2 ps.length c2') ps.length (pcells ps) rfl own2d (some ⟨Wc.heap.size, 0, none⟩) 1 1 [.int .i64 u', .int .i64 (t' + be)] rfl rfl hcl (by simp; exact ⟨rfl, rfl⟩) (by unfold maxLen; omega) (by omega) hBc ?_; intro v5 W5' hown5 hg5 hat; obtain ⟨a5, c5, rfl, fr5, kc5, HF⟩ := HAP.out _ _ hown5 hg5 hat; clear hown5 hg5 hat; have c0 := HF.out.1.cell 0 rfl; have c1 := HF.out.1.cell 1 rfl; have c2 := HF.out.1.cell 2 rfl; have c3 := HF.out.1.cell 3 rfl; have c4 := HF.out.1.cell 4 rfl)
  obtain ⟨x0, -, x12, q1, q2, hb⟩ := HF.out
  clear HF HAP own2d hcl k12 k110 k111 hWc c0 c1 c2 c3 c4 fr5 kc5 hBc hi0
  generalize W5'.setCell ⟨W6.heap.size, 4, none⟩ (.slice a5 (ps.length + 1) c5) = W7 at *
  have c0 := x0.cell 0 rfl; have c1 := x0.cell 1 rfl; have c2 := x0.cell 2 rfl; have c3 := x0.cell 3 rfl; have c4 := x0.cell 4 rfl
  have d0 := x12.cell 0 rfl; have d1 := x12.cell 1 rfl; have d2 := x12.cell 2 rfl; have d3 := x12.cell 3 rfl; have d4 := x12.cell 4 rfl
  refine (hP1 _ (hR.below hb (Nat.le_refl _)) (hP.below hb (Nat.le_refl _))).mono ?_
  rintro e V1 ⟨hb1, aa, ca, rfl, r1⟩
  replace q1 := q1.below hb1 (Nat.le_refl _); replace q2 := q2.below hb1 (Nat.le_refl _); (try clear c0 c1 c2 c3 c4); replace x0 := x0.below hb1; have c0 := x0.cell 0 rfl; have c1 := x0.cell 1 rfl; have c2 := x0.cell 2 rfl; have c3 := x0.cell 3 rfl; have c4 := x0.cell 4 rfl; (try clear d0 d1 d2 d3 d4); replace x12 := x12.below hb1; have d0 := x12.cell 0 rfl; have d1 := x12.cell 1 rfl; have d2 := x12.cell 2 rfl; have d3 := x12.cell 3 rfl; have d4 := x12.cell 4 rfl; replace hb := hb.trans (hb1.mono hb.size); clear hb1
  clear hP1
  go_wp2_with fail
  refine (hP2 _ _ _ _ _ q1 q2).mono ?_
  rintro e V2 ⟨hb1, ab, cb, rfl, r2⟩
  replace q1 := q1.below hb1 (Nat.le_refl _); replace q2 := q2.below hb1 (Nat.le_refl _); replace r1 := r1.below hb1 (Nat.le_refl _); (try clear c0 c1 c2 c3 c4); replace x0 := x0.below hb1; have c0 := x0.cell 0 rfl; have c1 := x0.cell 1 rfl; have c2 := x0.cell 2 rfl; have c3 := x0.cell 3 rfl; have c4 := x0.cell 4 rfl; (try clear d0 d1 d2 d3 d4); replace x12 := x12.below hb1; have d0 := x12.cell 0 rfl; have d1 := x12.cell 1 rfl; have d2 := x12.cell 2 rfl; have d3 := x12.cell 3 rfl; have d4 := x12.cell 4 rfl; replace hb := hb.trans (hb1.mono hb.size); clear hb1
  clear hP2
  go_wp2_with fail
  refine (hS2 _ _ _ _ _ q1 q2).mono ?_
  rintro e V3 ⟨rfl, hb1⟩
  replace r1 := r1.below hb1 (Nat.le_refl _); replace r2 := r2.below hb1 (Nat.le_refl _); replace hb := hb.trans (hb1.mono hb.size); clear hb1
  clear hS2 x0 x12 c0 c1 c2 c3 c4 d0 d1 d2 d3 d4 q1 q2
  go_wp2_with fail
  refine (SamePlays_eq aa ab ca cb c.plays _ r1 r2).mono ?_
  rintro e V5 ⟨rfl, hb1⟩
  replace hb := hb.trans (hb1.mono hb.size)
  clear hb1 r1 r2
  go_wp2_with fail
  refine (works_any _).mono ?_
  rintro e V3 ⟨rfl, hb1⟩
  replace hb := hb.trans (hb1.mono hb.size)
  clear hb1
  go_wp2
  go_ret
  exact ⟨rfl, hb⟩
theorem twice_any (ar ap : Option Addr) (cr cp : Nat) (rs ps : List (Int × Int)) (p0 way step : Int) (pr be : Int) (w : World) (hlr : rs.length ≤ 9223372036854775807) (hlp : ps.length ≤ 9223372036854775807) (hR : rs.length ≤ 1000 → Prs w ar rs) (hP : ps.length ≤ 1000 → Prs w ap ps) :
    Calls Try.prog 5 #[.agg #[.slice ar rs.length cr, .int .i64 p0, .int .i64 way, .int .i64 step, .slice ap ps.length cp], .int .i64 pr, .int .i64 be] w (WorksP w) := by
  cases hv : rdB rs ps p0 way step
  · exact tw_arg0 ar ap cr cp rs ps p0 way step pr be w hlr hlp hR hP hv
  · have hl := rdB_6 (rdB_len hv)
    have hR' := hR (by omega)
    have hP' := hP (by omega)
    by_cases hbad : 12 ≤ ps.length ∨ inR 0 pr ((ps.length : Int) - 1) = false ∨ be < 0 ∨ 9999 < be
    · exact tw_arg1 ar ap cr cp rs ps p0 way step pr be w hR' hP' (by omega) hv hbad
    · have hip : inR 0 pr ((ps.length : Int) - 1) = true := by
        cases h : inR 0 pr ((ps.length : Int) - 1)
        · exact absurd (.inr (.inl h)) hbad
        · rfl
      have h1 := inR_iff.1 hip
      obtain ⟨s, rfl⟩ : ∃ s : Nat, pr = (s : Int) := ⟨pr.toNat, by omega⟩
      obtain ⟨T, hT, _⟩ := tr_of (rdB_len hv)
      have hs : s < ps.length := by omega
      obtain ⟨⟨x, t⟩, hxt⟩ : ∃ q, ps[s]? = some q := ⟨_, List.getElem?_eq_getElem hs⟩
      cases hg : inR 0 (t + be) 9999
      · exact tw_ok1 ar ap cr cp rs ps p0 way step s be w hR' hP' hv (by omega) (by omega) T hT x t hxt hg
      · exact tw_ok2 ar ap cr cp rs ps p0 way step s be w hR' hP' hv (by omega) (by omega) T hT x t hxt hg
end Go.Proofs.Ytknaljghpfeikaa
