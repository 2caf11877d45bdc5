import Derived.Test.YtknaljghpfeikaaT56
namespace Go.Proofs.Ytknaljghpfeikaa
open Go.RowKit

theorem rdB_6b {rs ps : List (Int × Int)} {p0 way step : Int} (h : trB rs ps p0 way step = true) : rs.length ≤ 6 ∧ ps.length ≤ 12 ∧ 1 ≤ rs.length := by
  unfold trB at h
  simp only [Bool.and_eq_true, decide_eq_true_eq, inR_iff] at h
  omega
theorem trB_of {T : Tr} {rs ps : List (Int × Int)} {p0 way step : Int} (h : IsTr T rs ps p0 way step) (hl : ps.length ≤ 12) : trB rs ps p0 way step = true := by
  obtain ⟨h1, h2, h3, h4, h5, hv⟩ := h
  have n1 := hv.n1; have n6 := hv.n6; have hat := hv.at0; have hst := hv.st
  rw [h1] at n1 n6 hat
  rw [h3] at hst
  unfold trB
  simp only [Bool.and_eq_true, Bool.or_eq_true, decide_eq_true_eq, inR_iff, List.all_eq_true]
  refine ⟨⟨by omega, by omega⟩, fun r hr => ?_, fun p hp => ?_, by omega, ?_, by omega⟩
  · have := hv.rc r (by rw [h1]; exact hr)
    unfold recB
    simp only [Bool.and_eq_true, inR_iff]
    omega
  · have := hv.pr p (by rw [h2]; exact hp)
    rw [h1] at this
    unfold preB
    simp only [Bool.and_eq_true, inR_iff]
    omega
  · rw [← h5]; split <;> simp
set_option maxRecDepth 100000 in
set_option maxHeartbeats 1000000 in
theorem tb_arg0 (ar ap : Option Addr) (cr cp : Nat) (rs ps : List (Int × Int)) (p0 way step : Int) (ao : Option Addr) (co : Nat) (os : List Int) (w : World) (hlr : rs.length ≤ 9223372036854775807) (hlp : ps.length ≤ 9223372036854775807) (hR : rs.length ≤ 1000 → Prs w ar rs) (hP : ps.length ≤ 1000 → Prs w ap ps) (hv : rdB rs ps p0 way step = false) :
    Calls Try.prog 10 #[.agg #[.slice ar rs.length cr, .int .i64 p0, .int .i64 way, .int .i64 step, .slice ap ps.length cp], .slice ao os.length co] w (WorksP w) := by
  obtain ⟨W, hW, hb, hs, x0⟩ := boxes1 w #[.slice ar rs.length cr, .int .i64 p0, .int .i64 way, .int .i64 step, .slice ap ps.length cp] 25
  clear hs
  have hrd := ready_any ar ap cr cp rs ps p0 way step W hlr hlp (fun h => (hR h).below hb (Nat.le_refl _)) (fun h => (hP h).below hb (Nat.le_refl _))
  rw [hv] at hrd
  have c0 := x0.cell 0 rfl; have c1 := x0.cell 1 rfl; have c2 := x0.cell 2 rfl; have c3 := x0.cell 3 rfl; have c4 := x0.cell 4 rfl
  clear hR hP hlr hlp hv
  go_enter Try.func10, Try.ntmps10
  go_wp2_with fail
  refine hrd.mono ?_
  rintro e W1 ⟨rfl, hb1⟩
  clear hW hrd
  (try clear c0 c1 c2 c3 c4); replace x0 := x0.below hb1; have c0 := x0.cell 0 rfl; have c1 := x0.cell 1 rfl; have c2 := x0.cell 2 rfl; have c3 := x0.cell 3 rfl; have c4 := x0.cell 4 rfl; replace hb := hb.trans (hb1.mono hb.size); clear hb1
  go_wp2_with fail
  refine (works_any _).mono ?_
  rintro e V3 ⟨rfl, hb1⟩
  replace hb := hb.trans (hb1.mono hb.size)
  clear hb1
  clear x0 c0 c1 c2 c3 c4
  go_wp2
  go_ret
  exact ⟨rfl, hb⟩
set_option maxRecDepth 100000 in
set_option maxHeartbeats 1000000 in
theorem tb_arg1 (ar ap : Option Addr) (cr cp : Nat) (rs ps : List (Int × Int)) (p0 way step : Int) (ao : Option Addr) (co : Nat) (os : List Int) (w : World) (hR : Prs w ar rs) (hP : Prs w ap ps) (hO : Ints w ao os) (hl : ps.length ≤ 40 ∧ rs.length ≤ 40) (hv : rdB rs ps p0 way step = true) (hbad : 4 < rs.length ∨ 40 < os.length ∨ isOrd rs.length os = false) :
    Calls Try.prog 10 #[.agg #[.slice ar rs.length cr, .int .i64 p0, .int .i64 way, .int .i64 step, .slice ap ps.length cp], .slice ao os.length co] w (WorksP w) := by
  obtain ⟨W, hW, hb, hs, x0⟩ := boxes1 w #[.slice ar rs.length cr, .int .i64 p0, .int .i64 way, .int .i64 step, .slice ap ps.length cp] 25
  clear hs
  have hrd := ready_any ar ap cr cp rs ps p0 way step W (by omega) (by omega) (fun h => hR.below hb (Nat.le_refl _)) (fun h => hP.below hb (Nat.le_refl _))
  rw [hv] at hrd
  have hio := fun V h => isOrder_any ar ap ao cr cp co rs ps os p0 way step V (by omega) h
  have lo := hO.len
  have loI : (os.length : Int) ≤ 9223372036854775807 := by omega
  have c0 := x0.cell 0 rfl; have c1 := x0.cell 1 rfl; have c2 := x0.cell 2 rfl; have c3 := x0.cell 3 rfl; have c4 := x0.cell 4 rfl
  clear hR hP hv
  by_cases h1 : 4 < rs.length
  · have h1I : (4 : Int) < (rs.length : Int) := by omega
    clear hbad hio hO
    go_enter Try.func10, Try.ntmps10
    go_wp2_with fail
    refine hrd.mono ?_
    rintro e W1 ⟨rfl, hb1⟩
    clear hW hrd
    (try clear c0 c1 c2 c3 c4); replace x0 := x0.below hb1; have c0 := x0.cell 0 rfl; have c1 := x0.cell 1 rfl; have c2 := x0.cell 2 rfl; have c3 := x0.cell 3 rfl; have c4 := x0.cell 4 rfl; replace hb := hb.trans (hb1.mono hb.size); clear hb1
    go_wp2_with fail
    refine (works_any _).mono ?_
    rintro e V3 ⟨rfl, hb1⟩
    replace hb := hb.trans (hb1.mono hb.size)
    clear hb1
    clear x0 c0 c1 c2 c3 c4
    go_wp2
    go_ret
    exact ⟨rfl, hb⟩
  have h1I : (rs.length : Int) ≤ 4 := by omega
  by_cases h2 : 40 < os.length
  · have h2I : (40 : Int) < (os.length : Int) := by omega
    clear hbad hio hO
    go_enter Try.func10, Try.ntmps10
    go_wp2_with fail
    refine hrd.mono ?_
    rintro e W1 ⟨rfl, hb1⟩
    clear hW hrd
    (try clear c0 c1 c2 c3 c4); replace x0 := x0.below hb1; have c0 := x0.cell 0 rfl; have c1 := x0.cell 1 rfl; have c2 := x0.cell 2 rfl; have c3 := x0.cell 3 rfl; have c4 := x0.cell 4 rfl; replace hb := hb.trans (hb1.mono hb.size); clear hb1
    go_wp2_with fail
    refine (works_any _).mono ?_
    rintro e V3 ⟨rfl, hb1⟩
    replace hb := hb.trans (hb1.mono hb.size)
    clear hb1
    clear x0 c0 c1 c2 c3 c4
    go_wp2
    go_ret
    exact ⟨rfl, hb⟩
  have h2I : (os.length : Int) ≤ 40 := by omega
  have h3 : isOrd rs.length os = false := by
    rcases hbad with h | h | h
    · omega
    · omega
    · exact h
  rw [h3] at hio
  clear hbad h3
  go_enter Try.func10, Try.ntmps10
  go_wp2_with fail
  refine hrd.mono ?_
  rintro e W1 ⟨rfl, hb1⟩
  clear hW hrd
  (try clear c0 c1 c2 c3 c4); replace x0 := x0.below hb1; have c0 := x0.cell 0 rfl; have c1 := x0.cell 1 rfl; have c2 := x0.cell 2 rfl; have c3 := x0.cell 3 rfl; have c4 := x0.cell 4 rfl; replace hb := hb.trans (hb1.mono hb.size); clear hb1
  go_wp2_with fail
  refine (hio _ (hO.below hb (Nat.le_refl _))).mono ?_
  rintro e W2 ⟨rfl, hb1⟩
  (try clear c0 c1 c2 c3 c4); replace x0 := x0.below hb1; have c0 := x0.cell 0 rfl; have c1 := x0.cell 1 rfl; have c2 := x0.cell 2 rfl; have c3 := x0.cell 3 rfl; have c4 := x0.cell 4 rfl; replace hb := hb.trans (hb1.mono hb.size); clear hb1
  clear hio
  go_wp2_with fail
  refine (works_any _).mono ?_
  rintro e V3 ⟨rfl, hb1⟩
  replace hb := hb.trans (hb1.mono hb.size)
  clear hb1
  clear x0 c0 c1 c2 c3 c4
  go_wp2
  go_ret
  exact ⟨rfl, hb⟩
set_option maxRecDepth 100000 in
set_option maxHeartbeats 1000000 in
theorem tb_none (ar ap : Option Addr) (cr cp : Nat) (rs ps : List (Int × Int)) (p0 way step : Int) (ao : Option Addr) (co : Nat) (os : List Int) (w : World) (hR : Prs w ar rs) (hP : Prs w ap ps) (hO : Ints w ao os) (hv : rdB rs ps p0 way step = true) (h4 : rs.length ≤ 4) (hord : isOrd rs.length os = true) (h0 : ps.length = 0) :
    Calls Try.prog 10 #[.agg #[.slice ar rs.length cr, .int .i64 p0, .int .i64 way, .int .i64 step, .slice ap ps.length cp], .slice ao os.length co] w (WorksP w) := by
  obtain ⟨hr6, hp12, hr1⟩ := rdB_6b (rdB_len hv)
  have hvt := rdB_len hv
  obtain ⟨T, hT, _⟩ := tr_of hvt
  obtain ⟨hall, hol⟩ := isOrd_iff.1 hord
  have hper := perm_in hr1 h4 hol hall
  have hos := (perms_ok (n := (rs.length : Int)) (by omega) rs.length 0 (idL rs.length) (idL_mem _) os hper).2
  have hTo := ordT_is hT hol hos
  have hvo := trB_of hTo (by rw [ordP_len]; exact hp12)
  have hbo : ∀ x ∈ ordR rs os, -9223372036854775808 ≤ x.1 ∧ x.1 ≤ 9223372036854775807 ∧ -9223372036854775808 ≤ x.2 ∧ x.2 ≤ 9223372036854775807 := fun x hx => by have := hTo.hv.rc x (by rw [hTo.T1]; exact hx); omega
  have hbp : ∀ x ∈ ordP os ps, -9223372036854775808 ≤ x.1 ∧ x.1 ≤ 9223372036854775807 ∧ -9223372036854775808 ≤ x.2 ∧ x.2 ≤ 9223372036854775807 := fun x hx => by have h1 := hTo.hv.pr x (by rw [hTo.T2]; exact hx); have h2 := hTo.hv.n6; omega
  have hps : ∀ p ∈ ps, 0 ≤ p.1 ∧ p.1 < 2 * (rs.length : Int) := fun p hp => by have h1 := hT.hv.pr p (by rw [hT.T2]; exact hp); rw [hT.T1] at h1; omega
  have har := fun V h1 h2 h3 => arranged_any ao co os ar ap cr cp rs ps p0 way step V h1 h2 h3 hr6 hos hol hall hps (by omega) hbo hbp
  unfold OrdP at har
  obtain ⟨W, hW, hb, hs, x0⟩ := boxes1 w #[.slice ar rs.length cr, .int .i64 p0, .int .i64 way, .int .i64 step, .slice ap ps.length cp] 25
  clear hs
  have hrd := ready_any ar ap cr cp rs ps p0 way step W (by omega) (by omega) (fun h => hR.below hb (Nat.le_refl _)) (fun h => hP.below hb (Nat.le_refl _))
  rw [hv] at hrd
  have hio := fun V h => isOrder_any ar ap ao cr cp co rs ps os p0 way step V (by omega) h
  rw [hord] at hio
  have h4I : (rs.length : Int) ≤ 4 := by omega
  have hoI : (os.length : Int) ≤ 40 := by omega
  have hlo : (ordP os ps).length = ps.length := ordP_len os ps
  have hS := fun V h1 h2 => Soonest_bad ar ap cr cp rs ps p0 way step V h1 h2 (by omega) 3 (by rw [if_pos hvt, if_pos h0]) (by decide) (by decide)
  have hE := fun V h1 h2 => End_bad ar ap cr cp rs ps p0 way step V h1 h2 (by omega) 3 (by rw [if_pos hvt, if_pos h0]) (by decide) (by decide)
  have hE2 := fun a1 a2 c1 c2 V h1 h2 => End_bad a1 a2 c1 c2 (ordR rs os) (ordP os ps) p0 way step V h1 h2 (by omega) 3 (by rw [if_pos hvo, if_pos (by omega)]) (by decide) (by decide)
  clear hv hvt hvo hT hTo hall hol hper hos hbo hbp hps hord hlo h0
  generalize ordR rs os = R2 at har hE2
  generalize ordP os ps = P2 at har hE2
  have c0 := x0.cell 0 rfl; have c1 := x0.cell 1 rfl; have c2 := x0.cell 2 rfl; have c3 := x0.cell 3 rfl; have c4 := x0.cell 4 rfl
  go_enter Try.func10, Try.ntmps10
  go_wp2_with fail
  refine hrd.mono ?_
  rintro e W1 ⟨rfl, hb1⟩
  clear hW hrd
  (try clear c0 c1 c2 c3 c4); replace x0 := x0.below hb1; have c0 := x0.cell 0 rfl; have c1 := x0.cell 1 rfl; have c2 := x0.cell 2 rfl; have c3 := x0.cell 3 rfl; have c4 := x0.cell 4 rfl; replace hb := hb.trans (hb1.mono hb.size); clear hb1
  go_wp2_with fail
  refine (hio _ (hO.below hb (Nat.le_refl _))).mono ?_
  rintro e W2 ⟨rfl, hb1⟩
  (try clear c0 c1 c2 c3 c4); replace x0 := x0.below hb1; have c0 := x0.cell 0 rfl; have c1 := x0.cell 1 rfl; have c2 := x0.cell 2 rfl; have c3 := x0.cell 3 rfl; have c4 := x0.cell 4 rfl; replace hb := hb.trans (hb1.mono hb.size); clear hb1
  clear hio
  go_wp2_with fail
  refine (hS _ (hR.below hb (Nat.le_refl _)) (hP.below hb (Nat.le_refl _))).mono ?_
  rintro e W3 ⟨rfl, hb1⟩
  (try clear c0 c1 c2 c3 c4); replace x0 := x0.below hb1; have c0 := x0.cell 0 rfl; have c1 := x0.cell 1 rfl; have c2 := x0.cell 2 rfl; have c3 := x0.cell 3 rfl; have c4 := x0.cell 4 rfl; replace hb := hb.trans (hb1.mono hb.size); clear hb1
  clear hS
  go_wp2_with fail
  refine (hE _ (hR.below hb (Nat.le_refl _)) (hP.below hb (Nat.le_refl _))).mono ?_
  rintro e W4 ⟨rfl, hb1⟩
  (try clear c0 c1 c2 c3 c4); replace x0 := x0.below hb1; have c0 := x0.cell 0 rfl; have c1 := x0.cell 1 rfl; have c2 := x0.cell 2 rfl; have c3 := x0.cell 3 rfl; have c4 := x0.cell 4 rfl; replace hb := hb.trans (hb1.mono hb.size); clear hb1
  clear hE
  go_wp2_with fail
  refine (har _ (hR.below hb (Nat.le_refl _)) (hP.below hb (Nat.le_refl _)) (hO.below hb (Nat.le_refl _))).mono ?_
  rintro e W5 ⟨hb1, a1, a2, c1', c2', rfl, q1, q2⟩
  (try clear c0 c1 c2 c3 c4); replace x0 := x0.below hb1; have c0 := x0.cell 0 rfl; have c1 := x0.cell 1 rfl; have c2 := x0.cell 2 rfl; have c3 := x0.cell 3 rfl; have c4 := x0.cell 4 rfl; replace hb := hb.trans (hb1.mono hb.size); clear hb1
  clear har
  go_wp2_with fail
  refine (hE2 a1 a2 c1' c2' _ q1 q2).mono ?_
  rintro e W6 ⟨rfl, hb1⟩
  (try clear c0 c1 c2 c3 c4); replace x0 := x0.below hb1; have c0 := x0.cell 0 rfl; have c1 := x0.cell 1 rfl; have c2 := x0.cell 2 rfl; have c3 := x0.cell 3 rfl; have c4 := x0.cell 4 rfl; replace hb := hb.trans (hb1.mono hb.size); clear hb1
  clear hE2 q1 q2
  go_wp2_with fail
  refine (works_any _).mono ?_
  rintro e V3 ⟨rfl, hb1⟩
  replace hb := hb.trans (hb1.mono hb.size)
  clear hb1
  clear x0 c0 c1 c2 c3 c4
  go_wp2
  go_ret
  exact ⟨rfl, hb⟩
set_option maxRecDepth 100000 in
set_option maxHeartbeats 1000000 in
theorem tb_ok (ar ap : Option Addr) (cr cp : Nat) (rs ps : List (Int × Int)) (p0 way step : Int) (ao : Option Addr) (co : Nat) (os : List Int) (w : World) (hR : Prs w ar rs) (hP : Prs w ap ps) (hO : Ints w ao os) (hv : rdB rs ps p0 way step = true) (h4 : rs.length ≤ 4) (hord : isOrd rs.length os = true) (h0 : ps.length ≠ 0) :
    Calls Try.prog 10 #[.agg #[.slice ar rs.length cr, .int .i64 p0, .int .i64 way, .int .i64 step, .slice ap ps.length cp], .slice ao os.length co] w (WorksP w) := by
  obtain ⟨hr6, hp12, hr1⟩ := rdB_6b (rdB_len hv)
  have hvt := rdB_len hv
  obtain ⟨T, hT, _⟩ := tr_of hvt
  obtain ⟨hall, hol⟩ := isOrd_iff.1 hord
  have hper := perm_in hr1 h4 hol hall
  have hos := (perms_ok (n := (rs.length : Int)) (by omega) rs.length 0 (idL rs.length) (idL_mem _) os hper).2
  have hTo := ordT_is hT hol hos
  have hvo := trB_of hTo (by rw [ordP_len]; exact hp12)
  have hbo : ∀ x ∈ ordR rs os, -9223372036854775808 ≤ x.1 ∧ x.1 ≤ 9223372036854775807 ∧ -9223372036854775808 ≤ x.2 ∧ x.2 ≤ 9223372036854775807 := fun x hx => by have := hTo.hv.rc x (by rw [hTo.T1]; exact hx); omega
  have hbp : ∀ x ∈ ordP os ps, -9223372036854775808 ≤ x.1 ∧ x.1 ≤ 9223372036854775807 ∧ -9223372036854775808 ≤ x.2 ∧ x.2 ≤ 9223372036854775807 := fun x hx => by have h1 := hTo.hv.pr x (by rw [hTo.T2]; exact hx); have h2 := hTo.hv.n6; omega
  have hps : ∀ p ∈ ps, 0 ≤ p.1 ∧ p.1 < 2 * (rs.length : Int) := fun p hp => by have h1 := hT.hv.pr p (by rw [hT.T2]; exact hp); rw [hT.T1] at h1; omega
  have har := fun V h1 h2 h3 => arranged_any ao co os ar ap cr cp rs ps p0 way step V h1 h2 h3 hr6 hos hol hall hps (by omega) hbo hbp
  unfold OrdP at har
  obtain ⟨W, hW, hb, hs, x0⟩ := boxes1 w #[.slice ar rs.length cr, .int .i64 p0, .int .i64 way, .int .i64 step, .slice ap ps.length cp] 25
  clear hs
  have hrd := ready_any ar ap cr cp rs ps p0 way step W (by omega) (by omega) (fun h => hR.below hb (Nat.le_refl _)) (fun h => hP.below hb (Nat.le_refl _))
  rw [hv] at hrd
  have hio := fun V h => isOrder_any ar ap ao cr cp co rs ps os p0 way step V (by omega) h
  rw [hord] at hio
  have h4I : (rs.length : Int) ≤ 4 := by omega
  have hoI : (os.length : Int) ≤ 40 := by omega
  have hlo : (ordP os ps).length = ps.length := ordP_len os ps
  obtain ⟨f1, f2, f3⟩ := best_facts hT h4 (fun e => h0 (by rw [e]; rfl))
  replace f3 := f3 os hol hall
  unfold endO at f3
  have hS := fun V h1 h2 => Soonest_ok ar ap cr cp rs ps p0 way step V h1 h2 hvt h0 hp12 T hT
  have hE := fun V h1 h2 => End_ok ar ap cr cp rs ps p0 way step V h1 h2 hvt h0 T hT _ rfl
  have hE2 := fun a1 a2 c1 c2 V h1 h2 => End_ok a1 a2 c1 c2 (ordR rs os) (ordP os ps) p0 way step V h1 h2 hvo (by omega) (ordT T os) hTo _ rfl
  generalize (bestM T maxI).2 = b at f1 f2 f3 hS
  generalize (runM T maxI).fin = f at f2 hE
  generalize (runM (ordT T os) maxI).fin = g at f3 hE2
  clear hv hvt hvo hT hTo hall hol hper hos hbo hbp hps hord hlo h0
  generalize ordR rs os = R2 at har hE2
  generalize ordP os ps = P2 at har hE2
  have c0 := x0.cell 0 rfl; have c1 := x0.cell 1 rfl; have c2 := x0.cell 2 rfl; have c3 := x0.cell 3 rfl; have c4 := x0.cell 4 rfl
  go_enter Try.func10, Try.ntmps10
  go_wp2_with fail
  refine hrd.mono ?_
  rintro e W1 ⟨rfl, hb1⟩
  clear hW hrd
  (try clear c0 c1 c2 c3 c4); replace x0 := x0.below hb1; have c0 := x0.cell 0 rfl; have c1 := x0.cell 1 rfl; have c2 := x0.cell 2 rfl; have c3 := x0.cell 3 rfl; have c4 := x0.cell 4 rfl; replace hb := hb.trans (hb1.mono hb.size); clear hb1
  go_wp2_with fail
  refine (hio _ (hO.below hb (Nat.le_refl _))).mono ?_
  rintro e W2 ⟨rfl, hb1⟩
  (try clear c0 c1 c2 c3 c4); replace x0 := x0.below hb1; have c0 := x0.cell 0 rfl; have c1 := x0.cell 1 rfl; have c2 := x0.cell 2 rfl; have c3 := x0.cell 3 rfl; have c4 := x0.cell 4 rfl; replace hb := hb.trans (hb1.mono hb.size); clear hb1
  clear hio
  go_wp2_with fail
  refine (hS _ (hR.below hb (Nat.le_refl _)) (hP.below hb (Nat.le_refl _))).mono ?_
  rintro e W3 ⟨rfl, hb1⟩
  (try clear c0 c1 c2 c3 c4); replace x0 := x0.below hb1; have c0 := x0.cell 0 rfl; have c1 := x0.cell 1 rfl; have c2 := x0.cell 2 rfl; have c3 := x0.cell 3 rfl; have c4 := x0.cell 4 rfl; replace hb := hb.trans (hb1.mono hb.size); clear hb1
  clear hS
  go_wp2_with fail
  refine (hE _ (hR.below hb (Nat.le_refl _)) (hP.below hb (Nat.le_refl _))).mono ?_
  rintro e W4 ⟨rfl, hb1⟩
  (try clear c0 c1 c2 c3 c4); replace x0 := x0.below hb1; have c0 := x0.cell 0 rfl; have c1 := x0.cell 1 rfl; have c2 := x0.cell 2 rfl; have c3 := x0.cell 3 rfl; have c4 := x0.cell 4 rfl; replace hb := hb.trans (hb1.mono hb.size); clear hb1
  clear hE
  go_wp2_with fail
  refine (har _ (hR.below hb (Nat.le_refl _)) (hP.below hb (Nat.le_refl _)) (hO.below hb (Nat.le_refl _))).mono ?_
  rintro e W5 ⟨hb1, a1, a2, c1', c2', rfl, q1, q2⟩
  (try clear c0 c1 c2 c3 c4); replace x0 := x0.below hb1; have c0 := x0.cell 0 rfl; have c1 := x0.cell 1 rfl; have c2 := x0.cell 2 rfl; have c3 := x0.cell 3 rfl; have c4 := x0.cell 4 rfl; replace hb := hb.trans (hb1.mono hb.size); clear hb1
  clear har
  go_wp2_with fail
  refine (hE2 a1 a2 c1' c2' _ q1 q2).mono ?_
  rintro e W6 ⟨rfl, hb1⟩
  (try clear c0 c1 c2 c3 c4); replace x0 := x0.below hb1; have c0 := x0.cell 0 rfl; have c1 := x0.cell 1 rfl; have c2 := x0.cell 2 rfl; have c3 := x0.cell 3 rfl; have c4 := x0.cell 4 rfl; replace hb := hb.trans (hb1.mono hb.size); clear hb1
  clear hE2 q1 q2
  go_wp2_with fail
  refine (works_any _).mono ?_
  rintro e V3 ⟨rfl, hb1⟩
  replace hb := hb.trans (hb1.mono hb.size)
  clear hb1
  clear x0 c0 c1 c2 c3 c4
  go_wp2
  go_ret
  exact ⟨rfl, hb⟩
/-- All arguments. -/
theorem best_any (ar ap : Option Addr) (cr cp : Nat) (rs ps : List (Int × Int)) (p0 way step : Int) (ao : Option Addr) (co : Nat) (os : List Int) (w : World) (hlr : rs.length ≤ 9223372036854775807) (hlp : ps.length ≤ 9223372036854775807) (hR : rs.length ≤ 1000 → Prs w ar rs) (hP : ps.length ≤ 1000 → Prs w ap ps) (hO : Ints w ao os) :
    Calls Try.prog 10 #[.agg #[.slice ar rs.length cr, .int .i64 p0, .int .i64 way, .int .i64 step, .slice ap ps.length cp], .slice ao os.length co] w (WorksP w) := by
  cases hv : rdB rs ps p0 way step
  · exact tb_arg0 ar ap cr cp rs ps p0 way step ao co os w hlr hlp hR hP hv
  · have hl := rdB_6b (rdB_len hv)
    have hR' := hR (by omega)
    have hP' := hP (by omega)
    by_cases h4 : rs.length ≤ 4
    · cases hord : isOrd rs.length os
      · exact tb_arg1 ar ap cr cp rs ps p0 way step ao co os w hR' hP' hO (by omega) hv (.inr (.inr hord))
      · by_cases h0 : ps.length = 0
        · exact tb_none ar ap cr cp rs ps p0 way step ao co os w hR' hP' hO hv h4 hord h0
        · exact tb_ok ar ap cr cp rs ps p0 way step ao co os w hR' hP' hO hv h4 hord h0
    · exact tb_arg1 ar ap cr cp rs ps p0 way step ao co os w hR' hP' hO (by omega) hv (.inl (by omega))
end Go.Proofs.Ytknaljghpfeikaa
