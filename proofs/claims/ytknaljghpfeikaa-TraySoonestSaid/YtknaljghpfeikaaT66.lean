import Derived.Test.YtknaljghpfeikaaT65
namespace Go.Proofs.Ytknaljghpfeikaa
open Go.RowKit

theorem prs_nil (w : World) : Prs w none [] := ⟨by simp, fun x hx => (List.not_mem_nil hx).elim, fun i hi => by simp at hi⟩
/-- The two boxes of a statement: the tray's and its copy's. -/
structure TwoB (b0 b1 n m : Nat) (ar ap a1 a2 : Option Addr) (cr cp c1 c2 : Nat) (p0 way step : Int) (rs ps : List (Int × Int)) (w : World) : Prop where
  x0 : Bx w b0 #[.slice ar n cr, .int .i64 p0, .int .i64 way, .int .i64 step, .slice ap m cp] 25
  x1 : Bx w b1 #[.slice a1 n c1, .int .i64 p0, .int .i64 way, .int .i64 step, .slice a2 m c2] 25
  hR : Prs w ar rs
  hP : Prs w ap ps
  q1 : Prs w a1 rs
  q2 : Prs w a2 ps
theorem TwoB.below {b0 b1 n m : Nat} {ar ap a1 a2 : Option Addr} {cr cp c1 c2 : Nat} {p0 way step : Int} {rs ps : List (Int × Int)} {w w' : World} (h : TwoB b0 b1 n m ar ap a1 a2 cr cp c1 c2 p0 way step rs ps w) (hb : Below w.heap.size w w') : TwoB b0 b1 n m ar ap a1 a2 cr cp c1 c2 p0 way step rs ps w' :=
  ⟨h.x0.below hb, h.x1.below hb, h.hR.below hb (Nat.le_refl _), h.hP.below hb (Nat.le_refl _), h.q1.below hb (Nat.le_refl _), h.q2.below hb (Nat.le_refl _)⟩
/-- A copy's row reads as the row. -/
theorem copy_prs {w w0 : World} {B n c : Nat} {e : TypeId} {a a0 : Option Addr} {xs : List (Int × Int)} (h : w.ownsRow B e 2 (.slice a n c) n (pcells xs)) (hn : n = xs.length) (hl : n ≤ 40) (h0 : Prs w0 a0 xs) : Prs w a xs :=
  own_prsA8 h hn.symm (by omega) h0.2.1
set_option maxRecDepth 100000 in
set_option maxHeartbeats 1000000 in
theorem far_11 (ar ap : Option Addr) (cr cp : Nat) (rs ps : List (Int × Int)) (p0 way step : Int) (w : World) (hlr : rs.length ≤ 9223372036854775807) (hlp : ps.length ≤ 9223372036854775807) (hf : (decide (40 < rs.length) || decide (40 < ps.length)) = true) :
    Calls Try.prog 11 #[.agg #[.slice ar rs.length cr, .int .i64 p0, .int .i64 way, .int .i64 step, .slice ap ps.length cp]] w (WorksP w) := by
  obtain ⟨W, hW, hb, hs, x0⟩ := boxes1 w #[.slice ar rs.length cr, .int .i64 p0, .int .i64 way, .int .i64 step, .slice ap ps.length cp] 25
  clear hs
  have hfa := Far2_any ar ap cr cp rs ps p0 way step W hlr hlp
  rw [hf] at hfa
  have c0 := x0.cell 0 rfl; have c1 := x0.cell 1 rfl; have c2 := x0.cell 2 rfl; have c3 := x0.cell 3 rfl; have c4 := x0.cell 4 rfl
  clear hlr hlp hf
  go_enter Try.func11, Try.ntmps11
  go_wp2_with fail
  refine hfa.mono ?_
  rintro e W1 ⟨rfl, hb1⟩
  clear hW hfa
  (try clear c0 c1 c2 c3 c4); replace x0 := x0.below hb1; have c0 := x0.cell 0 rfl; have c1 := x0.cell 1 rfl; have c2 := x0.cell 2 rfl; have c3 := x0.cell 3 rfl; have c4 := x0.cell 4 rfl; replace hb := hb.trans (hb1.mono hb.size); clear hb1
  go_wp2_with fail
  refine (works_any _).mono ?_
  rintro e V3 ⟨rfl, hb1⟩
  replace hb := hb.trans (hb1.mono hb.size)
  clear hb1
  clear x0 c0 c1 c2 c3 c4
  go_wp2
  go_ret
  exact ⟨rfl, hb⟩
set_option maxRecDepth 100000 in
set_option maxHeartbeats 4000000 in
theorem plays_true (ar ap : Option Addr) (cr cp : Nat) (rs ps : List (Int × Int)) (p0 way step : Int) (w : World) (hR : Prs w ar rs) (hP : Prs w ap ps) (hl : rs.length ≤ 40 ∧ ps.length ≤ 40) (hv : trB rs ps p0 way step = true) : Calls Try.prog 11 #[.agg #[.slice ar rs.length cr, .int .i64 p0, .int .i64 way, .int .i64 step, .slice ap ps.length cp]] w (WorksP w) := by
  obtain ⟨n, hn⟩ : ∃ n, n = rs.length := ⟨_, rfl⟩
  obtain ⟨m, hm⟩ : ∃ m, m = ps.length := ⟨_, rfl⟩
  have HN := hid hn; have HM := hid hm
  have hcp := fun V h1 h2 => copy_any ar ap cr cp rs ps p0 way step V h1 h2 (by omega) (by omega)
  unfold CopyP at hcp
  rw [← hn, ← hm] at hcp hl ⊢
  obtain ⟨W, hW, hb, hs, x0⟩ := boxes1 w #[.slice ar n cr, .int .i64 p0, .int .i64 way, .int .i64 step, .slice ap m cp] 25
  clear hs
  have hfa := Far2_any ar ap cr cp rs ps p0 way step W (by omega) (by omega)
  rw [← hn, ← hm, show (decide (40 < n) || decide (40 < m)) = false by simp; omega] at hfa
  have hck := fun (aa ab : Option Addr) ca cb V h1 h2 => check_any aa ab ca cb rs ps p0 way step V h1 h2
  have hrc := fun V h1 h2 => rCheck_any ar ap cr cp rs ps p0 way step V h1 h2
  rw [hv] at hck hrc
  rw [← hn, ← hm] at hck hrc
  have hsm := fun aa ab ca cb V h1 h2 h3 h4 => Same_eq aa ab ca cb rs ps p0 way step ar ap cr cp V h1 h2 h3 h4
  rw [← hn, ← hm] at hsm
  have HV := hid hv
  have hnI : (n : Int) ≤ 40 := by omega
  have hmI : (m : Int) ≤ 40 := by omega
  obtain ⟨T, hT, _⟩ := tr_of hv
  obtain ⟨c, hc⟩ : ∃ c, c = runM T maxI := ⟨_, rfl⟩
  have hPl := fun (aa ab : Option Addr) ca cb V h1 h2 => Plays_ok aa ab ca cb rs ps p0 way step V h1 h2 hv T hT c hc
  have hPr := fun V h1 h2 => rPlays_ok ar ap cr cp rs ps p0 way step V h1 h2 hv T hT c hc
  have hSl := fun (aa ab : Option Addr) ca cb V h1 h2 => Steps_ok aa ab ca cb rs ps p0 way step V h1 h2 hv T hT c hc
  have hSr := fun V h1 h2 => rSteps_ok ar ap cr cp rs ps p0 way step V h1 h2 hv T hT c hc
  unfold PlaysP at hPl hPr
  unfold StepsP at hSl hSr
  obtain ⟨L, hL⟩ : ∃ L, L = c.plays := ⟨_, rfl⟩
  obtain ⟨st, hst⟩ : ∃ st, st = c.steps := ⟨_, rfl⟩
  have hsp := fun aa ab ca cb V h1 h2 => SamePlays_eq aa ab ca cb L V h1 h2
  obtain ⟨nl, hnl⟩ : ∃ nl, nl = L.length := ⟨_, rfl⟩
  rw [← hL] at hPl hPr
  rw [← hst] at hSl hSr
  rw [← hnl] at hPl hPr hsp
  rw [← hn, ← hm] at hPl hPr hSl hSr
  clear hc hT hL hst hnl
  have c0 := x0.cell 0 rfl; have c1 := x0.cell 1 rfl; have c2 := x0.cell 2 rfl; have c3 := x0.cell 3 rfl; have c4 := x0.cell 4 rfl
  clear hn hm hv
  go_enter Try.func11, Try.ntmps11
  go_wp2_with fail
  refine hfa.mono ?_
  rintro e W1 ⟨rfl, hb1⟩
  clear hW hfa
  (try clear c0 c1 c2 c3 c4); replace x0 := x0.below hb1; have c0 := x0.cell 0 rfl; have c1 := x0.cell 1 rfl; have c2 := x0.cell 2 rfl; have c3 := x0.cell 3 rfl; have c4 := x0.cell 4 rfl; replace hb := hb.trans (hb1.mono hb.size); clear hb1
  go_wp2_with fail
  refine (hcp _ (hR.below hb (Nat.le_refl _)) (hP.below hb (Nat.le_refl _))).mono ?_
  rintro e W2 ⟨hb1, a1, a2, e1, e2, rfl, own1, own2, _⟩
  clear hcp
  obtain ⟨W3, hW3, hbx, hsx, x1⟩ := boxes1 W2 #[.slice a1 n e1, .int .i64 p0, .int .i64 way, .int .i64 step, .slice a2 m e2] 25
  have HB2 := hid (show TwoB w.heap.size W2.heap.size n m ar ap a1 a2 cr cp e1 e2 p0 way step rs ps W3 from
    ⟨(x0.below hb1).below hbx, x1, hR.below (hb.trans ((hb1.trans (hbx.mono hb1.size)).mono hb.size)) (Nat.le_refl _), hP.below (hb.trans ((hb1.trans (hbx.mono hb1.size)).mono hb.size)) (Nat.le_refl _), (copy_prs own1 HN.out hl.1 hR).below hbx (Nat.le_refl _), (copy_prs own2 HM.out hl.2 hP).below hbx (Nat.le_refl _)⟩)
  replace hb := (hb.trans (hb1.mono hb.size)).trans (hbx.mono (hb.trans (hb1.mono hb.size)).size)
  clear own1 own2 hb1 hbx hsx x0 x1 c0 c1 c2 c3 c4
  go_upto_region 4 with fail
  clear hW3
  have hbd := (Below.refl W3.heap.size W3).drew
  have S0 := HB2.out.below hbd
  replace hb := hb.trans (hbd.mono hb.size)
  clear hbd HB2
  refine wp_region_head 4 (TwoB w.heap.size W2.heap.size n m ar ap a1 a2 cr cp e1 e2 p0 way step rs ps) (by kernel_rfl) rfl ?_
  generalize W3.drew = Y0 at *
  refine HeadAt.take (i := 0) (.agg #[.slice a1 n e1, .int .i64 p0, .int .i64 way, .int .i64 step, .slice a2 m e2]) rfl (by kernel_rfl) (.inl ⟨rfl, fun w' z => ?_⟩) S0 ?_
  · (have z0 := z.x1.cell 0 rfl; have z1 := z.x1.cell 1 rfl; have z2 := z.x1.cell 2 rfl; have z3 := z.x1.cell 3 rfl; have z4 := z.x1.cell 4 rfl; simp [go_sem, z0, z1, z2, z3, z4])
  refine HeadAt.take (i := 2) (.agg #[.slice ar n cr, .int .i64 p0, .int .i64 way, .int .i64 step, .slice ap m cp]) rfl (by kernel_rfl) (.inl ⟨rfl, fun w' z => ?_⟩) S0 ?_
  · (have z0 := z.x0.cell 0 rfl; have z1 := z.x0.cell 1 rfl; have z2 := z.x0.cell 2 rfl; have z3 := z.x0.cell 3 rfl; have z4 := z.x0.cell 4 rfl; simp [go_sem, z0, z1, z2, z3, z4])
  refine HeadAt.one (i := 1) rfl (by kernel_rfl) ?_
  generalize hK : Upto _ _ = K0
  (try simp only [Act.put, List.getElem_toArray, List.getElem_cons_succ, List.getElem_cons_zero, List.setIfInBounds_toArray, List.set_cons_succ, List.set_cons_zero])
  go_wp2_with fail
  refine (hck _ _ _ _ _ S0.q1 S0.q2).mono ?_
  rintro e W4 ⟨rfl, hb1⟩
  replace S0 := S0.below hb1
  replace hb := hb.trans (hb1.mono hb.size)
  clear hb1 hck
  go_wp2_with fail
  subst hK
  refine ⟨S0, ?_⟩
  refine HeadAt.one (i := 3) rfl (by kernel_rfl) ?_
  generalize hK : Upto _ _ = K0
  (try simp only [List.getElem_toArray, List.getElem_cons_succ, List.getElem_cons_zero])
  go_wp2_with fail
  refine (hrc _ S0.hR S0.hP).mono ?_
  rintro e W5 ⟨rfl, hb1⟩
  replace S0 := S0.below hb1
  replace hb := hb.trans (hb1.mono hb.size)
  clear hb1 hrc
  go_wp2_with fail
  subst hK
  refine ⟨S0, ?_⟩
  refine HeadAt.done (by kernel_rfl) ?_
  (try simp only [List.drop_succ_cons, List.drop_zero])
  have HB2 := hid S0
  clear S0
  go_wp2_with fail
  refine NoPanic.normal ?_
  have hb1 := Below.refl W5.heap.size W5
  replace HB2 := hid (HB2.out.below hb1)
  replace hb := hb.trans (hb1.mono hb.size)
  (try clear c0 c1 c2 c3 c4 d0 d1 d2 d3 d4)
  have c0 := HB2.out.x0.cell 0 rfl; have c1 := HB2.out.x0.cell 1 rfl; have c2 := HB2.out.x0.cell 2 rfl; have c3 := HB2.out.x0.cell 3 rfl; have c4 := HB2.out.x0.cell 4 rfl
  have d0 := HB2.out.x1.cell 0 rfl; have d1 := HB2.out.x1.cell 1 rfl; have d2 := HB2.out.x1.cell 2 rfl; have d3 := HB2.out.x1.cell 3 rfl; have d4 := HB2.out.x1.cell 4 rfl
  clear hb1
  go_wp2_with fail
  refine (hPl _ _ _ _ _ HB2.out.q1 HB2.out.q2).mono ?_
  rintro e V1 ⟨hb1, al, cl, rfl, r1⟩
  clear hPl
  replace HB2 := hid (HB2.out.below hb1)
  replace hb := hb.trans (hb1.mono hb.size)
  (try clear c0 c1 c2 c3 c4 d0 d1 d2 d3 d4)
  have c0 := HB2.out.x0.cell 0 rfl; have c1 := HB2.out.x0.cell 1 rfl; have c2 := HB2.out.x0.cell 2 rfl; have c3 := HB2.out.x0.cell 3 rfl; have c4 := HB2.out.x0.cell 4 rfl
  have d0 := HB2.out.x1.cell 0 rfl; have d1 := HB2.out.x1.cell 1 rfl; have d2 := HB2.out.x1.cell 2 rfl; have d3 := HB2.out.x1.cell 3 rfl; have d4 := HB2.out.x1.cell 4 rfl
  clear hb1
  go_wp2_with fail
  refine (hPr _ HB2.out.hR HB2.out.hP).mono ?_
  rintro e V2 ⟨hb1, am, cm, rfl, r2⟩
  clear hPr
  replace r1 := r1.below hb1 (Nat.le_refl _)
  replace HB2 := hid (HB2.out.below hb1)
  replace hb := hb.trans (hb1.mono hb.size)
  (try clear c0 c1 c2 c3 c4 d0 d1 d2 d3 d4)
  have c0 := HB2.out.x0.cell 0 rfl; have c1 := HB2.out.x0.cell 1 rfl; have c2 := HB2.out.x0.cell 2 rfl; have c3 := HB2.out.x0.cell 3 rfl; have c4 := HB2.out.x0.cell 4 rfl
  have d0 := HB2.out.x1.cell 0 rfl; have d1 := HB2.out.x1.cell 1 rfl; have d2 := HB2.out.x1.cell 2 rfl; have d3 := HB2.out.x1.cell 3 rfl; have d4 := HB2.out.x1.cell 4 rfl
  clear hb1
  go_wp2_with fail
  refine (hSl _ _ _ _ _ HB2.out.q1 HB2.out.q2).mono ?_
  rintro e V3 ⟨hb1, rfl⟩
  clear hSl
  replace r1 := r1.below hb1 (Nat.le_refl _); replace r2 := r2.below hb1 (Nat.le_refl _)
  replace HB2 := hid (HB2.out.below hb1)
  replace hb := hb.trans (hb1.mono hb.size)
  (try clear c0 c1 c2 c3 c4 d0 d1 d2 d3 d4)
  have c0 := HB2.out.x0.cell 0 rfl; have c1 := HB2.out.x0.cell 1 rfl; have c2 := HB2.out.x0.cell 2 rfl; have c3 := HB2.out.x0.cell 3 rfl; have c4 := HB2.out.x0.cell 4 rfl
  have d0 := HB2.out.x1.cell 0 rfl; have d1 := HB2.out.x1.cell 1 rfl; have d2 := HB2.out.x1.cell 2 rfl; have d3 := HB2.out.x1.cell 3 rfl; have d4 := HB2.out.x1.cell 4 rfl
  clear hb1
  go_wp2_with fail
  refine (hSr _ HB2.out.hR HB2.out.hP).mono ?_
  rintro e V4 ⟨hb1, rfl⟩
  clear hSr
  replace r1 := r1.below hb1 (Nat.le_refl _); replace r2 := r2.below hb1 (Nat.le_refl _)
  replace HB2 := hid (HB2.out.below hb1)
  replace hb := hb.trans (hb1.mono hb.size)
  (try clear c0 c1 c2 c3 c4 d0 d1 d2 d3 d4)
  have c0 := HB2.out.x0.cell 0 rfl; have c1 := HB2.out.x0.cell 1 rfl; have c2 := HB2.out.x0.cell 2 rfl; have c3 := HB2.out.x0.cell 3 rfl; have c4 := HB2.out.x0.cell 4 rfl
  have d0 := HB2.out.x1.cell 0 rfl; have d1 := HB2.out.x1.cell 1 rfl; have d2 := HB2.out.x1.cell 2 rfl; have d3 := HB2.out.x1.cell 3 rfl; have d4 := HB2.out.x1.cell 4 rfl
  clear hb1
  go_wp2_with fail
  refine (hsp _ _ _ _ _ r1 r2).mono ?_
  rintro e V5 ⟨rfl, hb1⟩
  clear hsp r1 r2
  replace HB2 := hid (HB2.out.below hb1)
  replace hb := hb.trans (hb1.mono hb.size)
  (try clear c0 c1 c2 c3 c4 d0 d1 d2 d3 d4)
  have c0 := HB2.out.x0.cell 0 rfl; have c1 := HB2.out.x0.cell 1 rfl; have c2 := HB2.out.x0.cell 2 rfl; have c3 := HB2.out.x0.cell 3 rfl; have c4 := HB2.out.x0.cell 4 rfl
  have d0 := HB2.out.x1.cell 0 rfl; have d1 := HB2.out.x1.cell 1 rfl; have d2 := HB2.out.x1.cell 2 rfl; have d3 := HB2.out.x1.cell 3 rfl; have d4 := HB2.out.x1.cell 4 rfl
  clear hb1
  go_wp2_with fail
  refine (hsm _ _ _ _ _ HB2.out.q1 HB2.out.q2 HB2.out.hR HB2.out.hP).mono ?_
  rintro e V6 ⟨rfl, hb1⟩
  clear hsm
  replace HB2 := hid (HB2.out.below hb1)
  replace hb := hb.trans (hb1.mono hb.size)
  (try clear c0 c1 c2 c3 c4 d0 d1 d2 d3 d4)
  have c0 := HB2.out.x0.cell 0 rfl; have c1 := HB2.out.x0.cell 1 rfl; have c2 := HB2.out.x0.cell 2 rfl; have c3 := HB2.out.x0.cell 3 rfl; have c4 := HB2.out.x0.cell 4 rfl
  have d0 := HB2.out.x1.cell 0 rfl; have d1 := HB2.out.x1.cell 1 rfl; have d2 := HB2.out.x1.cell 2 rfl; have d3 := HB2.out.x1.cell 3 rfl; have d4 := HB2.out.x1.cell 4 rfl
  clear hb1
  go_wp2_with fail
  refine (works_any _).mono ?_
  rintro e V3 ⟨rfl, hb1⟩
  replace hb := hb.trans (hb1.mono hb.size)
  clear hb1
  clear HB2 c0 c1 c2 c3 c4 d0 d1 d2 d3 d4
  go_wp2
  go_ret
  exact ⟨rfl, hb⟩
set_option maxRecDepth 100000 in
set_option maxHeartbeats 4000000 in
theorem plays_false (ar ap : Option Addr) (cr cp : Nat) (rs ps : List (Int × Int)) (p0 way step : Int) (w : World) (hR : Prs w ar rs) (hP : Prs w ap ps) (hl : rs.length ≤ 40 ∧ ps.length ≤ 40) (hv : trB rs ps p0 way step = false) : Calls Try.prog 11 #[.agg #[.slice ar rs.length cr, .int .i64 p0, .int .i64 way, .int .i64 step, .slice ap ps.length cp]] w (WorksP w) := by
  obtain ⟨n, hn⟩ : ∃ n, n = rs.length := ⟨_, rfl⟩
  obtain ⟨m, hm⟩ : ∃ m, m = ps.length := ⟨_, rfl⟩
  have HN := hid hn; have HM := hid hm
  have hcp := fun V h1 h2 => copy_any ar ap cr cp rs ps p0 way step V h1 h2 (by omega) (by omega)
  unfold CopyP at hcp
  rw [← hn, ← hm] at hcp hl ⊢
  obtain ⟨W, hW, hb, hs, x0⟩ := boxes1 w #[.slice ar n cr, .int .i64 p0, .int .i64 way, .int .i64 step, .slice ap m cp] 25
  clear hs
  have hfa := Far2_any ar ap cr cp rs ps p0 way step W (by omega) (by omega)
  rw [← hn, ← hm, show (decide (40 < n) || decide (40 < m)) = false by simp; omega] at hfa
  have hck := fun (aa ab : Option Addr) ca cb V h1 h2 => check_any aa ab ca cb rs ps p0 way step V h1 h2
  have hrc := fun V h1 h2 => rCheck_any ar ap cr cp rs ps p0 way step V h1 h2
  rw [hv] at hck hrc
  rw [← hn, ← hm] at hck hrc
  have hsm := fun aa ab ca cb V h1 h2 h3 h4 => Same_eq aa ab ca cb rs ps p0 way step ar ap cr cp V h1 h2 h3 h4
  rw [← hn, ← hm] at hsm
  have HV := hid hv
  have hnI : (n : Int) ≤ 40 := by omega
  have hmI : (m : Int) ≤ 40 := by omega
  have hPl := fun (aa ab : Option Addr) ca cb V h1 h2 => Plays_bad aa ab ca cb rs ps p0 way step V h1 h2 hv
  have hPr := fun V h1 h2 => rPlays_bad ar ap cr cp rs ps p0 way step V h1 h2 hv
  have hSl := fun (aa ab : Option Addr) ca cb V h1 h2 => Steps_bad aa ab ca cb rs ps p0 way step V h1 h2 hv
  have hSr := fun V h1 h2 => rSteps_bad ar ap cr cp rs ps p0 way step V h1 h2 hv
  have hsp : ∀ V, Calls Try.prog 25 #[.slice none 0 0, .slice none 0 0] V fun e w' => e = .returned (.bool true) ∧ Below V.heap.size V w' := fun V => SamePlays_eq none none 0 0 [] V (prs_nil V) (prs_nil V)
  rw [← hn, ← hm] at hPl hPr hSl hSr
  have c0 := x0.cell 0 rfl; have c1 := x0.cell 1 rfl; have c2 := x0.cell 2 rfl; have c3 := x0.cell 3 rfl; have c4 := x0.cell 4 rfl
  clear hn hm hv
  go_enter Try.func11, Try.ntmps11
  go_wp2_with fail
  refine hfa.mono ?_
  rintro e W1 ⟨rfl, hb1⟩
  clear hW hfa
  (try clear c0 c1 c2 c3 c4); replace x0 := x0.below hb1; have c0 := x0.cell 0 rfl; have c1 := x0.cell 1 rfl; have c2 := x0.cell 2 rfl; have c3 := x0.cell 3 rfl; have c4 := x0.cell 4 rfl; replace hb := hb.trans (hb1.mono hb.size); clear hb1
  go_wp2_with fail
  refine (hcp _ (hR.below hb (Nat.le_refl _)) (hP.below hb (Nat.le_refl _))).mono ?_
  rintro e W2 ⟨hb1, a1, a2, e1, e2, rfl, own1, own2, _⟩
  clear hcp
  obtain ⟨W3, hW3, hbx, hsx, x1⟩ := boxes1 W2 #[.slice a1 n e1, .int .i64 p0, .int .i64 way, .int .i64 step, .slice a2 m e2] 25
  have HB2 := hid (show TwoB w.heap.size W2.heap.size n m ar ap a1 a2 cr cp e1 e2 p0 way step rs ps W3 from
    ⟨(x0.below hb1).below hbx, x1, hR.below (hb.trans ((hb1.trans (hbx.mono hb1.size)).mono hb.size)) (Nat.le_refl _), hP.below (hb.trans ((hb1.trans (hbx.mono hb1.size)).mono hb.size)) (Nat.le_refl _), (copy_prs own1 HN.out hl.1 hR).below hbx (Nat.le_refl _), (copy_prs own2 HM.out hl.2 hP).below hbx (Nat.le_refl _)⟩)
  replace hb := (hb.trans (hb1.mono hb.size)).trans (hbx.mono (hb.trans (hb1.mono hb.size)).size)
  clear own1 own2 hb1 hbx hsx x0 x1 c0 c1 c2 c3 c4
  go_upto_region 4 with fail
  clear hW3
  have hbd := (Below.refl W3.heap.size W3).drew
  have S0 := HB2.out.below hbd
  replace hb := hb.trans (hbd.mono hb.size)
  clear hbd HB2
  refine wp_region_head 4 (TwoB w.heap.size W2.heap.size n m ar ap a1 a2 cr cp e1 e2 p0 way step rs ps) (by kernel_rfl) rfl ?_
  generalize W3.drew = Y0 at *
  refine HeadAt.take (i := 0) (.agg #[.slice a1 n e1, .int .i64 p0, .int .i64 way, .int .i64 step, .slice a2 m e2]) rfl (by kernel_rfl) (.inl ⟨rfl, fun w' z => ?_⟩) S0 ?_
  · (have z0 := z.x1.cell 0 rfl; have z1 := z.x1.cell 1 rfl; have z2 := z.x1.cell 2 rfl; have z3 := z.x1.cell 3 rfl; have z4 := z.x1.cell 4 rfl; simp [go_sem, z0, z1, z2, z3, z4])
  refine HeadAt.take (i := 2) (.agg #[.slice ar n cr, .int .i64 p0, .int .i64 way, .int .i64 step, .slice ap m cp]) rfl (by kernel_rfl) (.inl ⟨rfl, fun w' z => ?_⟩) S0 ?_
  · (have z0 := z.x0.cell 0 rfl; have z1 := z.x0.cell 1 rfl; have z2 := z.x0.cell 2 rfl; have z3 := z.x0.cell 3 rfl; have z4 := z.x0.cell 4 rfl; simp [go_sem, z0, z1, z2, z3, z4])
  refine HeadAt.one (i := 1) rfl (by kernel_rfl) ?_
  generalize hK : Upto _ _ = K0
  (try simp only [Act.put, List.getElem_toArray, List.getElem_cons_succ, List.getElem_cons_zero, List.setIfInBounds_toArray, List.set_cons_succ, List.set_cons_zero])
  go_wp2_with fail
  refine (hck _ _ _ _ _ S0.q1 S0.q2).mono ?_
  rintro e W4 ⟨rfl, hb1⟩
  replace S0 := S0.below hb1
  replace hb := hb.trans (hb1.mono hb.size)
  clear hb1 hck
  go_wp2_with fail
  subst hK
  refine ⟨S0, ?_⟩
  refine HeadAt.one (i := 3) rfl (by kernel_rfl) ?_
  generalize hK : Upto _ _ = K0
  (try simp only [List.getElem_toArray, List.getElem_cons_succ, List.getElem_cons_zero])
  go_wp2_with fail
  refine (hrc _ S0.hR S0.hP).mono ?_
  rintro e W5 ⟨rfl, hb1⟩
  replace S0 := S0.below hb1
  replace hb := hb.trans (hb1.mono hb.size)
  clear hb1 hrc
  go_wp2_with fail
  subst hK
  refine ⟨S0, ?_⟩
  refine HeadAt.done (by kernel_rfl) ?_
  (try simp only [List.drop_succ_cons, List.drop_zero])
  have HB2 := hid S0
  clear S0
  go_wp2_with fail
  refine NoPanic.normal ?_
  have hb1 := Below.refl W5.heap.size W5
  replace HB2 := hid (HB2.out.below hb1)
  replace hb := hb.trans (hb1.mono hb.size)
  (try clear c0 c1 c2 c3 c4 d0 d1 d2 d3 d4)
  have c0 := HB2.out.x0.cell 0 rfl; have c1 := HB2.out.x0.cell 1 rfl; have c2 := HB2.out.x0.cell 2 rfl; have c3 := HB2.out.x0.cell 3 rfl; have c4 := HB2.out.x0.cell 4 rfl
  have d0 := HB2.out.x1.cell 0 rfl; have d1 := HB2.out.x1.cell 1 rfl; have d2 := HB2.out.x1.cell 2 rfl; have d3 := HB2.out.x1.cell 3 rfl; have d4 := HB2.out.x1.cell 4 rfl
  clear hb1
  go_wp2_with fail
  refine (hPl _ _ _ _ _ HB2.out.q1 HB2.out.q2).mono ?_
  rintro e V1 ⟨rfl, hb1⟩
  clear hPl
  replace HB2 := hid (HB2.out.below hb1)
  replace hb := hb.trans (hb1.mono hb.size)
  (try clear c0 c1 c2 c3 c4 d0 d1 d2 d3 d4)
  have c0 := HB2.out.x0.cell 0 rfl; have c1 := HB2.out.x0.cell 1 rfl; have c2 := HB2.out.x0.cell 2 rfl; have c3 := HB2.out.x0.cell 3 rfl; have c4 := HB2.out.x0.cell 4 rfl
  have d0 := HB2.out.x1.cell 0 rfl; have d1 := HB2.out.x1.cell 1 rfl; have d2 := HB2.out.x1.cell 2 rfl; have d3 := HB2.out.x1.cell 3 rfl; have d4 := HB2.out.x1.cell 4 rfl
  clear hb1
  go_wp2_with fail
  refine (hPr _ HB2.out.hR HB2.out.hP).mono ?_
  rintro e V2 ⟨rfl, hb1⟩
  clear hPr
  replace HB2 := hid (HB2.out.below hb1)
  replace hb := hb.trans (hb1.mono hb.size)
  (try clear c0 c1 c2 c3 c4 d0 d1 d2 d3 d4)
  have c0 := HB2.out.x0.cell 0 rfl; have c1 := HB2.out.x0.cell 1 rfl; have c2 := HB2.out.x0.cell 2 rfl; have c3 := HB2.out.x0.cell 3 rfl; have c4 := HB2.out.x0.cell 4 rfl
  have d0 := HB2.out.x1.cell 0 rfl; have d1 := HB2.out.x1.cell 1 rfl; have d2 := HB2.out.x1.cell 2 rfl; have d3 := HB2.out.x1.cell 3 rfl; have d4 := HB2.out.x1.cell 4 rfl
  clear hb1
  go_wp2_with fail
  refine (hSl _ _ _ _ _ HB2.out.q1 HB2.out.q2).mono ?_
  rintro e V3 ⟨rfl, hb1⟩
  clear hSl
  replace HB2 := hid (HB2.out.below hb1)
  replace hb := hb.trans (hb1.mono hb.size)
  (try clear c0 c1 c2 c3 c4 d0 d1 d2 d3 d4)
  have c0 := HB2.out.x0.cell 0 rfl; have c1 := HB2.out.x0.cell 1 rfl; have c2 := HB2.out.x0.cell 2 rfl; have c3 := HB2.out.x0.cell 3 rfl; have c4 := HB2.out.x0.cell 4 rfl
  have d0 := HB2.out.x1.cell 0 rfl; have d1 := HB2.out.x1.cell 1 rfl; have d2 := HB2.out.x1.cell 2 rfl; have d3 := HB2.out.x1.cell 3 rfl; have d4 := HB2.out.x1.cell 4 rfl
  clear hb1
  go_wp2_with fail
  refine (hSr _ HB2.out.hR HB2.out.hP).mono ?_
  rintro e V4 ⟨rfl, hb1⟩
  clear hSr
  replace HB2 := hid (HB2.out.below hb1)
  replace hb := hb.trans (hb1.mono hb.size)
  (try clear c0 c1 c2 c3 c4 d0 d1 d2 d3 d4)
  have c0 := HB2.out.x0.cell 0 rfl; have c1 := HB2.out.x0.cell 1 rfl; have c2 := HB2.out.x0.cell 2 rfl; have c3 := HB2.out.x0.cell 3 rfl; have c4 := HB2.out.x0.cell 4 rfl
  have d0 := HB2.out.x1.cell 0 rfl; have d1 := HB2.out.x1.cell 1 rfl; have d2 := HB2.out.x1.cell 2 rfl; have d3 := HB2.out.x1.cell 3 rfl; have d4 := HB2.out.x1.cell 4 rfl
  clear hb1
  go_wp2_with fail
  refine (hsp _).mono ?_
  rintro e V5 ⟨rfl, hb1⟩
  clear hsp
  replace HB2 := hid (HB2.out.below hb1)
  replace hb := hb.trans (hb1.mono hb.size)
  (try clear c0 c1 c2 c3 c4 d0 d1 d2 d3 d4)
  have c0 := HB2.out.x0.cell 0 rfl; have c1 := HB2.out.x0.cell 1 rfl; have c2 := HB2.out.x0.cell 2 rfl; have c3 := HB2.out.x0.cell 3 rfl; have c4 := HB2.out.x0.cell 4 rfl
  have d0 := HB2.out.x1.cell 0 rfl; have d1 := HB2.out.x1.cell 1 rfl; have d2 := HB2.out.x1.cell 2 rfl; have d3 := HB2.out.x1.cell 3 rfl; have d4 := HB2.out.x1.cell 4 rfl
  clear hb1
  go_wp2_with fail
  refine (hsm _ _ _ _ _ HB2.out.q1 HB2.out.q2 HB2.out.hR HB2.out.hP).mono ?_
  rintro e V6 ⟨rfl, hb1⟩
  clear hsm
  replace HB2 := hid (HB2.out.below hb1)
  replace hb := hb.trans (hb1.mono hb.size)
  (try clear c0 c1 c2 c3 c4 d0 d1 d2 d3 d4)
  have c0 := HB2.out.x0.cell 0 rfl; have c1 := HB2.out.x0.cell 1 rfl; have c2 := HB2.out.x0.cell 2 rfl; have c3 := HB2.out.x0.cell 3 rfl; have c4 := HB2.out.x0.cell 4 rfl
  have d0 := HB2.out.x1.cell 0 rfl; have d1 := HB2.out.x1.cell 1 rfl; have d2 := HB2.out.x1.cell 2 rfl; have d3 := HB2.out.x1.cell 3 rfl; have d4 := HB2.out.x1.cell 4 rfl
  clear hb1
  go_wp2_with fail
  refine (works_any _).mono ?_
  rintro e V3 ⟨rfl, hb1⟩
  replace hb := hb.trans (hb1.mono hb.size)
  clear hb1
  clear HB2 c0 c1 c2 c3 c4 d0 d1 d2 d3 d4
  go_wp2
  go_ret
  exact ⟨rfl, hb⟩
theorem tplays_any (ar ap : Option Addr) (cr cp : Nat) (rs ps : List (Int × Int)) (p0 way step : Int) (w : World) (hlr : rs.length ≤ 9223372036854775807) (hlp : ps.length ≤ 9223372036854775807) (hR : rs.length ≤ 1000 → Prs w ar rs) (hP : ps.length ≤ 1000 → Prs w ap ps) :
    Calls Try.prog 11 #[.agg #[.slice ar rs.length cr, .int .i64 p0, .int .i64 way, .int .i64 step, .slice ap ps.length cp]] w (WorksP w) := by
  cases hf : (decide (40 < rs.length) || decide (40 < ps.length))
  · simp only [Bool.or_eq_false_iff, decide_eq_false_iff_not] at hf
    have hl : rs.length ≤ 40 ∧ ps.length ≤ 40 := by omega
    cases hv : trB rs ps p0 way step
    · exact plays_false ar ap cr cp rs ps p0 way step w (hR (by omega)) (hP (by omega)) hl hv
    · exact plays_true ar ap cr cp rs ps p0 way step w (hR (by omega)) (hP (by omega)) hl hv
  · exact far_11 ar ap cr cp rs ps p0 way step w hlr hlp hf
end Go.Proofs.Ytknaljghpfeikaa
