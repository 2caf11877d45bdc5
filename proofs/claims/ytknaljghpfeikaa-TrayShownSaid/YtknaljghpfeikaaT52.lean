import Derived.Test.YtknaljghpfeikaaT51
namespace Go.Proofs.Ytknaljghpfeikaa
open Go.RowKit

theorem rdB_6s {rs ps : List (Int × Int)} {p0 way step : Int} (h : trB rs ps p0 way step = true) : rs.length ≤ 6 ∧ ps.length ≤ 12 ∧ 1 ≤ rs.length := by
  unfold trB at h
  simp only [Bool.and_eq_true, decide_eq_true_eq, inR_iff] at h
  omega

set_option maxRecDepth 100000 in
set_option maxHeartbeats 1000000 in
theorem sh_arg0 (ar ap : Option Addr) (cr cp : Nat) (rs ps : List (Int × Int)) (p0 way step : Int) (time : Int) (w : World) (hlr : rs.length ≤ 9223372036854775807) (hlp : ps.length ≤ 9223372036854775807) (hR : rs.length ≤ 1000 → Prs w ar rs) (hP : ps.length ≤ 1000 → Prs w ap ps) (hv : rdB rs ps p0 way step = false) :
    Calls Try.prog 8 #[.agg #[.slice ar rs.length cr, .int .i64 p0, .int .i64 way, .int .i64 step, .slice ap ps.length cp], .int .i64 time] w (WorksP w) := by
  obtain ⟨W, hW, hb, hs, x0⟩ := boxes1 w #[.slice ar rs.length cr, .int .i64 p0, .int .i64 way, .int .i64 step, .slice ap ps.length cp] 25
  clear hs
  have hrd := ready_any ar ap cr cp rs ps p0 way step W hlr hlp (fun h => (hR h).below hb (Nat.le_refl _)) (fun h => (hP h).below hb (Nat.le_refl _))
  rw [hv] at hrd
  have c0 := x0.cell 0 rfl; have c1 := x0.cell 1 rfl; have c2 := x0.cell 2 rfl; have c3 := x0.cell 3 rfl; have c4 := x0.cell 4 rfl
  clear hR hP hlr hlp hv
  go_enter Try.func8, Try.ntmps8
  go_wp2_with fail
  refine hrd.mono ?_
  rintro e W1 ⟨rfl, hb1⟩
  clear hW hrd
  (try clear c0 c1 c2 c3 c4); replace x0 := x0.below hb1; have c0 := x0.cell 0 rfl; have c1 := x0.cell 1 rfl; have c2 := x0.cell 2 rfl; have c3 := x0.cell 3 rfl; have c4 := x0.cell 4 rfl; replace hb := hb.trans (hb1.mono hb.size); clear hb1
  go_wp2_with fail
  refine (works_any _).mono ?_
  rintro e V3 ⟨rfl, hb1⟩
  replace hb := hb.trans (hb1.mono hb.size)
  clear hb1
  clear x0 c0 c1 c2 c3 c4
  go_wp2
  go_ret
  exact ⟨rfl, hb⟩
set_option maxRecDepth 100000 in
set_option maxHeartbeats 1000000 in
theorem sh_arg1 (ar ap : Option Addr) (cr cp : Nat) (rs ps : List (Int × Int)) (p0 way step : Int) (time : Int) (w : World) (hR : Prs w ar rs) (hP : Prs w ap ps) (hl : ps.length ≤ 40 ∧ rs.length ≤ 40) (hv : rdB rs ps p0 way step = true) (hit : inR 0 time 9999 = false) :
    Calls Try.prog 8 #[.agg #[.slice ar rs.length cr, .int .i64 p0, .int .i64 way, .int .i64 step, .slice ap ps.length cp], .int .i64 time] w (WorksP w) := by
  obtain ⟨W, hW, hb, hs, x0⟩ := boxes1 w #[.slice ar rs.length cr, .int .i64 p0, .int .i64 way, .int .i64 step, .slice ap ps.length cp] 25
  clear hs
  have hrd := ready_any ar ap cr cp rs ps p0 way step W (by omega) (by omega) (fun h => hR.below hb (Nat.le_refl _)) (fun h => hP.below hb (Nat.le_refl _))
  rw [hv] at hrd
  have c0 := x0.cell 0 rfl; have c1 := x0.cell 1 rfl; have c2 := x0.cell 2 rfl; have c3 := x0.cell 3 rfl; have c4 := x0.cell 4 rfl
  clear hR hP hv hl
  go_enter Try.func8, Try.ntmps8
  go_wp2_with fail
  refine hrd.mono ?_
  rintro e W1 ⟨rfl, hb1⟩
  clear hW hrd
  (try clear c0 c1 c2 c3 c4); replace x0 := x0.below hb1; have c0 := x0.cell 0 rfl; have c1 := x0.cell 1 rfl; have c2 := x0.cell 2 rfl; have c3 := x0.cell 3 rfl; have c4 := x0.cell 4 rfl; replace hb := hb.trans (hb1.mono hb.size); clear hb1
  go_wp2_with fail
  refine (refTime_any _ _).mono ?_
  rintro e W3 ⟨rfl, rfl⟩
  rw [hit]
  go_wp2_with fail
  refine (works_any _).mono ?_
  rintro e V3 ⟨rfl, hb1⟩
  replace hb := hb.trans (hb1.mono hb.size)
  clear hb1
  clear x0 c0 c1 c2 c3 c4
  go_wp2
  go_ret
  exact ⟨rfl, hb⟩
/-- What the region reads. -/
structure ShS (b0 : Nat) (vs : Array Value) (au at' : Addr) (u t : Int) (w : World) : Prop where
  x : Bx w b0 vs 25
  u : w.cell? au = some (.int .i64 u)
  t : w.cell? at' = some (.int .i64 t)
theorem ShS.below {b0 : Nat} {vs : Array Value} {au at' : Addr} {u t : Int} {w w' : World} (h : ShS b0 vs au at' u t w) (hb : Below w.heap.size w w') : ShS b0 vs au at' u t w' :=
  ⟨h.x.below hb, Below.keep hb h.u, Below.keep hb h.t⟩

set_option maxRecDepth 100000 in
set_option maxHeartbeats 8000000 in
theorem sh_true (ar ap : Option Addr) (cr cp : Nat) (rs ps : List (Int × Int)) (p0 way step : Int) (time : Int) (w : World) (hR : Prs w ar rs) (hP : Prs w ap ps) (hv : rdB rs ps p0 way step = true) (hit : inR 0 time 9999 = true) (T : Tr) (hT : IsTr T rs ps p0 way step) (hup : (runM T (time + 1)).up = true) :
    Calls Try.prog 8 #[.agg #[.slice ar rs.length cr, .int .i64 p0, .int .i64 way, .int .i64 step, .slice ap ps.length cp], .int .i64 time] w (WorksP w) := by
  obtain ⟨hr6, hp12, hr1⟩ := rdB_6s (rdB_len hv)
  obtain ⟨W, hW, hb, hs, x0⟩ := boxes1 w #[.slice ar rs.length cr, .int .i64 p0, .int .i64 way, .int .i64 step, .slice ap ps.length cp] 25
  clear hs
  have hrd := ready_any ar ap cr cp rs ps p0 way step W (by omega) (by omega) (fun h => hR.below hb (Nat.le_refl _)) (fun h => hP.below hb (Nat.le_refl _))
  rw [hv] at hrd
  have hvt := rdB_len hv
  have hyI := inR_iff.1 hit
  have hVT := hT.hv
  have hSt := fun V h1 h2 => Stand_ok ar ap cr cp rs ps p0 way step time V h1 h2 hvt hit T hT (runM T (time + 1)) rfl
  obtain ⟨hwant, hside⟩ := shown hVT hyI
  have hrg := (rng_run hVT (b := time + 1) (by unfold maxI; omega)).inv
  have hpos := hrg.pos
  rw [hT.T1] at hpos
  have hsd := hrg.sd
  rw [hT.T1] at hsd
  unfold standV at hSt
  rw [hup] at hSt hside
  obtain ⟨p, hp⟩ : ∃ p, p = (runM T (time + 1)).pos := ⟨_, rfl⟩
  obtain ⟨z2, hz2⟩ : ∃ z, z = (runM T (time + 1)).side := ⟨_, rfl⟩
  rw [← hp, ← hz2] at hSt
  rw [← hp] at hside hpos
  rw [← hz2] at hwant hside hsd
  have hSt' : ∀ V, Prs V ar rs → Prs V ap ps → Calls Try.prog 30 #[.agg #[.slice ar rs.length cr, .int .i64 p0, .int .i64 way, .int .i64 step, .slice ap ps.length cp], .int .i64 time] V fun e w' => e = .returned (.tuple #[.agg #[.int .i64 (p : Nat), .int .i64 (1), .int .i64 z2], .int .i64 0]) ∧ Below V.heap.size V w' := hSt
  have hc1 := cn_run hVT (Int.le_refl maxI)
  have htm := plays_time hVT
  have hPl := fun V h1 h2 => Plays_ok ar ap cr cp rs ps p0 way step V h1 h2 hvt T hT (runM T maxI) rfl
  unfold PlaysP at hPl
  obtain ⟨c, hc⟩ : ∃ c, c = runM T maxI := ⟨_, rfl⟩
  rw [← hc] at hPl hc1 htm hwant
  have hlen : c.plays.length ≤ ps.length := by have := hc1.n; rw [hT.T2] at this; omega
  have hsecs : ∀ k, k < 2 * rs.length → 0 ≤ secs T k ∧ secs T k ≤ 999 := fun k hk => by have := secs_le hVT (k := k) (by rw [hT.T1]; exact hk); omega
  have hsan := fun al cl V h1 h2 h3 => sane_ok al cl c.plays ar ap cr cp rs ps p0 way step V h1 h2 h3 T hT.T1 hr6 hlen hp12 (fun q hq => by have h1 := hc1.d q hq; have h2 := htm q hq; rw [hT.T1] at h1; omega) c.time hc1.s hsecs
  have hsd0 : ∀ q ∈ c.plays, 0 ≤ q.1 ∧ q.1 < 2 * (rs.length : Int) ∧ 0 ≤ q.2 ∧ q.2 ≤ 1000000 := fun q hq => by have h1 := hc1.d q hq; have h2 := htm q hq; rw [hT.T1] at h1; omega
  obtain ⟨L, hL⟩ : ∃ L, L = c.plays := ⟨_, rfl⟩
  rw [← hL] at hPl hsan hwant hlen hsd0
  have HW := hid hwant; have HSI := hid hside; have HSD := hid hsd0; have HSE := hid hsecs
  have hT1 := hT.T1
  have hsc := fun q hq V h1 h2 => Seconds_any ar ap cr cp rs ps p0 way step q V h1 h2 T hT1 hq hr6
  have HSC := hid hsc
  obtain ⟨n, hn⟩ : ∃ n, n = L.length := ⟨_, rfl⟩
  have HN := hid hn
  rw [← hn] at hPl hlen hsan
  have hnI : (n : Int) ≤ 12 := by omega
  have hpI : (p : Int) < (rs.length : Int) := by omega
  have hp0 : (0 : Int) ≤ (p : Int) := by omega
  have hrI : (rs.length : Int) ≤ 6 := by omega
  have hd1 : decide ((p : Int) < 0) = false := by simp
  have hd2 : decide ((rs.length : Int) ≤ (p : Int)) = false := by simp; omega
  have hd3 : decide (rs.length ≤ p) = false := by simp; omega
  have c0 := x0.cell 0 rfl; have c1 := x0.cell 1 rfl; have c2 := x0.cell 2 rfl; have c3 := x0.cell 3 rfl; have c4 := x0.cell 4 rfl
  clear hv hvt hVT hSt hwant hside hsd hrg hp hz2 hc1 htm hc hsecs hsd0 hL hT1 hsc hn hup
  go_enter Try.func8, Try.ntmps8
  go_wp2_with fail
  refine hrd.mono ?_
  rintro e W1 ⟨rfl, hb1⟩
  clear hW hrd
  (try clear c0 c1 c2 c3 c4); replace x0 := x0.below hb1; have c0 := x0.cell 0 rfl; have c1 := x0.cell 1 rfl; have c2 := x0.cell 2 rfl; have c3 := x0.cell 3 rfl; have c4 := x0.cell 4 rfl; replace hb := hb.trans (hb1.mono hb.size); clear hb1
  go_wp2_with fail
  refine (refTime_any _ _).mono ?_
  rintro e W3 ⟨rfl, rfl⟩
  rw [hit]
  clear hit
  go_wp2_with fail
  refine (hSt' _ (hR.below hb (Nat.le_refl _)) (hP.below hb (Nat.le_refl _))).mono ?_
  rintro e V1 ⟨rfl, hb1⟩
  obtain ⟨V2, hV2, hbx, hsx, x5⟩ := boxes1 V1 #[.int .i64 (p : Int), .int .i64 (1), .int .i64 z2] 50
  replace hb1 := hb1.trans (hbx.mono hb1.size)
  (try clear c0 c1 c2 c3 c4); replace x0 := x0.below hb1; have c0 := x0.cell 0 rfl; have c1 := x0.cell 1 rfl; have c2 := x0.cell 2 rfl; have c3 := x0.cell 3 rfl; have c4 := x0.cell 4 rfl; replace hb := hb.trans (hb1.mono hb.size); clear hb1
  clear hSt' hsx hbx
  go_wp2_with fail
  refine (hPl _ (hR.below hb (Nat.le_refl _)) (hP.below hb (Nat.le_refl _))).mono ?_
  rintro e V3 ⟨hb1, al, cl, rfl, r1⟩
  clear hV2
  replace x5 := x5.below hb1; (try clear c0 c1 c2 c3 c4); replace x0 := x0.below hb1; have c0 := x0.cell 0 rfl; have c1 := x0.cell 1 rfl; have c2 := x0.cell 2 rfl; have c3 := x0.cell 3 rfl; have c4 := x0.cell 4 rfl; replace hb := hb.trans (hb1.mono hb.size); clear hb1
  clear hPl
  go_wp2_with fail
  refine (hsan al cl _ (hR.below hb (Nat.le_refl _)) (hP.below hb (Nat.le_refl _)) r1).mono ?_
  rintro e V4 ⟨rfl, hb1⟩
  replace r1 := r1.below hb1 (Nat.le_refl _); (try clear c0 c1 c2 c3 c4); replace x0 := x0.below hb1; have c0 := x0.cell 0 rfl; have c1 := x0.cell 1 rfl; have c2 := x0.cell 2 rfl; have c3 := x0.cell 3 rfl; have c4 := x0.cell 4 rfl; (try clear d0 d1 d2); replace x5 := x5.below hb1; have d0 := x5.cell 0 rfl; have d1 := x5.cell 1 rfl; have d2 := x5.cell 2 rfl; replace hb := hb.trans (hb1.mono hb.size); clear hb1
  clear hsan
  go_wp2
  clear hd1 hd2 hd3 c0 c1 c2 c3 c4 d0 d1 d2
  go_loopw [9, 10] (fun v9 v10 wr => ∃ (i : Nat) (a : Int), Hid (a = (L.take i).foldl (wantF T time) (-1)) ∧ i ≤ n ∧ v9 = .int .i64 a ∧ v10 = .int .i64 (i : Int) ∧ Below V4.heap.size V4 wr) (fun _ v10 _ => n - (intOf v10).toNat)
  case atStart => exact ⟨0, -1, hid rfl, Nat.zero_le _, rfl, rfl, Below.refl _ _⟩
  case round =>
    obtain ⟨i, a, HA, hi, rfl, rfl, hb1⟩ := hrel
    have hbr := hb.trans (hb1.mono hb.size)
    have x0r := x0.below hb1
    have r1r := r1.below hb1 (Nat.le_refl _)
    by_cases hlt : i < n
    · have hiI : (i : Int) < (n : Int) := by omega
      have hi0 : (0 : Int) ≤ (i : Int) := by omega
      obtain ⟨b, off, u, t, rfl, _, g0, g1, _, _, hx, _⟩ := r1r.at (show i < L.length by rw [← HN.out]; exact hlt)
      have hut := HSD.out (u, t) (List.mem_of_getElem? hx.out)
      dsimp only at hut
      obtain ⟨q, rfl⟩ : ∃ q : Nat, u = (q : Int) := ⟨u.toNat, by omega⟩
      have hsb := HSE.out q (by omega)
      have hsc := HSC.out q (by omega)
      have htk := take_snocI hx.out
      obtain ⟨sc, hscv⟩ : ∃ sc, sc = secs T q := ⟨_, rfl⟩
      rw [← hscv] at hsc hsb
      have hst : (L.take (i + 1)).foldl (wantF T time) (-1) = if t ≤ time ∧ time < t + sc then (q : Int) else a := by
        rw [htk, List.foldl_append, ← HA.out]
        show wantF T time a ((q : Int), t) = _
        unfold wantF
        dsimp only
        rw [Int.toNat_natCast, ← hscv]
      have HST := hid hst
      have ewt : IntKind.i64.wrap (t + sc) = t + sc := IntWalk.i64_in _ (by omega)
      clear hst htk hscv hx
      go_upto_region 11 with fail
      have hbd := (Below.refl wr.heap.size wr).drew
      have hbr2 := hbr.trans (hbd.mono hbr.size)
      have hRc := hR.below hbr2 (Nat.le_refl _); have hPc := hP.below hbr2 (Nat.le_refl _)
      have S0 : ShS w.heap.size #[.slice ar rs.length cr, .int .i64 p0, .int .i64 way, .int .i64 step, .slice ap ps.length cp] ⟨b, off + i * 2, none⟩ ⟨b, off + i * 2 + 1, none⟩ (q : Int) t wr.drew := ⟨x0r.below hbd, Below.keep hbd g0, Below.keep hbd g1⟩
      replace hb1 := hb1.trans (hbd.mono hb1.size)
      clear hbd x0r hbr hbr2 r1r
      refine wp_region_head 23 (ShS w.heap.size #[.slice ar rs.length cr, .int .i64 p0, .int .i64 way, .int .i64 step, .slice ap ps.length cp] ⟨b, off + i * 2, none⟩ ⟨b, off + i * 2 + 1, none⟩ (q : Int) t) (by kernel_rfl) rfl ?_
      generalize wr.drew = Y0 at *
      refine HeadAt.take (i := 0) (.slice (some ⟨b, off, none⟩) n cl) rfl (by kernel_rfl) (.inl ⟨rfl, fun _ _ => by simp [go_sem]⟩) S0 ?_
      refine HeadAt.take (i := 1) (.int .i64 (i : Int)) rfl (by kernel_rfl) (.inl ⟨rfl, fun _ _ => by simp [go_sem]⟩) S0 ?_
      refine HeadAt.take (i := 2) (.pointer (some ⟨b, off + i * 2, none⟩)) rfl (by kernel_rfl) (.inl ⟨rfl, fun w' z => ?_⟩) S0 ?_
      · (simp [go_sem, hiI, hi0])
      simp only [Act.put, List.getElem_toArray, List.getElem_cons_succ, List.getElem_cons_zero, List.setIfInBounds_toArray, List.set_cons_succ, List.set_cons_zero]
      refine HeadAt.take (i := 3) (.pointer (some ⟨b, off + i * 2 + 1, none⟩)) rfl (by kernel_rfl) (.inl ⟨rfl, fun _ _ => by simp [go_sem]⟩) S0 ?_
      refine HeadAt.take (i := 4) (.int .i64 t) rfl (by kernel_rfl) (.inl ⟨rfl, fun w' z => ?_⟩) S0 ?_
      · (simp [go_sem, z.t])
      refine HeadAt.take (i := 5) (.int .i64 time) rfl (by kernel_rfl) (.inl ⟨rfl, fun _ _ => by simp [go_sem]⟩) S0 ?_
      simp only [Act.put, List.getElem_toArray, List.getElem_cons_succ, List.getElem_cons_zero, List.setIfInBounds_toArray, List.set_cons_succ, List.set_cons_zero]
      by_cases h1 : t ≤ time
      · have h1d : decide (t ≤ time) = true := by simp [h1]
        refine HeadAt.take (i := 6) (.bool true) rfl (by kernel_rfl) (.inl ⟨rfl, fun w' z => ?_⟩) S0 ?_
        · (simp [go_sem, h1d])
        refine HeadAt.take (i := 7) (.bool true) rfl (by kernel_rfl) (.inl ⟨rfl, fun _ _ => by simp [go_sem]⟩) S0 ?_
        refine HeadAt.take (i := 8) (.int .i64 time) rfl (by kernel_rfl) (.inl ⟨rfl, fun _ _ => by simp [go_sem]⟩) S0 ?_
        simp only [Act.put, List.getElem_toArray, List.getElem_cons_succ, List.getElem_cons_zero, List.setIfInBounds_toArray, List.set_cons_succ, List.set_cons_zero]
        refine HeadAt.take (i := 9) (.slice (some ⟨b, off, none⟩) n cl) rfl (by kernel_rfl) (.inl ⟨rfl, fun _ _ => by simp [go_sem]⟩) S0 ?_
        refine HeadAt.take (i := 10) (.int .i64 (i : Int)) rfl (by kernel_rfl) (.inl ⟨rfl, fun _ _ => by simp [go_sem]⟩) S0 ?_
        refine HeadAt.take (i := 11) (.pointer (some ⟨b, off + i * 2, none⟩)) rfl (by kernel_rfl) (.inl ⟨rfl, fun w' z => ?_⟩) S0 ?_
        · (simp [go_sem, hiI, hi0])
        simp only [Act.put, List.getElem_toArray, List.getElem_cons_succ, List.getElem_cons_zero, List.setIfInBounds_toArray, List.set_cons_succ, List.set_cons_zero]
        refine HeadAt.take (i := 12) (.pointer (some ⟨b, off + i * 2 + 1, none⟩)) rfl (by kernel_rfl) (.inl ⟨rfl, fun _ _ => by simp [go_sem]⟩) S0 ?_
        refine HeadAt.take (i := 13) (.int .i64 t) rfl (by kernel_rfl) (.inl ⟨rfl, fun w' z => ?_⟩) S0 ?_
        · (simp [go_sem, z.t])
        refine HeadAt.take (i := 14) (.agg #[.slice ar rs.length cr, .int .i64 p0, .int .i64 way, .int .i64 step, .slice ap ps.length cp]) rfl (by kernel_rfl) (.inl ⟨rfl, fun w' z => ?_⟩) S0 ?_
        · (have z0 := z.x.cell 0 rfl; have z1 := z.x.cell 1 rfl; have z2 := z.x.cell 2 rfl; have z3 := z.x.cell 3 rfl; have z4 := z.x.cell 4 rfl; simp [go_sem, z0, z1, z2, z3, z4])
        simp only [Act.put, List.getElem_toArray, List.getElem_cons_succ, List.getElem_cons_zero, List.setIfInBounds_toArray, List.set_cons_succ, List.set_cons_zero]
        refine HeadAt.take (i := 15) (.slice (some ⟨b, off, none⟩) n cl) rfl (by kernel_rfl) (.inl ⟨rfl, fun _ _ => by simp [go_sem]⟩) S0 ?_
        refine HeadAt.take (i := 16) (.int .i64 (i : Int)) rfl (by kernel_rfl) (.inl ⟨rfl, fun _ _ => by simp [go_sem]⟩) S0 ?_
        refine HeadAt.take (i := 17) (.pointer (some ⟨b, off + i * 2, none⟩)) rfl (by kernel_rfl) (.inl ⟨rfl, fun w' z => ?_⟩) S0 ?_
        · (simp [go_sem, hiI, hi0])
        simp only [Act.put, List.getElem_toArray, List.getElem_cons_succ, List.getElem_cons_zero, List.setIfInBounds_toArray, List.set_cons_succ, List.set_cons_zero]
        refine HeadAt.take (i := 18) (.pointer (some ⟨b, off + i * 2, none⟩)) rfl (by kernel_rfl) (.inl ⟨rfl, fun _ _ => by simp [go_sem]⟩) S0 ?_
        refine HeadAt.take (i := 19) (.int .i64 (q : Int)) rfl (by kernel_rfl) (.inl ⟨rfl, fun w' z => ?_⟩) S0 ?_
        · (simp [go_sem, z.u])
        refine HeadAt.one (i := 20) rfl (by kernel_rfl) ?_
        generalize hK : Upto _ _ = K0
        (try simp only [Act.put, List.getElem_toArray, List.getElem_cons_succ, List.getElem_cons_zero, List.setIfInBounds_toArray, List.set_cons_succ, List.set_cons_zero])
        go_wp2_with fail
        refine (hsc _ hRc hPc).mono ?_
        rintro e Y2 ⟨rfl, hb2⟩
        replace S0 := S0.below hb2
        replace hb1 := hb1.trans (hb2.mono hb1.size)
        clear hb2 hsc hRc hPc
        go_wp2_with fail
        subst hK
        refine ⟨S0, ?_⟩
        refine HeadAt.take (i := 21) (.int .i64 (t + sc)) rfl (by kernel_rfl) (.inl ⟨rfl, fun w' z => ?_⟩) S0 ?_
        · (simp [go_sem, ewt])
        by_cases h2 : time < t + sc
        · have h2d : decide (time < t + sc) = true := by simp [h2]
          have HA2 := hid (show (q : Int) = (L.take (i + 1)).foldl (wantF T time) (-1) by rw [HST.out, if_pos ⟨h1, h2⟩])
          refine HeadAt.take (i := 22) (.bool true) rfl (by kernel_rfl) (.inl ⟨rfl, fun w' z => ?_⟩) S0 ?_
          · (simp [go_sem, h2d])
          have k0 := S0.u
          refine HeadAt.done (by kernel_rfl) ?_
          (try simp only [Act.put, List.drop_succ_cons, List.drop_zero, List.getElem_toArray, List.getElem_cons_succ, List.getElem_cons_zero])
          clear S0
          go_wp2_with fail
          refine NoPanic.normal ?_
          go_wp2_with fail
          go_roundw
          case rel => exact ⟨i + 1, _, HA2, by omega, rfl, by go_num, hb1⟩
          case measure => simp [intOf]; omega
        · have h2d : decide (time < t + sc) = false := by simp; omega
          have HA2 := hid (show a = (L.take (i + 1)).foldl (wantF T time) (-1) by rw [HST.out, if_neg (fun h => h2 h.2)])
          refine HeadAt.take (i := 22) (.bool false) rfl (by kernel_rfl) (.inl ⟨rfl, fun w' z => ?_⟩) S0 ?_
          · (simp [go_sem, h2d])
          refine HeadAt.done (by kernel_rfl) ?_
          (try simp only [Act.put, List.drop_succ_cons, List.drop_zero, List.getElem_toArray, List.getElem_cons_succ, List.getElem_cons_zero])
          clear S0
          go_wp2_with fail
          refine NoPanic.normal ?_
          go_wp2_with fail
          go_roundw
          case rel => exact ⟨i + 1, a, HA2, by omega, rfl, by go_num, hb1⟩
          case measure => simp [intOf]; omega
      · have h1d : decide (t ≤ time) = false := by simp; omega
        have HA2 := hid (show a = (L.take (i + 1)).foldl (wantF T time) (-1) by rw [HST.out, if_neg (fun h => h1 h.1)])
        refine HeadAt.take (i := 6) (.bool false) rfl (by kernel_rfl) (.inl ⟨rfl, fun w' z => ?_⟩) S0 ?_
        · (simp [go_sem, h1d])
        refine HeadAt.take (i := 7) (.bool false) rfl (by kernel_rfl) (.inl ⟨rfl, fun _ _ => by simp [go_sem]⟩) S0 ?_
        simp only [Act.put, List.getElem_toArray, List.getElem_cons_succ, List.getElem_cons_zero, List.setIfInBounds_toArray, List.set_cons_succ, List.set_cons_zero]
        refine HeadAt.take (i := 8) undef rfl (by kernel_rfl) (.inr ⟨by kernel_rfl, rfl⟩) S0 ?_
        simp only [Act.put, List.getElem_toArray, List.getElem_cons_succ, List.getElem_cons_zero, List.setIfInBounds_toArray, List.set_cons_succ, List.set_cons_zero]
        refine HeadAt.take (i := 9) undef rfl (by kernel_rfl) (.inr ⟨by kernel_rfl, rfl⟩) S0 ?_
        simp only [Act.put, List.getElem_toArray, List.getElem_cons_succ, List.getElem_cons_zero, List.setIfInBounds_toArray, List.set_cons_succ, List.set_cons_zero]
        refine HeadAt.take (i := 10) undef rfl (by kernel_rfl) (.inr ⟨by kernel_rfl, rfl⟩) S0 ?_
        simp only [Act.put, List.getElem_toArray, List.getElem_cons_succ, List.getElem_cons_zero, List.setIfInBounds_toArray, List.set_cons_succ, List.set_cons_zero]
        refine HeadAt.take (i := 11) undef rfl (by kernel_rfl) (.inr ⟨by kernel_rfl, rfl⟩) S0 ?_
        simp only [Act.put, List.getElem_toArray, List.getElem_cons_succ, List.getElem_cons_zero, List.setIfInBounds_toArray, List.set_cons_succ, List.set_cons_zero]
        refine HeadAt.take (i := 12) undef rfl (by kernel_rfl) (.inr ⟨by kernel_rfl, rfl⟩) S0 ?_
        simp only [Act.put, List.getElem_toArray, List.getElem_cons_succ, List.getElem_cons_zero, List.setIfInBounds_toArray, List.set_cons_succ, List.set_cons_zero]
        refine HeadAt.take (i := 13) undef rfl (by kernel_rfl) (.inr ⟨by kernel_rfl, rfl⟩) S0 ?_
        simp only [Act.put, List.getElem_toArray, List.getElem_cons_succ, List.getElem_cons_zero, List.setIfInBounds_toArray, List.set_cons_succ, List.set_cons_zero]
        refine HeadAt.take (i := 14) undef rfl (by kernel_rfl) (.inr ⟨by kernel_rfl, rfl⟩) S0 ?_
        simp only [Act.put, List.getElem_toArray, List.getElem_cons_succ, List.getElem_cons_zero, List.setIfInBounds_toArray, List.set_cons_succ, List.set_cons_zero]
        refine HeadAt.take (i := 15) undef rfl (by kernel_rfl) (.inr ⟨by kernel_rfl, rfl⟩) S0 ?_
        simp only [Act.put, List.getElem_toArray, List.getElem_cons_succ, List.getElem_cons_zero, List.setIfInBounds_toArray, List.set_cons_succ, List.set_cons_zero]
        refine HeadAt.take (i := 16) undef rfl (by kernel_rfl) (.inr ⟨by kernel_rfl, rfl⟩) S0 ?_
        simp only [Act.put, List.getElem_toArray, List.getElem_cons_succ, List.getElem_cons_zero, List.setIfInBounds_toArray, List.set_cons_succ, List.set_cons_zero]
        refine HeadAt.take (i := 17) undef rfl (by kernel_rfl) (.inr ⟨by kernel_rfl, rfl⟩) S0 ?_
        simp only [Act.put, List.getElem_toArray, List.getElem_cons_succ, List.getElem_cons_zero, List.setIfInBounds_toArray, List.set_cons_succ, List.set_cons_zero]
        refine HeadAt.take (i := 18) undef rfl (by kernel_rfl) (.inr ⟨by kernel_rfl, rfl⟩) S0 ?_
        simp only [Act.put, List.getElem_toArray, List.getElem_cons_succ, List.getElem_cons_zero, List.setIfInBounds_toArray, List.set_cons_succ, List.set_cons_zero]
        refine HeadAt.take (i := 19) undef rfl (by kernel_rfl) (.inr ⟨by kernel_rfl, rfl⟩) S0 ?_
        simp only [Act.put, List.getElem_toArray, List.getElem_cons_succ, List.getElem_cons_zero, List.setIfInBounds_toArray, List.set_cons_succ, List.set_cons_zero]
        refine HeadAt.take (i := 20) undef rfl (by kernel_rfl) (.inr ⟨by kernel_rfl, rfl⟩) S0 ?_
        simp only [Act.put, List.getElem_toArray, List.getElem_cons_succ, List.getElem_cons_zero, List.setIfInBounds_toArray, List.set_cons_succ, List.set_cons_zero]
        refine HeadAt.take (i := 21) undef rfl (by kernel_rfl) (.inr ⟨by kernel_rfl, rfl⟩) S0 ?_
        simp only [Act.put, List.getElem_toArray, List.getElem_cons_succ, List.getElem_cons_zero, List.setIfInBounds_toArray, List.set_cons_succ, List.set_cons_zero]
        refine HeadAt.take (i := 22) undef rfl (by kernel_rfl) (.inr ⟨by kernel_rfl, rfl⟩) S0 ?_
        simp only [Act.put, List.getElem_toArray, List.getElem_cons_succ, List.getElem_cons_zero, List.setIfInBounds_toArray, List.set_cons_succ, List.set_cons_zero]
        refine HeadAt.done (by kernel_rfl) ?_
        (try simp only [List.drop_succ_cons, List.drop_zero])
        clear S0
        go_wp2_with fail
        refine NoPanic.normal ?_
        go_wp2_with fail
        go_roundw
        case rel => exact ⟨i + 1, a, HA2, by omega, rfl, by go_num, hb1⟩
        case measure => simp [intOf]; omega
    · have hiI : (n : Int) ≤ (i : Int) := by omega
      have hfin : a = z2 := by
        rw [HA.out, List.take_of_length_le (by have := HN.out; omega)]
        exact HW.out
      subst hfin
      replace hb := hbr
      have x5r := x5.below hb1
      have d0 := x5r.cell 0 rfl; have d1 := x5r.cell 1 rfl; have d2 := x5r.cell 2 rfl
      have hzz : (a == a) = true := by simp
      by_cases hneg : a < 0
      · go_wp2_with fail
        refine (works_any _).mono ?_
        rintro e V3 ⟨rfl, hb1⟩
        replace hb := hb.trans (hb1.mono hb.size)
        clear hb1
        clear d0 d1 d2
        go_wp2
        go_ret
        exact ⟨rfl, hb⟩
      · have hsa : ((sideAt true p : Nat) : Int) = a := by
          rcases HSI.out with h | h
          · omega
          · exact h.2.symm
        have hSA : ∀ V, Calls Try.prog 31 #[.int .i64 (p : Int), .int .i64 (1)] V fun e w' => e = .returned (.int .i64 a) ∧ V = w' := fun V => by
          have h := SideAt_any p true V (by omega)
          rw [hsa] at h
          exact h
        have hneg' : 0 ≤ a := by omega
        clear hneg
        go_wp2_with fail
        refine (hSA _).mono ?_
        rintro e V6 ⟨rfl, rfl⟩
        go_wp2_with fail
        refine (works_any _).mono ?_
        rintro e V3 ⟨rfl, hb1⟩
        replace hb := hb.trans (hb1.mono hb.size)
        clear hb1
        clear d0 d1 d2
        go_wp2
        go_ret
        exact ⟨rfl, hb⟩

set_option maxRecDepth 100000 in
set_option maxHeartbeats 8000000 in
theorem sh_false (ar ap : Option Addr) (cr cp : Nat) (rs ps : List (Int × Int)) (p0 way step : Int) (time : Int) (w : World) (hR : Prs w ar rs) (hP : Prs w ap ps) (hv : rdB rs ps p0 way step = true) (hit : inR 0 time 9999 = true) (T : Tr) (hT : IsTr T rs ps p0 way step) (hup : (runM T (time + 1)).up = false) :
    Calls Try.prog 8 #[.agg #[.slice ar rs.length cr, .int .i64 p0, .int .i64 way, .int .i64 step, .slice ap ps.length cp], .int .i64 time] w (WorksP w) := by
  obtain ⟨hr6, hp12, hr1⟩ := rdB_6s (rdB_len hv)
  obtain ⟨W, hW, hb, hs, x0⟩ := boxes1 w #[.slice ar rs.length cr, .int .i64 p0, .int .i64 way, .int .i64 step, .slice ap ps.length cp] 25
  clear hs
  have hrd := ready_any ar ap cr cp rs ps p0 way step W (by omega) (by omega) (fun h => hR.below hb (Nat.le_refl _)) (fun h => hP.below hb (Nat.le_refl _))
  rw [hv] at hrd
  have hvt := rdB_len hv
  have hyI := inR_iff.1 hit
  have hVT := hT.hv
  have hSt := fun V h1 h2 => Stand_ok ar ap cr cp rs ps p0 way step time V h1 h2 hvt hit T hT (runM T (time + 1)) rfl
  obtain ⟨hwant, hside⟩ := shown hVT hyI
  have hrg := (rng_run hVT (b := time + 1) (by unfold maxI; omega)).inv
  have hpos := hrg.pos
  rw [hT.T1] at hpos
  have hsd := hrg.sd
  rw [hT.T1] at hsd
  unfold standV at hSt
  rw [hup] at hSt hside
  obtain ⟨p, hp⟩ : ∃ p, p = (runM T (time + 1)).pos := ⟨_, rfl⟩
  obtain ⟨z2, hz2⟩ : ∃ z, z = (runM T (time + 1)).side := ⟨_, rfl⟩
  rw [← hp, ← hz2] at hSt
  rw [← hp] at hside hpos
  rw [← hz2] at hwant hside hsd
  have hSt' : ∀ V, Prs V ar rs → Prs V ap ps → Calls Try.prog 30 #[.agg #[.slice ar rs.length cr, .int .i64 p0, .int .i64 way, .int .i64 step, .slice ap ps.length cp], .int .i64 time] V fun e w' => e = .returned (.tuple #[.agg #[.int .i64 (p : Nat), .int .i64 (-1), .int .i64 z2], .int .i64 0]) ∧ Below V.heap.size V w' := hSt
  have hc1 := cn_run hVT (Int.le_refl maxI)
  have htm := plays_time hVT
  have hPl := fun V h1 h2 => Plays_ok ar ap cr cp rs ps p0 way step V h1 h2 hvt T hT (runM T maxI) rfl
  unfold PlaysP at hPl
  obtain ⟨c, hc⟩ : ∃ c, c = runM T maxI := ⟨_, rfl⟩
  rw [← hc] at hPl hc1 htm hwant
  have hlen : c.plays.length ≤ ps.length := by have := hc1.n; rw [hT.T2] at this; omega
  have hsecs : ∀ k, k < 2 * rs.length → 0 ≤ secs T k ∧ secs T k ≤ 999 := fun k hk => by have := secs_le hVT (k := k) (by rw [hT.T1]; exact hk); omega
  have hsan := fun al cl V h1 h2 h3 => sane_ok al cl c.plays ar ap cr cp rs ps p0 way step V h1 h2 h3 T hT.T1 hr6 hlen hp12 (fun q hq => by have h1 := hc1.d q hq; have h2 := htm q hq; rw [hT.T1] at h1; omega) c.time hc1.s hsecs
  have hsd0 : ∀ q ∈ c.plays, 0 ≤ q.1 ∧ q.1 < 2 * (rs.length : Int) ∧ 0 ≤ q.2 ∧ q.2 ≤ 1000000 := fun q hq => by have h1 := hc1.d q hq; have h2 := htm q hq; rw [hT.T1] at h1; omega
  obtain ⟨L, hL⟩ : ∃ L, L = c.plays := ⟨_, rfl⟩
  rw [← hL] at hPl hsan hwant hlen hsd0
  have HW := hid hwant; have HSI := hid hside; have HSD := hid hsd0; have HSE := hid hsecs
  have hT1 := hT.T1
  have hsc := fun q hq V h1 h2 => Seconds_any ar ap cr cp rs ps p0 way step q V h1 h2 T hT1 hq hr6
  have HSC := hid hsc
  obtain ⟨n, hn⟩ : ∃ n, n = L.length := ⟨_, rfl⟩
  have HN := hid hn
  rw [← hn] at hPl hlen hsan
  have hnI : (n : Int) ≤ 12 := by omega
  have hpI : (p : Int) < (rs.length : Int) := by omega
  have hp0 : (0 : Int) ≤ (p : Int) := by omega
  have hrI : (rs.length : Int) ≤ 6 := by omega
  have hd1 : decide ((p : Int) < 0) = false := by simp
  have hd2 : decide ((rs.length : Int) ≤ (p : Int)) = false := by simp; omega
  have hd3 : decide (rs.length ≤ p) = false := by simp; omega
  have c0 := x0.cell 0 rfl; have c1 := x0.cell 1 rfl; have c2 := x0.cell 2 rfl; have c3 := x0.cell 3 rfl; have c4 := x0.cell 4 rfl
  clear hv hvt hVT hSt hwant hside hsd hrg hp hz2 hc1 htm hc hsecs hsd0 hL hT1 hsc hn hup
  go_enter Try.func8, Try.ntmps8
  go_wp2_with fail
  refine hrd.mono ?_
  rintro e W1 ⟨rfl, hb1⟩
  clear hW hrd
  (try clear c0 c1 c2 c3 c4); replace x0 := x0.below hb1; have c0 := x0.cell 0 rfl; have c1 := x0.cell 1 rfl; have c2 := x0.cell 2 rfl; have c3 := x0.cell 3 rfl; have c4 := x0.cell 4 rfl; replace hb := hb.trans (hb1.mono hb.size); clear hb1
  go_wp2_with fail
  refine (refTime_any _ _).mono ?_
  rintro e W3 ⟨rfl, rfl⟩
  rw [hit]
  clear hit
  go_wp2_with fail
  refine (hSt' _ (hR.below hb (Nat.le_refl _)) (hP.below hb (Nat.le_refl _))).mono ?_
  rintro e V1 ⟨rfl, hb1⟩
  obtain ⟨V2, hV2, hbx, hsx, x5⟩ := boxes1 V1 #[.int .i64 (p : Int), .int .i64 (-1), .int .i64 z2] 50
  replace hb1 := hb1.trans (hbx.mono hb1.size)
  (try clear c0 c1 c2 c3 c4); replace x0 := x0.below hb1; have c0 := x0.cell 0 rfl; have c1 := x0.cell 1 rfl; have c2 := x0.cell 2 rfl; have c3 := x0.cell 3 rfl; have c4 := x0.cell 4 rfl; replace hb := hb.trans (hb1.mono hb.size); clear hb1
  clear hSt' hsx hbx
  go_wp2_with fail
  refine (hPl _ (hR.below hb (Nat.le_refl _)) (hP.below hb (Nat.le_refl _))).mono ?_
  rintro e V3 ⟨hb1, al, cl, rfl, r1⟩
  clear hV2
  replace x5 := x5.below hb1; (try clear c0 c1 c2 c3 c4); replace x0 := x0.below hb1; have c0 := x0.cell 0 rfl; have c1 := x0.cell 1 rfl; have c2 := x0.cell 2 rfl; have c3 := x0.cell 3 rfl; have c4 := x0.cell 4 rfl; replace hb := hb.trans (hb1.mono hb.size); clear hb1
  clear hPl
  go_wp2_with fail
  refine (hsan al cl _ (hR.below hb (Nat.le_refl _)) (hP.below hb (Nat.le_refl _)) r1).mono ?_
  rintro e V4 ⟨rfl, hb1⟩
  replace r1 := r1.below hb1 (Nat.le_refl _); (try clear c0 c1 c2 c3 c4); replace x0 := x0.below hb1; have c0 := x0.cell 0 rfl; have c1 := x0.cell 1 rfl; have c2 := x0.cell 2 rfl; have c3 := x0.cell 3 rfl; have c4 := x0.cell 4 rfl; (try clear d0 d1 d2); replace x5 := x5.below hb1; have d0 := x5.cell 0 rfl; have d1 := x5.cell 1 rfl; have d2 := x5.cell 2 rfl; replace hb := hb.trans (hb1.mono hb.size); clear hb1
  clear hsan
  go_wp2
  clear hd1 hd2 hd3 c0 c1 c2 c3 c4 d0 d1 d2
  go_loopw [9, 10] (fun v9 v10 wr => ∃ (i : Nat) (a : Int), Hid (a = (L.take i).foldl (wantF T time) (-1)) ∧ i ≤ n ∧ v9 = .int .i64 a ∧ v10 = .int .i64 (i : Int) ∧ Below V4.heap.size V4 wr) (fun _ v10 _ => n - (intOf v10).toNat)
  case atStart => exact ⟨0, -1, hid rfl, Nat.zero_le _, rfl, rfl, Below.refl _ _⟩
  case round =>
    obtain ⟨i, a, HA, hi, rfl, rfl, hb1⟩ := hrel
    have hbr := hb.trans (hb1.mono hb.size)
    have x0r := x0.below hb1
    have r1r := r1.below hb1 (Nat.le_refl _)
    by_cases hlt : i < n
    · have hiI : (i : Int) < (n : Int) := by omega
      have hi0 : (0 : Int) ≤ (i : Int) := by omega
      obtain ⟨b, off, u, t, rfl, _, g0, g1, _, _, hx, _⟩ := r1r.at (show i < L.length by rw [← HN.out]; exact hlt)
      have hut := HSD.out (u, t) (List.mem_of_getElem? hx.out)
      dsimp only at hut
      obtain ⟨q, rfl⟩ : ∃ q : Nat, u = (q : Int) := ⟨u.toNat, by omega⟩
      have hsb := HSE.out q (by omega)
      have hsc := HSC.out q (by omega)
      have htk := take_snocI hx.out
      obtain ⟨sc, hscv⟩ : ∃ sc, sc = secs T q := ⟨_, rfl⟩
      rw [← hscv] at hsc hsb
      have hst : (L.take (i + 1)).foldl (wantF T time) (-1) = if t ≤ time ∧ time < t + sc then (q : Int) else a := by
        rw [htk, List.foldl_append, ← HA.out]
        show wantF T time a ((q : Int), t) = _
        unfold wantF
        dsimp only
        rw [Int.toNat_natCast, ← hscv]
      have HST := hid hst
      have ewt : IntKind.i64.wrap (t + sc) = t + sc := IntWalk.i64_in _ (by omega)
      clear hst htk hscv hx
      go_upto_region 11 with fail
      have hbd := (Below.refl wr.heap.size wr).drew
      have hbr2 := hbr.trans (hbd.mono hbr.size)
      have hRc := hR.below hbr2 (Nat.le_refl _); have hPc := hP.below hbr2 (Nat.le_refl _)
      have S0 : ShS w.heap.size #[.slice ar rs.length cr, .int .i64 p0, .int .i64 way, .int .i64 step, .slice ap ps.length cp] ⟨b, off + i * 2, none⟩ ⟨b, off + i * 2 + 1, none⟩ (q : Int) t wr.drew := ⟨x0r.below hbd, Below.keep hbd g0, Below.keep hbd g1⟩
      replace hb1 := hb1.trans (hbd.mono hb1.size)
      clear hbd x0r hbr hbr2 r1r
      refine wp_region_head 23 (ShS w.heap.size #[.slice ar rs.length cr, .int .i64 p0, .int .i64 way, .int .i64 step, .slice ap ps.length cp] ⟨b, off + i * 2, none⟩ ⟨b, off + i * 2 + 1, none⟩ (q : Int) t) (by kernel_rfl) rfl ?_
      generalize wr.drew = Y0 at *
      refine HeadAt.take (i := 0) (.slice (some ⟨b, off, none⟩) n cl) rfl (by kernel_rfl) (.inl ⟨rfl, fun _ _ => by simp [go_sem]⟩) S0 ?_
      refine HeadAt.take (i := 1) (.int .i64 (i : Int)) rfl (by kernel_rfl) (.inl ⟨rfl, fun _ _ => by simp [go_sem]⟩) S0 ?_
      refine HeadAt.take (i := 2) (.pointer (some ⟨b, off + i * 2, none⟩)) rfl (by kernel_rfl) (.inl ⟨rfl, fun w' z => ?_⟩) S0 ?_
      · (simp [go_sem, hiI, hi0])
      simp only [Act.put, List.getElem_toArray, List.getElem_cons_succ, List.getElem_cons_zero, List.setIfInBounds_toArray, List.set_cons_succ, List.set_cons_zero]
      refine HeadAt.take (i := 3) (.pointer (some ⟨b, off + i * 2 + 1, none⟩)) rfl (by kernel_rfl) (.inl ⟨rfl, fun _ _ => by simp [go_sem]⟩) S0 ?_
      refine HeadAt.take (i := 4) (.int .i64 t) rfl (by kernel_rfl) (.inl ⟨rfl, fun w' z => ?_⟩) S0 ?_
      · (simp [go_sem, z.t])
      refine HeadAt.take (i := 5) (.int .i64 time) rfl (by kernel_rfl) (.inl ⟨rfl, fun _ _ => by simp [go_sem]⟩) S0 ?_
      simp only [Act.put, List.getElem_toArray, List.getElem_cons_succ, List.getElem_cons_zero, List.setIfInBounds_toArray, List.set_cons_succ, List.set_cons_zero]
      by_cases h1 : t ≤ time
      · have h1d : decide (t ≤ time) = true := by simp [h1]
        refine HeadAt.take (i := 6) (.bool true) rfl (by kernel_rfl) (.inl ⟨rfl, fun w' z => ?_⟩) S0 ?_
        · (simp [go_sem, h1d])
        refine HeadAt.take (i := 7) (.bool true) rfl (by kernel_rfl) (.inl ⟨rfl, fun _ _ => by simp [go_sem]⟩) S0 ?_
        refine HeadAt.take (i := 8) (.int .i64 time) rfl (by kernel_rfl) (.inl ⟨rfl, fun _ _ => by simp [go_sem]⟩) S0 ?_
        simp only [Act.put, List.getElem_toArray, List.getElem_cons_succ, List.getElem_cons_zero, List.setIfInBounds_toArray, List.set_cons_succ, List.set_cons_zero]
        refine HeadAt.take (i := 9) (.slice (some ⟨b, off, none⟩) n cl) rfl (by kernel_rfl) (.inl ⟨rfl, fun _ _ => by simp [go_sem]⟩) S0 ?_
        refine HeadAt.take (i := 10) (.int .i64 (i : Int)) rfl (by kernel_rfl) (.inl ⟨rfl, fun _ _ => by simp [go_sem]⟩) S0 ?_
        refine HeadAt.take (i := 11) (.pointer (some ⟨b, off + i * 2, none⟩)) rfl (by kernel_rfl) (.inl ⟨rfl, fun w' z => ?_⟩) S0 ?_
        · (simp [go_sem, hiI, hi0])
        simp only [Act.put, List.getElem_toArray, List.getElem_cons_succ, List.getElem_cons_zero, List.setIfInBounds_toArray, List.set_cons_succ, List.set_cons_zero]
        refine HeadAt.take (i := 12) (.pointer (some ⟨b, off + i * 2 + 1, none⟩)) rfl (by kernel_rfl) (.inl ⟨rfl, fun _ _ => by simp [go_sem]⟩) S0 ?_
        refine HeadAt.take (i := 13) (.int .i64 t) rfl (by kernel_rfl) (.inl ⟨rfl, fun w' z => ?_⟩) S0 ?_
        · (simp [go_sem, z.t])
        refine HeadAt.take (i := 14) (.agg #[.slice ar rs.length cr, .int .i64 p0, .int .i64 way, .int .i64 step, .slice ap ps.length cp]) rfl (by kernel_rfl) (.inl ⟨rfl, fun w' z => ?_⟩) S0 ?_
        · (have z0 := z.x.cell 0 rfl; have z1 := z.x.cell 1 rfl; have z2 := z.x.cell 2 rfl; have z3 := z.x.cell 3 rfl; have z4 := z.x.cell 4 rfl; simp [go_sem, z0, z1, z2, z3, z4])
        simp only [Act.put, List.getElem_toArray, List.getElem_cons_succ, List.getElem_cons_zero, List.setIfInBounds_toArray, List.set_cons_succ, List.set_cons_zero]
        refine HeadAt.take (i := 15) (.slice (some ⟨b, off, none⟩) n cl) rfl (by kernel_rfl) (.inl ⟨rfl, fun _ _ => by simp [go_sem]⟩) S0 ?_
        refine HeadAt.take (i := 16) (.int .i64 (i : Int)) rfl (by kernel_rfl) (.inl ⟨rfl, fun _ _ => by simp [go_sem]⟩) S0 ?_
        refine HeadAt.take (i := 17) (.pointer (some ⟨b, off + i * 2, none⟩)) rfl (by kernel_rfl) (.inl ⟨rfl, fun w' z => ?_⟩) S0 ?_
        · (simp [go_sem, hiI, hi0])
        simp only [Act.put, List.getElem_toArray, List.getElem_cons_succ, List.getElem_cons_zero, List.setIfInBounds_toArray, List.set_cons_succ, List.set_cons_zero]
        refine HeadAt.take (i := 18) (.pointer (some ⟨b, off + i * 2, none⟩)) rfl (by kernel_rfl) (.inl ⟨rfl, fun _ _ => by simp [go_sem]⟩) S0 ?_
        refine HeadAt.take (i := 19) (.int .i64 (q : Int)) rfl (by kernel_rfl) (.inl ⟨rfl, fun w' z => ?_⟩) S0 ?_
        · (simp [go_sem, z.u])
        refine HeadAt.one (i := 20) rfl (by kernel_rfl) ?_
        generalize hK : Upto _ _ = K0
        (try simp only [Act.put, List.getElem_toArray, List.getElem_cons_succ, List.getElem_cons_zero, List.setIfInBounds_toArray, List.set_cons_succ, List.set_cons_zero])
        go_wp2_with fail
        refine (hsc _ hRc hPc).mono ?_
        rintro e Y2 ⟨rfl, hb2⟩
        replace S0 := S0.below hb2
        replace hb1 := hb1.trans (hb2.mono hb1.size)
        clear hb2 hsc hRc hPc
        go_wp2_with fail
        subst hK
        refine ⟨S0, ?_⟩
        refine HeadAt.take (i := 21) (.int .i64 (t + sc)) rfl (by kernel_rfl) (.inl ⟨rfl, fun w' z => ?_⟩) S0 ?_
        · (simp [go_sem, ewt])
        by_cases h2 : time < t + sc
        · have h2d : decide (time < t + sc) = true := by simp [h2]
          have HA2 := hid (show (q : Int) = (L.take (i + 1)).foldl (wantF T time) (-1) by rw [HST.out, if_pos ⟨h1, h2⟩])
          refine HeadAt.take (i := 22) (.bool true) rfl (by kernel_rfl) (.inl ⟨rfl, fun w' z => ?_⟩) S0 ?_
          · (simp [go_sem, h2d])
          have k0 := S0.u
          refine HeadAt.done (by kernel_rfl) ?_
          (try simp only [Act.put, List.drop_succ_cons, List.drop_zero, List.getElem_toArray, List.getElem_cons_succ, List.getElem_cons_zero])
          clear S0
          go_wp2_with fail
          refine NoPanic.normal ?_
          go_wp2_with fail
          go_roundw
          case rel => exact ⟨i + 1, _, HA2, by omega, rfl, by go_num, hb1⟩
          case measure => simp [intOf]; omega
        · have h2d : decide (time < t + sc) = false := by simp; omega
          have HA2 := hid (show a = (L.take (i + 1)).foldl (wantF T time) (-1) by rw [HST.out, if_neg (fun h => h2 h.2)])
          refine HeadAt.take (i := 22) (.bool false) rfl (by kernel_rfl) (.inl ⟨rfl, fun w' z => ?_⟩) S0 ?_
          · (simp [go_sem, h2d])
          refine HeadAt.done (by kernel_rfl) ?_
          (try simp only [Act.put, List.drop_succ_cons, List.drop_zero, List.getElem_toArray, List.getElem_cons_succ, List.getElem_cons_zero])
          clear S0
          go_wp2_with fail
          refine NoPanic.normal ?_
          go_wp2_with fail
          go_roundw
          case rel => exact ⟨i + 1, a, HA2, by omega, rfl, by go_num, hb1⟩
          case measure => simp [intOf]; omega
      · have h1d : decide (t ≤ time) = false := by simp; omega
        have HA2 := hid (show a = (L.take (i + 1)).foldl (wantF T time) (-1) by rw [HST.out, if_neg (fun h => h1 h.1)])
        refine HeadAt.take (i := 6) (.bool false) rfl (by kernel_rfl) (.inl ⟨rfl, fun w' z => ?_⟩) S0 ?_
        · (simp [go_sem, h1d])
        refine HeadAt.take (i := 7) (.bool false) rfl (by kernel_rfl) (.inl ⟨rfl, fun _ _ => by simp [go_sem]⟩) S0 ?_
        simp only [Act.put, List.getElem_toArray, List.getElem_cons_succ, List.getElem_cons_zero, List.setIfInBounds_toArray, List.set_cons_succ, List.set_cons_zero]
        refine HeadAt.take (i := 8) undef rfl (by kernel_rfl) (.inr ⟨by kernel_rfl, rfl⟩) S0 ?_
        simp only [Act.put, List.getElem_toArray, List.getElem_cons_succ, List.getElem_cons_zero, List.setIfInBounds_toArray, List.set_cons_succ, List.set_cons_zero]
        refine HeadAt.take (i := 9) undef rfl (by kernel_rfl) (.inr ⟨by kernel_rfl, rfl⟩) S0 ?_
        simp only [Act.put, List.getElem_toArray, List.getElem_cons_succ, List.getElem_cons_zero, List.setIfInBounds_toArray, List.set_cons_succ, List.set_cons_zero]
        refine HeadAt.take (i := 10) undef rfl (by kernel_rfl) (.inr ⟨by kernel_rfl, rfl⟩) S0 ?_
        simp only [Act.put, List.getElem_toArray, List.getElem_cons_succ, List.getElem_cons_zero, List.setIfInBounds_toArray, List.set_cons_succ, List.set_cons_zero]
        refine HeadAt.take (i := 11) undef rfl (by kernel_rfl) (.inr ⟨by kernel_rfl, rfl⟩) S0 ?_
        simp only [Act.put, List.getElem_toArray, List.getElem_cons_succ, List.getElem_cons_zero, List.setIfInBounds_toArray, List.set_cons_succ, List.set_cons_zero]
        refine HeadAt.take (i := 12) undef rfl (by kernel_rfl) (.inr ⟨by kernel_rfl, rfl⟩) S0 ?_
        simp only [Act.put, List.getElem_toArray, List.getElem_cons_succ, List.getElem_cons_zero, List.setIfInBounds_toArray, List.set_cons_succ, List.set_cons_zero]
        refine HeadAt.take (i := 13) undef rfl (by kernel_rfl) (.inr ⟨by kernel_rfl, rfl⟩) S0 ?_
        simp only [Act.put, List.getElem_toArray, List.getElem_cons_succ, List.getElem_cons_zero, List.setIfInBounds_toArray, List.set_cons_succ, List.set_cons_zero]
        refine HeadAt.take (i := 14) undef rfl (by kernel_rfl) (.inr ⟨by kernel_rfl, rfl⟩) S0 ?_
        simp only [Act.put, List.getElem_toArray, List.getElem_cons_succ, List.getElem_cons_zero, List.setIfInBounds_toArray, List.set_cons_succ, List.set_cons_zero]
        refine HeadAt.take (i := 15) undef rfl (by kernel_rfl) (.inr ⟨by kernel_rfl, rfl⟩) S0 ?_
        simp only [Act.put, List.getElem_toArray, List.getElem_cons_succ, List.getElem_cons_zero, List.setIfInBounds_toArray, List.set_cons_succ, List.set_cons_zero]
        refine HeadAt.take (i := 16) undef rfl (by kernel_rfl) (.inr ⟨by kernel_rfl, rfl⟩) S0 ?_
        simp only [Act.put, List.getElem_toArray, List.getElem_cons_succ, List.getElem_cons_zero, List.setIfInBounds_toArray, List.set_cons_succ, List.set_cons_zero]
        refine HeadAt.take (i := 17) undef rfl (by kernel_rfl) (.inr ⟨by kernel_rfl, rfl⟩) S0 ?_
        simp only [Act.put, List.getElem_toArray, List.getElem_cons_succ, List.getElem_cons_zero, List.setIfInBounds_toArray, List.set_cons_succ, List.set_cons_zero]
        refine HeadAt.take (i := 18) undef rfl (by kernel_rfl) (.inr ⟨by kernel_rfl, rfl⟩) S0 ?_
        simp only [Act.put, List.getElem_toArray, List.getElem_cons_succ, List.getElem_cons_zero, List.setIfInBounds_toArray, List.set_cons_succ, List.set_cons_zero]
        refine HeadAt.take (i := 19) undef rfl (by kernel_rfl) (.inr ⟨by kernel_rfl, rfl⟩) S0 ?_
        simp only [Act.put, List.getElem_toArray, List.getElem_cons_succ, List.getElem_cons_zero, List.setIfInBounds_toArray, List.set_cons_succ, List.set_cons_zero]
        refine HeadAt.take (i := 20) undef rfl (by kernel_rfl) (.inr ⟨by kernel_rfl, rfl⟩) S0 ?_
        simp only [Act.put, List.getElem_toArray, List.getElem_cons_succ, List.getElem_cons_zero, List.setIfInBounds_toArray, List.set_cons_succ, List.set_cons_zero]
        refine HeadAt.take (i := 21) undef rfl (by kernel_rfl) (.inr ⟨by kernel_rfl, rfl⟩) S0 ?_
        simp only [Act.put, List.getElem_toArray, List.getElem_cons_succ, List.getElem_cons_zero, List.setIfInBounds_toArray, List.set_cons_succ, List.set_cons_zero]
        refine HeadAt.take (i := 22) undef rfl (by kernel_rfl) (.inr ⟨by kernel_rfl, rfl⟩) S0 ?_
        simp only [Act.put, List.getElem_toArray, List.getElem_cons_succ, List.getElem_cons_zero, List.setIfInBounds_toArray, List.set_cons_succ, List.set_cons_zero]
        refine HeadAt.done (by kernel_rfl) ?_
        (try simp only [List.drop_succ_cons, List.drop_zero])
        clear S0
        go_wp2_with fail
        refine NoPanic.normal ?_
        go_wp2_with fail
        go_roundw
        case rel => exact ⟨i + 1, a, HA2, by omega, rfl, by go_num, hb1⟩
        case measure => simp [intOf]; omega
    · have hiI : (n : Int) ≤ (i : Int) := by omega
      have hfin : a = z2 := by
        rw [HA.out, List.take_of_length_le (by have := HN.out; omega)]
        exact HW.out
      subst hfin
      replace hb := hbr
      have x5r := x5.below hb1
      have d0 := x5r.cell 0 rfl; have d1 := x5r.cell 1 rfl; have d2 := x5r.cell 2 rfl
      have hzz : (a == a) = true := by simp
      by_cases hneg : a < 0
      · go_wp2_with fail
        refine (works_any _).mono ?_
        rintro e V3 ⟨rfl, hb1⟩
        replace hb := hb.trans (hb1.mono hb.size)
        clear hb1
        clear d0 d1 d2
        go_wp2
        go_ret
        exact ⟨rfl, hb⟩
      · have hsa : ((sideAt false p : Nat) : Int) = a := by
          rcases HSI.out with h | h
          · omega
          · exact h.2.symm
        have hSA : ∀ V, Calls Try.prog 31 #[.int .i64 (p : Int), .int .i64 (-1)] V fun e w' => e = .returned (.int .i64 a) ∧ V = w' := fun V => by
          have h := SideAt_any p false V (by omega)
          rw [hsa] at h
          exact h
        have hneg' : 0 ≤ a := by omega
        clear hneg
        go_wp2_with fail
        refine (hSA _).mono ?_
        rintro e V6 ⟨rfl, rfl⟩
        go_wp2_with fail
        refine (works_any _).mono ?_
        rintro e V3 ⟨rfl, hb1⟩
        replace hb := hb.trans (hb1.mono hb.size)
        clear hb1
        clear d0 d1 d2
        go_wp2
        go_ret
        exact ⟨rfl, hb⟩

theorem shown_any (ar ap : Option Addr) (cr cp : Nat) (rs ps : List (Int × Int)) (p0 way step : Int) (time : Int) (w : World) (hlr : rs.length ≤ 9223372036854775807) (hlp : ps.length ≤ 9223372036854775807) (hR : rs.length ≤ 1000 → Prs w ar rs) (hP : ps.length ≤ 1000 → Prs w ap ps) :
    Calls Try.prog 8 #[.agg #[.slice ar rs.length cr, .int .i64 p0, .int .i64 way, .int .i64 step, .slice ap ps.length cp], .int .i64 time] w (WorksP w) := by
  cases hv : rdB rs ps p0 way step
  · exact sh_arg0 ar ap cr cp rs ps p0 way step time w hlr hlp hR hP hv
  · have hl := rdB_6s (rdB_len hv)
    have hR' := hR (by omega)
    have hP' := hP (by omega)
    cases hit : inR 0 time 9999
    · exact sh_arg1 ar ap cr cp rs ps p0 way step time w hR' hP' (by omega) hv hit
    · obtain ⟨T, hT, _⟩ := tr_of (rdB_len hv)
      cases hup : (runM T (time + 1)).up
      · exact sh_false ar ap cr cp rs ps p0 way step time w hR' hP' hv hit T hT hup
      · exact sh_true ar ap cr cp rs ps p0 way step time w hR' hP' hv hit T hT hup
end Go.Proofs.Ytknaljghpfeikaa
