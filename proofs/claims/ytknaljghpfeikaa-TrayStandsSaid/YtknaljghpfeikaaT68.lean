import Derived.Test.YtknaljghpfeikaaT66
namespace Go.Proofs.Ytknaljghpfeikaa
open Go.RowKit

set_option maxRecDepth 100000 in
set_option maxHeartbeats 1000000 in
theorem rStand_bad (ar ap : Option Addr) (cr cp : Nat) (rs ps : List (Int × Int)) (p0 way step : Int) (t : Int) (w : World) (hR : Prs w ar rs) (hP : Prs w ap ps) (hv : trB rs ps p0 way step = false) :
    Calls Try.prog 47 #[.agg #[.slice ar rs.length cr, .int .i64 p0, .int .i64 way, .int .i64 step, .slice ap ps.length cp], .int .i64 t] w fun e w' => e = .returned (.tuple #[.agg #[.int .i64 0, .int .i64 0, .int .i64 0], .int .i64 20]) ∧ Below w.heap.size w w' := by
  obtain ⟨W, hW, hb, hs, x0, x4⟩ := boxes2 w #[.slice ar rs.length cr, .int .i64 p0, .int .i64 way, .int .i64 step, .slice ap ps.length cp] 25 #[.int .i64 0, .int .i64 0, .int .i64 0] 50
  have c0 := x0.cell 0 rfl; have c1 := x0.cell 1 rfl; have c2 := x0.cell 2 rfl; have c3 := x0.cell 3 rfl; have c4 := x0.cell 4 rfl
  go_enter Try.func47, Try.ntmps47
  go_wp2_with fail
  refine (rCheck_any _ _ _ _ _ _ _ _ _ _ (hR.below hb (Nat.le_refl _)) (hP.below hb (Nat.le_refl _))).mono ?_
  rintro e W1 ⟨rfl, hb1⟩
  rw [hv]
  clear hW
  replace x4 := x4.below hb1
  (try clear c0 c1 c2 c3 c4); replace x0 := x0.below hb1; have c0 := x0.cell 0 rfl; have c1 := x0.cell 1 rfl; have c2 := x0.cell 2 rfl; have c3 := x0.cell 3 rfl; have c4 := x0.cell 4 rfl; replace hb := hb.trans (hb1.mono hb.size); clear hb1
  clear x0 c0 c1 c2 c3 c4
  have f0 := x4.free 0; have f1 := x4.free 1; have f2 := x4.free 2
  have z0 := x4.cell 0 rfl; have z1 := x4.cell 1 rfl; have z2 := x4.cell 2 rfl
  have x5 := x4.set3 (.int .i64 0) (.int .i64 0) (.int .i64 0)
  have k0 := x5.cell 0 rfl; have k1 := x5.cell 1 rfl; have k2 := x5.cell 2 rfl
  have hb2 := ((hb.setCell (p := ⟨w.heap.size + 1, 0, none⟩) (by show w.heap.size ≤ w.heap.size + 1; omega) (.int .i64 0)).setCell (p := ⟨w.heap.size + 1, 1, none⟩) (by show w.heap.size ≤ w.heap.size + 1; omega) (.int .i64 0)).setCell (p := ⟨w.heap.size + 1, 2, none⟩) (by show w.heap.size ≤ w.heap.size + 1; omega) (.int .i64 0)
  go_wp2
  refine bodyPost_ret (v := .tuple #[.agg #[.int .i64 0, .int .i64 0, .int .i64 0], .int .i64 20]) ?_ rfl ⟨rfl, hb2⟩
  simp [results, Try.results47, go_sem, k0, k1, k2]
set_option maxRecDepth 100000 in
set_option maxHeartbeats 1000000 in
theorem rStand_arg (ar ap : Option Addr) (cr cp : Nat) (rs ps : List (Int × Int)) (p0 way step : Int) (t : Int) (w : World) (hR : Prs w ar rs) (hP : Prs w ap ps) (hv : trB rs ps p0 way step = true) (ht : inR 0 t 9999 = false) :
    Calls Try.prog 47 #[.agg #[.slice ar rs.length cr, .int .i64 p0, .int .i64 way, .int .i64 step, .slice ap ps.length cp], .int .i64 t] w fun e w' => e = .returned (.tuple #[.agg #[.int .i64 0, .int .i64 0, .int .i64 0], .int .i64 1]) ∧ Below w.heap.size w w' := by
  obtain ⟨W, hW, hb, hs, x0, x4⟩ := boxes2 w #[.slice ar rs.length cr, .int .i64 p0, .int .i64 way, .int .i64 step, .slice ap ps.length cp] 25 #[.int .i64 0, .int .i64 0, .int .i64 0] 50
  have c0 := x0.cell 0 rfl; have c1 := x0.cell 1 rfl; have c2 := x0.cell 2 rfl; have c3 := x0.cell 3 rfl; have c4 := x0.cell 4 rfl
  go_enter Try.func47, Try.ntmps47
  go_wp2_with fail
  refine (rCheck_any _ _ _ _ _ _ _ _ _ _ (hR.below hb (Nat.le_refl _)) (hP.below hb (Nat.le_refl _))).mono ?_
  rintro e W1 ⟨rfl, hb1⟩
  rw [hv]
  clear hW
  replace x4 := x4.below hb1
  (try clear c0 c1 c2 c3 c4); replace x0 := x0.below hb1; have c0 := x0.cell 0 rfl; have c1 := x0.cell 1 rfl; have c2 := x0.cell 2 rfl; have c3 := x0.cell 3 rfl; have c4 := x0.cell 4 rfl; replace hb := hb.trans (hb1.mono hb.size); clear hb1
  go_wp2_with fail
  refine (refTime_any _ _).mono ?_
  rintro e V2 ⟨rfl, rfl⟩
  rw [ht]
  clear x0 c0 c1 c2 c3 c4
  have f0 := x4.free 0; have f1 := x4.free 1; have f2 := x4.free 2
  have z0 := x4.cell 0 rfl; have z1 := x4.cell 1 rfl; have z2 := x4.cell 2 rfl
  have x5 := x4.set3 (.int .i64 0) (.int .i64 0) (.int .i64 0)
  have k0 := x5.cell 0 rfl; have k1 := x5.cell 1 rfl; have k2 := x5.cell 2 rfl
  have hb2 := ((hb.setCell (p := ⟨w.heap.size + 1, 0, none⟩) (by show w.heap.size ≤ w.heap.size + 1; omega) (.int .i64 0)).setCell (p := ⟨w.heap.size + 1, 1, none⟩) (by show w.heap.size ≤ w.heap.size + 1; omega) (.int .i64 0)).setCell (p := ⟨w.heap.size + 1, 2, none⟩) (by show w.heap.size ≤ w.heap.size + 1; omega) (.int .i64 0)
  go_wp2
  refine bodyPost_ret (v := .tuple #[.agg #[.int .i64 0, .int .i64 0, .int .i64 0], .int .i64 1]) ?_ rfl ⟨rfl, hb2⟩
  simp [results, Try.results47, go_sem, k0, k1, k2]
structure EvT (a2 a3 a4 : Addr) (x y z : Int) (w : World) : Prop where
  h2 : w.cell? a2 = some (.int .i64 x)
  h3 : w.cell? a3 = some (.int .i64 y)
  h4 : w.cell? a4 = some (.int .i64 z)
theorem Evs.gb {w w' : World} {a : Option Addr} {E : List Ev} {r : Nat} (h : Evs w a E) (hg : w.grownBy w' (some r)) (hne : ∀ ad, a = some ad → ad.block ≠ r) : Evs w' a E := by
  refine ⟨h.1, fun i x hx => ?_⟩
  obtain ⟨b, off, ha, hbs, c0, c1, c2, c3, c4⟩ := h.2 i x hx
  have hs := hg.size
  have hk : ∀ o, w'.cell? ⟨b, o, none⟩ = w.cell? ⟨b, o, none⟩ := fun o => World.cell?_of_block (hg.block b hbs (fun e => by injection e with e; exact hne _ ha e))
  exact ⟨b, off, ha, by omega, by rw [hk]; exact c0, by rw [hk]; exact c1, by rw [hk]; exact c2, by rw [hk]; exact c3, by rw [hk]; exact c4⟩
theorem gset3 (W : World) (g : Nat) (v0 v1 v2 : Value) : W.grownBy (((W.setCell ⟨g, 0, none⟩ v0).setCell ⟨g, 1, none⟩ v1).setCell ⟨g, 2, none⟩ v2) (some g) := gtr (gtr (gset W ⟨g, 0, none⟩ v0) (gset _ ⟨g, 1, none⟩ v1)) (gset _ ⟨g, 2, none⟩ v2)
/-- The stand so far lies in a block. -/
structure StR (b4 b7 : Nat) (a : Option Addr) (E : List Ev) (q y s : Int) (w wr : World) : Prop where
  x4 : Bx wr b4 #[.int .i64 0, .int .i64 0, .int .i64 0] 50
  x7 : Bx wr b7 #[.int .i64 q, .int .i64 y, .int .i64 s] 50
  ev : Evs wr a E
  hb : Below w.heap.size w wr
set_option maxRecDepth 100000 in
set_option maxHeartbeats 6000000 in
theorem rStand_ok (ar ap : Option Addr) (cr cp : Nat) (rs ps : List (Int × Int)) (p0 way step : Int) (t : Int) (w : World) (hR : Prs w ar rs) (hP : Prs w ap ps) (hv : trB rs ps p0 way step = true) (ht : inR 0 t 9999 = true) (T : Tr) (hT : IsTr T rs ps p0 way step) (c : Car) (hc : c = runM T (t + 1)) :
    Calls Try.prog 47 #[.agg #[.slice ar rs.length cr, .int .i64 p0, .int .i64 way, .int .i64 step, .slice ap ps.length cp], .int .i64 t] w fun e w' => e = .returned (.tuple #[standV c, .int .i64 0]) ∧ Below w.heap.size w w' := by
  obtain ⟨E, hE⟩ : ∃ E, E = refRun T 2700 (startC T) := ⟨_, rfl⟩
  have htI := inR_iff.1 ht
  have hsE : E.foldl (stand1 t) (0, 0, 0) = standOf c := by rw [hc, hE]; exact ref_stand0 hT.hv htI.1 htI.2 (Nat.le_refl _) _
  have hrun := fun V h1 h2 => Run_any ar ap cr cp rs ps p0 way step V h1 h2 T hT E hE
  unfold RunP at hrun
  obtain ⟨n, hn⟩ : ∃ n, n = E.length := ⟨_, rfl⟩
  rw [← hn] at hrun
  have HN := hid hn; have HSE := hid hsE
  clear hn hsE hE hc
  obtain ⟨W, hW, hb, hs, x0, x4⟩ := boxes2 w #[.slice ar rs.length cr, .int .i64 p0, .int .i64 way, .int .i64 step, .slice ap ps.length cp] 25 #[.int .i64 0, .int .i64 0, .int .i64 0] 50
  have c0 := x0.cell 0 rfl; have c1 := x0.cell 1 rfl; have c2 := x0.cell 2 rfl; have c3 := x0.cell 3 rfl; have c4 := x0.cell 4 rfl
  go_enter Try.func47, Try.ntmps47
  go_wp2_with fail
  refine (rCheck_any _ _ _ _ _ _ _ _ _ _ (hR.below hb (Nat.le_refl _)) (hP.below hb (Nat.le_refl _))).mono ?_
  rintro e W1 ⟨rfl, hb1⟩
  rw [hv]
  clear hW
  replace x4 := x4.below hb1
  (try clear c0 c1 c2 c3 c4); replace x0 := x0.below hb1; have c0 := x0.cell 0 rfl; have c1 := x0.cell 1 rfl; have c2 := x0.cell 2 rfl; have c3 := x0.cell 3 rfl; have c4 := x0.cell 4 rfl; replace hb := hb.trans (hb1.mono hb.size); clear hb1
  go_wp2_with fail
  refine (refTime_any _ _).mono ?_
  rintro e V2 ⟨rfl, rfl⟩
  rw [ht]
  obtain ⟨W2, hW2, hbx, hsx, x7⟩ := boxes1 W1 #[.int .i64 0, .int .i64 0, .int .i64 0] 50
  have hl4 := x4.lt
  have hl7 := x7.lt
  replace x4 := x4.below hbx
  (try clear c0 c1 c2 c3 c4); replace x0 := x0.below hbx; have c0 := x0.cell 0 rfl; have c1 := x0.cell 1 rfl; have c2 := x0.cell 2 rfl; have c3 := x0.cell 3 rfl; have c4 := x0.cell 4 rfl; replace hb := hb.trans (hbx.mono hb.size); clear hbx
  go_wp2_with fail
  refine (hrun _ (hR.below hb (Nat.le_refl _)) (hP.below hb (Nat.le_refl _))).mono ?_
  rintro e V1 ⟨hb1, a, ca, rfl, hEv, hnew⟩
  clear hW2 hrun
  replace x4 := x4.below hb1; replace x7 := x7.below hb1
  replace hb := hb.trans (hb1.mono hb.size)
  have hn5 : n ≤ 100000 := by rw [HN.out]; exact hEv.1
  have hnI : (n : Int) ≤ 100000 := by omega
  have hl7b : W1.heap.size < W2.heap.size := hl7
  have hwl : w.heap.size ≤ w.heap.size + 1 := by omega
  have HX := hid (show StR (w.heap.size + 1) W1.heap.size a E 0 0 0 w V1 from ⟨x4, x7, hEv, hb⟩)
  clear c0 c1 c2 c3 c4 x0 hb1 x4 x7 hEv hb
  go_wp2
  go_loopw [9] (fun v9 wr => ∃ (i : Nat) (q y s : Int), i ≤ n ∧ v9 = .int .i64 (i : Int) ∧ Hid ((q, y, s) = (E.take i).foldl (stand1 t) (0, 0, 0)) ∧ StR (w.heap.size + 1) W1.heap.size a E q y s w wr) (fun v9 _ => n - (intOf v9).toNat)
  case atStart => exact ⟨0, 0, 0, 0, Nat.zero_le _, rfl, rfl, HX.out⟩
  case round =>
    clear HX
    obtain ⟨i, q, y, s, hi, rfl, HL, HR⟩ := hrel
    by_cases hlt : i < n
    · have hiI : (i : Int) < (n : Int) := by omega
      have hi0 : (0 : Int) ≤ (i : Int) := by omega
      obtain ⟨x, hx⟩ := ev_at (E := E) (i := i) (by rw [← HN.out]; exact hlt)
      obtain ⟨b, off, rfl, _, k0, _, k2, k3, k4⟩ := HR.ev.2 i x hx
      have hbn := hnew _ rfl
      dsimp only at hbn
      have htk := take_snocI hx
      obtain ⟨fr, hfr⟩ : ∃ fr, fr = x.fr := ⟨_, rfl⟩
      rw [← hfr] at k0
      by_cases hft : fr ≤ t
      · have HF := hid (show (x.pos, x.way, max (-1) x.side) = (E.take (i + 1)).foldl (stand1 t) (0, 0, 0) by
          rw [htk, List.foldl_append, ← HL.out]
          show _ = stand1 t (q, y, s) x
          unfold stand1
          rw [if_pos (by rw [← hfr]; exact hft)])
        clear hx htk hfr
        have HRR := hid HR
        clear HR
        go_upto_region 12 with fail
        have hbd := (Below.refl wr.heap.size wr).drew
        have S0 : EvT ⟨b, off + i * 5 + 2, none⟩ ⟨b, off + i * 5 + 3, none⟩ ⟨b, off + i * 5 + 4, none⟩ x.pos x.way x.side wr.drew := ⟨Below.keep hbd k2, Below.keep hbd k3, Below.keep hbd k4⟩
        have x7d := HRR.out.x7.below hbd
        have HD := hid (show StR (w.heap.size + 1) W1.heap.size (some ⟨b, off, none⟩) E q y s w wr.drew from ⟨HRR.out.x4.below hbd, x7d, HRR.out.ev.below hbd (Nat.le_refl _), HRR.out.hb.trans (hbd.mono HRR.out.hb.size)⟩)
        clear k0 k2 k3 k4 hbd HRR
        refine wp_region_head 17 (EvT ⟨b, off + i * 5 + 2, none⟩ ⟨b, off + i * 5 + 3, none⟩ ⟨b, off + i * 5 + 4, none⟩ x.pos x.way x.side) (by kernel_rfl) rfl ?_
        generalize wr.drew = Y0 at *
        refine HeadAt.take (i := 0) (.slice (some ⟨b, off, none⟩) n ca) rfl (by kernel_rfl) (.inl ⟨rfl, fun _ _ => by simp [go_sem]⟩) S0 ?_
        refine HeadAt.take (i := 1) (.int .i64 (i : Int)) rfl (by kernel_rfl) (.inl ⟨rfl, fun _ _ => by simp [go_sem]⟩) S0 ?_
        refine HeadAt.take (i := 2) (.pointer (some ⟨b, off + i * 5, none⟩)) rfl (by kernel_rfl) (.inl ⟨rfl, fun w' z => ?_⟩) S0 ?_
        · (simp [go_sem, hiI, hi0])
        simp only [Act.put, List.getElem_toArray, List.getElem_cons_succ, List.getElem_cons_zero, List.setIfInBounds_toArray, List.set_cons_succ, List.set_cons_zero]
        refine HeadAt.take (i := 3) (.pointer (some ⟨b, off + i * 5 + 2, none⟩)) rfl (by kernel_rfl) (.inl ⟨rfl, fun _ _ => by simp [go_sem]⟩) S0 ?_
        refine HeadAt.take (i := 4) (.int .i64 x.pos) rfl (by kernel_rfl) (.inl ⟨rfl, fun w' z => ?_⟩) S0 ?_
        · (simp [go_sem, z.h2])
        refine HeadAt.take (i := 5) (.slice (some ⟨b, off, none⟩) n ca) rfl (by kernel_rfl) (.inl ⟨rfl, fun _ _ => by simp [go_sem]⟩) S0 ?_
        refine HeadAt.take (i := 6) (.int .i64 (i : Int)) rfl (by kernel_rfl) (.inl ⟨rfl, fun _ _ => by simp [go_sem]⟩) S0 ?_
        simp only [Act.put, List.getElem_toArray, List.getElem_cons_succ, List.getElem_cons_zero, List.setIfInBounds_toArray, List.set_cons_succ, List.set_cons_zero]
        refine HeadAt.take (i := 7) (.pointer (some ⟨b, off + i * 5, none⟩)) rfl (by kernel_rfl) (.inl ⟨rfl, fun w' z => ?_⟩) S0 ?_
        · (simp [go_sem, hiI, hi0])
        refine HeadAt.take (i := 8) (.pointer (some ⟨b, off + i * 5 + 3, none⟩)) rfl (by kernel_rfl) (.inl ⟨rfl, fun _ _ => by simp [go_sem]⟩) S0 ?_
        refine HeadAt.take (i := 9) (.int .i64 x.way) rfl (by kernel_rfl) (.inl ⟨rfl, fun w' z => ?_⟩) S0 ?_
        · (simp [go_sem, z.h3])
        refine HeadAt.take (i := 10) (.slice (some ⟨b, off, none⟩) n ca) rfl (by kernel_rfl) (.inl ⟨rfl, fun _ _ => by simp [go_sem]⟩) S0 ?_
        refine HeadAt.take (i := 11) (.int .i64 (i : Int)) rfl (by kernel_rfl) (.inl ⟨rfl, fun _ _ => by simp [go_sem]⟩) S0 ?_
        simp only [Act.put, List.getElem_toArray, List.getElem_cons_succ, List.getElem_cons_zero, List.setIfInBounds_toArray, List.set_cons_succ, List.set_cons_zero]
        refine HeadAt.take (i := 12) (.pointer (some ⟨b, off + i * 5, none⟩)) rfl (by kernel_rfl) (.inl ⟨rfl, fun w' z => ?_⟩) S0 ?_
        · (simp [go_sem, hiI, hi0])
        refine HeadAt.take (i := 13) (.pointer (some ⟨b, off + i * 5 + 4, none⟩)) rfl (by kernel_rfl) (.inl ⟨rfl, fun _ _ => by simp [go_sem]⟩) S0 ?_
        refine HeadAt.take (i := 14) (.int .i64 x.side) rfl (by kernel_rfl) (.inl ⟨rfl, fun w' z => ?_⟩) S0 ?_
        · (simp [go_sem, z.h4])
        refine HeadAt.take (i := 15) (.int .i64 (max (-1) x.side)) rfl (by kernel_rfl) (.inl ⟨rfl, fun w' z => ?_⟩) S0 ?_
        · (simp [go_sem])
        simp only [Act.put, List.getElem_toArray, List.getElem_cons_succ, List.getElem_cons_zero, List.setIfInBounds_toArray, List.set_cons_succ, List.set_cons_zero]
        refine HeadAt.take (i := 16) (.agg #[.int .i64 x.pos, .int .i64 x.way, .int .i64 (max (-1) x.side)]) rfl (by kernel_rfl) (.inl ⟨rfl, fun w' z => ?_⟩) S0 ?_
        · (simp [go_sem])
        refine HeadAt.done (by kernel_rfl) ?_
        (try simp only [Act.put, List.drop_succ_cons, List.drop_zero, List.getElem_toArray, List.getElem_cons_succ, List.getElem_cons_zero])
        clear S0
        obtain ⟨mx, hmx⟩ : ∃ mx, mx = max (-1) x.side := ⟨_, rfl⟩
        rw [← hmx] at HF ⊢
        clear hmx
        have f0 := x7d.free 0; have f1 := x7d.free 1; have f2 := x7d.free 2
        have z0 := x7d.cell 0 rfl; have z1 := x7d.cell 1 rfl; have z2 := x7d.cell 2 rfl
        have g3 := gset3 Y0 W1.heap.size (.int .i64 x.pos) (.int .i64 x.way) (.int .i64 mx)
        have HQ := hid (show StR (w.heap.size + 1) W1.heap.size (some ⟨b, off, none⟩) E x.pos x.way mx w _ from
          ⟨HD.out.x4.gb g3 (fun k hk => by cases hk; omega), x7d.set3 (.int .i64 x.pos) (.int .i64 x.way) (.int .i64 mx), HD.out.ev.gb g3 (fun ad had => by injection had with had; rw [← had]; show b ≠ W1.heap.size; omega), HD.out.hb.grown g3 HD.out.hb.size (fun k hk => by cases hk; omega)⟩)
        clear x7d g3 HD
        go_wp2_with fail
        refine NoPanic.normal ?_
        clear f0 f1 f2 z0 z1 z2
        go_wp2
        go_roundw
        case rel => exact ⟨i + 1, x.pos, x.way, mx, by omega, by go_num, HF, HQ.out⟩
        case measure => simp [intOf]; omega
      · have HF := hid (show (q, y, s) = (E.take (i + 1)).foldl (stand1 t) (0, 0, 0) by
          rw [htk, List.foldl_append, ← HL.out]
          show _ = stand1 t (q, y, s) x
          unfold stand1
          rw [if_neg (by rw [← hfr]; exact hft)])
        have hfl : t < fr := by omega
        clear hx htk hfr hft
        have HRR := hid HR
        clear HR k2 k3 k4
        go_wp2
        go_roundw
        case rel => exact ⟨i + 1, q, y, s, by omega, by go_num, HF, HRR.out⟩
        case measure => simp [intOf]; omega
    · have hiI : (n : Int) ≤ (i : Int) := by omega
      have hfin : (q, y, s) = standOf c := by
        rw [HL.out, List.take_of_length_le (by rw [← HN.out]; omega)]
        exact HSE.out
      unfold standOf at hfin
      simp only [Prod.mk.injEq] at hfin
      have x4 := HR.x4; have x7 := HR.x7
      have d0 := x7.cell 0 rfl; have d1 := x7.cell 1 rfl; have d2 := x7.cell 2 rfl
      have f0 := x4.free 0; have f1 := x4.free 1; have f2 := x4.free 2
      have z0 := x4.cell 0 rfl; have z1 := x4.cell 1 rfl; have z2 := x4.cell 2 rfl
      have x5 := x4.set3 (.int .i64 q) (.int .i64 y) (.int .i64 s)
      have k0 := x5.cell 0 rfl; have k1 := x5.cell 1 rfl; have k2 := x5.cell 2 rfl
      have g3 := gset3 wr (w.heap.size + 1) (.int .i64 q) (.int .i64 y) (.int .i64 s)
      have HB := hid (HR.hb.grown g3 HR.hb.size (fun k hk => by cases hk; omega))
      have HD := hid hfin
      clear hfin x4 x7 x5 g3 HR
      go_wp2
      refine bodyPost_ret (v := .tuple #[standV c, .int .i64 0]) ?_ rfl ⟨rfl, HB.out⟩
      unfold standV
      have hw : (if c.up then 1 else -1 : Int) = y := HD.out.2.1.symm
      rw [← HD.out.1, hw, ← HD.out.2.2]
      simp [results, Try.results47, go_sem, k0, k1, k2]
end Go.Proofs.Ytknaljghpfeikaa
