import Derived.Test.YtknaljghpfeikaaT27
namespace Go.Proofs.Ytknaljghpfeikaa
open Go.RowKit

set_option maxRecDepth 100000 in
set_option maxHeartbeats 4000000 in
/-- The reference's validity of the presses. -/
theorem presses_any (ar ap : Option Addr) (cr cp : Nat) (rs ps : List (Int × Int)) (p0 way step : Int) (m : Nat) (w : World) (_hR : Prs w ar rs) (hP : Prs w ap ps) (hm : m ≤ 100) (hl : rs.length ≤ 1000000) :
    Calls Try.prog 64 #[.agg #[.slice ar rs.length cr, .int .i64 p0, .int .i64 way, .int .i64 step, .slice ap ps.length cp], .int .i64 (m : Int)] w fun e w' => e = .returned (.int .i64 (if (decide (ps.length ≤ m) && ps.all (preB rs.length)) = true then 0 else 20)) ∧ Below w.heap.size w w' := by
  have lp := hP.1
  have hpI : (ps.length : Int) ≤ 4611686018427387903 := by omega
  have hmI : (m : Int) ≤ 100 := by omega
  obtain ⟨W, hW, hb, hs, x0⟩ := boxes1 w #[.slice ar rs.length cr, .int .i64 p0, .int .i64 way, .int .i64 step, .slice ap ps.length cp] 25
  have c0 := x0.cell 0 rfl; have c1 := x0.cell 1 rfl; have c2 := x0.cell 2 rfl; have c3 := x0.cell 3 rfl; have c4 := x0.cell 4 rfl
  have hxl := x0.lt
  by_cases hmx : ps.length ≤ m
  · have hmxI : (ps.length : Int) ≤ (m : Int) := by omega
    have hg : (decide (ps.length ≤ m) && ps.all (preB rs.length)) = ps.all (preB rs.length) := by simp [hmx]
    rw [hg]
    clear hg
    have hdm : decide (m < ps.length) = false := by simp; omega
    obtain ⟨r, hr⟩ : ∃ r : Int, r = if ps.all (preB rs.length) = true then 0 else 20 := ⟨_, rfl⟩
    rw [← hr]
    have HR := hid hr
    clear hr
    go_enter Try.func64, Try.ntmps64
    go_wp2
    clear c0 c1 c2 c3 c4
    go_loopw [4, 5] (fun v4 v5 wr => ∃ k : Nat, k ≤ ps.length ∧ v4 = .int .i64 0 ∧ v5 = .int .i64 (k : Int) ∧ Below W.heap.size W wr ∧ Hid (ps.all (preB rs.length) = (ps.drop k).all (preB rs.length))) (fun _ v5 _ => ps.length - (intOf v5).toNat)
    case atStart => exact ⟨0, Nat.zero_le _, rfl, rfl, Below.refl _ _, hid rfl⟩
    case round =>
      obtain ⟨k, hk, rfl, rfl, hb1, HA⟩ := hrel
      have x1 := x0.below hb1
      have hbr := hb.trans (hb1.mono hb.size)
      by_cases hlt : k < ps.length
      · have hPr := hP.below hbr (Nat.le_refl _)
        obtain ⟨b, off, u, t, rfl, _, g0, g1, _, _, hx, hd⟩ := hPr.at hlt
        have hall : ps.all (preB rs.length) = (preB rs.length (u, t) && (ps.drop (k + 1)).all (preB rs.length)) := by rw [HA.out, hd.out]; rfl
        have HB := hid hall
        clear hall hx hd HA
        have hkI : (k : Int) < (ps.length : Int) := by omega
        have hk0 : (0 : Int) ≤ (k : Int) := by omega
        have hsd := fun W => isSide_29 ar (some ⟨b, off, none⟩) cr cp rs ps p0 way step u W (by omega)
        obtain ⟨q1, hq1⟩ : ∃ q1, q1 = inR 0 u (2 * (rs.length : Int) - 1) := ⟨_, rfl⟩
        obtain ⟨q2, hq2⟩ : ∃ q2, q2 = inR 0 t 9999 := ⟨_, rfl⟩
        have hpre : preB rs.length (u, t) = (q1 && q2) := by rw [hq1, hq2]; rfl
        have HP := hid hpre
        have hti := fun W => refTime_any t W
        rw [← hq1] at hsd
        rw [← hq2] at hti
        clear hq1 hq2 hpre
        have c0 := x1.cell 0 rfl; have c1 := x1.cell 1 rfl; have c2 := x1.cell 2 rfl; have c3 := x1.cell 3 rfl; have c4 := x1.cell 4 rfl
        go_upto_region 6 with fail
        clear c0 c1 c2 c3 c4
        have hbd := (Below.refl wr.heap.size wr).drew
        have S0 := And.intro (x1.below hbd) (And.intro (Below.keep hbd g0) (Below.keep hbd g1))
        replace hb1 := hb1.trans (hbd.mono hb1.size)
        clear hbd g0 g1 x1 hbr hPr
        refine wp_region_head 18 (fun w' => Bx w' w.heap.size #[.slice ar rs.length cr, .int .i64 p0, .int .i64 way, .int .i64 step, .slice (some ⟨b, off, none⟩) ps.length cp] 25 ∧ w'.cell? ⟨b, off + k * 2, none⟩ = some (.int .i64 u) ∧ w'.cell? ⟨b, off + k * 2 + 1, none⟩ = some (.int .i64 t)) (by kernel_rfl) rfl ?_
        generalize wr.drew = Y0 at *
        refine HeadAt.take (i := 0) (.agg #[.slice ar rs.length cr, .int .i64 p0, .int .i64 way, .int .i64 step, .slice (some ⟨b, off, none⟩) ps.length cp]) rfl (by kernel_rfl) (.inl ⟨rfl, fun w' z => ?_⟩) S0 ?_
        · (have z0 := z.1.cell 0 rfl; have z1 := z.1.cell 1 rfl; have z2 := z.1.cell 2 rfl; have z3 := z.1.cell 3 rfl; have z4 := z.1.cell 4 rfl; simp [go_sem, z0, z1, z2, z3, z4])
        refine HeadAt.take (i := 1) (.pointer (some ⟨w.heap.size, 4, none⟩)) rfl (by kernel_rfl) (.inl ⟨rfl, fun _ _ => by simp [go_sem]⟩) S0 ?_
        refine HeadAt.take (i := 2) (.slice (some ⟨b, off, none⟩) ps.length cp) rfl (by kernel_rfl) (.inl ⟨rfl, fun w' z => ?_⟩) S0 ?_
        · (have z4 := z.1.cell 4 rfl; simp [go_sem, z4])
        refine HeadAt.take (i := 3) (.int .i64 (k : Int)) rfl (by kernel_rfl) (.inl ⟨rfl, fun _ _ => by simp [go_sem]⟩) S0 ?_
        refine HeadAt.take (i := 4) (.pointer (some ⟨b, off + k * 2, none⟩)) rfl (by kernel_rfl) (.inl ⟨rfl, fun w' z => ?_⟩) S0 ?_
        · (simp [go_sem, hkI, hk0])
        refine HeadAt.take (i := 5) (.pointer (some ⟨b, off + k * 2, none⟩)) rfl (by kernel_rfl) (.inl ⟨rfl, fun _ _ => by simp [go_sem]⟩) S0 ?_
        refine HeadAt.take (i := 6) (.int .i64 u) rfl (by kernel_rfl) (.inl ⟨rfl, fun w' z => ?_⟩) S0 ?_
        · (simp [go_sem, z.2.1])
        refine HeadAt.one (i := 7) rfl (by kernel_rfl) ?_
        generalize hK : Upto _ _ = K0
        (try simp only [Act.put, List.getElem_toArray, List.getElem_cons_succ, List.getElem_cons_zero, List.setIfInBounds_toArray, List.set_cons_succ, List.set_cons_zero])
        go_wp2_with fail
        refine (hsd _).mono ?_
        rintro e Y1 ⟨rfl, hb2⟩
        replace S0 := And.intro (S0.1.below hb2) (And.intro (Below.keep hb2 S0.2.1) (Below.keep hb2 S0.2.2))
        replace hb1 := hb1.trans (hb2.mono hb1.size)
        clear hb2 hsd
        go_wp2_with fail
        subst hK
        refine ⟨S0, ?_⟩
        cases q1
        · have hz : ps.all (preB rs.length) = false := by rw [HB.out, HP.out]; rfl
          have HZ := hid hz
          clear hz
          refine HeadAt.take (i := 8) (.bool true) rfl (by kernel_rfl) (.inl ⟨rfl, fun _ _ => by simp [go_sem]⟩) S0 ?_
          refine HeadAt.take (i := 9) (.bool true) rfl (by kernel_rfl) (.inl ⟨rfl, fun _ _ => by simp [go_sem]⟩) S0 ?_
          simp only [Act.put, List.getElem_toArray, List.getElem_cons_succ, List.getElem_cons_zero, List.setIfInBounds_toArray, List.set_cons_succ, List.set_cons_zero]
          refine HeadAt.take (i := 10) undef rfl (by kernel_rfl) (.inr ⟨by kernel_rfl, rfl⟩) S0 ?_
          refine HeadAt.take (i := 11) undef rfl (by kernel_rfl) (.inr ⟨by kernel_rfl, rfl⟩) S0 ?_
          refine HeadAt.take (i := 12) undef rfl (by kernel_rfl) (.inr ⟨by kernel_rfl, rfl⟩) S0 ?_
          refine HeadAt.take (i := 13) undef rfl (by kernel_rfl) (.inr ⟨by kernel_rfl, rfl⟩) S0 ?_
          refine HeadAt.take (i := 14) undef rfl (by kernel_rfl) (.inr ⟨by kernel_rfl, rfl⟩) S0 ?_
          refine HeadAt.take (i := 15) undef rfl (by kernel_rfl) (.inr ⟨by kernel_rfl, rfl⟩) S0 ?_
          refine HeadAt.take (i := 16) undef rfl (by kernel_rfl) (.inr ⟨by kernel_rfl, rfl⟩) S0 ?_
          refine HeadAt.take (i := 17) undef rfl (by kernel_rfl) (.inr ⟨by kernel_rfl, rfl⟩) S0 ?_
          refine HeadAt.done (by kernel_rfl) ?_
          (try simp only [Act.put, List.drop_succ_cons, List.drop_zero, List.getElem_toArray, List.getElem_cons_succ, List.getElem_cons_zero])
          clear S0
          go_wp2_with fail
          refine NoPanic.normal ?_
          go_wp2
          go_ret
          exact ⟨by rw [show r = 20 from by rw [HR.out, HZ.out]; rfl]; rfl, hb.trans (hb1.mono hb.size)⟩
        · skip
          refine HeadAt.take (i := 8) (.bool false) rfl (by kernel_rfl) (.inl ⟨rfl, fun _ _ => by simp [go_sem]⟩) S0 ?_
          refine HeadAt.take (i := 9) (.bool false) rfl (by kernel_rfl) (.inl ⟨rfl, fun _ _ => by simp [go_sem]⟩) S0 ?_
          simp only [Act.put, List.getElem_toArray, List.getElem_cons_succ, List.getElem_cons_zero, List.setIfInBounds_toArray, List.set_cons_succ, List.set_cons_zero]
          refine HeadAt.take (i := 10) (.pointer (some ⟨w.heap.size, 4, none⟩)) rfl (by kernel_rfl) (.inl ⟨rfl, fun _ _ => by simp [go_sem]⟩) S0 ?_
          refine HeadAt.take (i := 11) (.slice (some ⟨b, off, none⟩) ps.length cp) rfl (by kernel_rfl) (.inl ⟨rfl, fun w' z => ?_⟩) S0 ?_
          · (have z4 := z.1.cell 4 rfl; simp [go_sem, z4])
          refine HeadAt.take (i := 12) (.int .i64 (k : Int)) rfl (by kernel_rfl) (.inl ⟨rfl, fun _ _ => by simp [go_sem]⟩) S0 ?_
          simp only [Act.put, List.getElem_toArray, List.getElem_cons_succ, List.getElem_cons_zero, List.setIfInBounds_toArray, List.set_cons_succ, List.set_cons_zero]
          refine HeadAt.take (i := 13) (.pointer (some ⟨b, off + k * 2, none⟩)) rfl (by kernel_rfl) (.inl ⟨rfl, fun w' z => ?_⟩) S0 ?_
          · (simp [go_sem, hkI, hk0])
          refine HeadAt.take (i := 14) (.pointer (some ⟨b, off + k * 2 + 1, none⟩)) rfl (by kernel_rfl) (.inl ⟨rfl, fun _ _ => by simp [go_sem]⟩) S0 ?_
          simp only [Act.put, List.getElem_toArray, List.getElem_cons_succ, List.getElem_cons_zero, List.setIfInBounds_toArray, List.set_cons_succ, List.set_cons_zero]
          refine HeadAt.take (i := 15) (.int .i64 t) rfl (by kernel_rfl) (.inl ⟨rfl, fun w' z => ?_⟩) S0 ?_
          · (simp [go_sem, z.2.2])
          refine HeadAt.one (i := 16) rfl (by kernel_rfl) ?_
          generalize hK : Upto _ _ = K0
          (try simp only [Act.put, List.getElem_toArray, List.getElem_cons_succ, List.getElem_cons_zero, List.setIfInBounds_toArray, List.set_cons_succ, List.set_cons_zero])
          go_wp2_with fail
          refine (hti _).mono ?_
          rintro e Y2 ⟨rfl, rfl⟩
          go_wp2_with fail
          subst hK
          refine ⟨S0, ?_⟩
          refine HeadAt.take (i := 17) (.bool (!q2)) rfl (by kernel_rfl) (.inl ⟨rfl, fun _ _ => by simp [go_sem]⟩) S0 ?_
          refine HeadAt.done (by kernel_rfl) ?_
          (try simp only [Act.put, List.drop_succ_cons, List.drop_zero, List.getElem_toArray, List.getElem_cons_succ, List.getElem_cons_zero])
          clear S0 hti
          cases q2
          · have hz : ps.all (preB rs.length) = false := by rw [HB.out, HP.out]; rfl
            have HZ := hid hz
            clear hz
            go_wp2_with fail
            refine NoPanic.normal ?_
            go_wp2
            go_ret
            exact ⟨by rw [show r = 20 from by rw [HR.out, HZ.out]; rfl]; rfl, hb.trans (hb1.mono hb.size)⟩
          · have hz : ps.all (preB rs.length) = (ps.drop (k + 1)).all (preB rs.length) := by rw [HB.out, HP.out]; rfl
            have HZ := hid hz
            clear hz
            go_wp2_with fail
            refine NoPanic.normal ?_
            go_wp2_with fail
            go_roundw
            case rel => exact ⟨k + 1, by omega, rfl, by go_num, hb1, HZ⟩
            case measure => simp [intOf]; omega
      · have hkI : (ps.length : Int) ≤ (k : Int) := by omega
        have hz : ps.all (preB rs.length) = true := by rw [HA.out, drop_endP hk hlt]; rfl
        have HZ := hid hz
        clear hz
        have c0 := x1.cell 0 rfl; have c1 := x1.cell 1 rfl; have c2 := x1.cell 2 rfl; have c3 := x1.cell 3 rfl; have c4 := x1.cell 4 rfl
        go_wp2
        go_ret
        exact ⟨by rw [show r = 0 from by rw [HR.out, HZ.out]; rfl]; rfl, hbr⟩
  · have hmxI : (m : Int) < (ps.length : Int) := by omega
    have hg : (decide (ps.length ≤ m) && ps.all (preB rs.length)) = false := by simp [hmx]
    rw [hg]
    clear hg
    go_enter Try.func64, Try.ntmps64
    go_wp2
    go_ret
    exact ⟨rfl, hb⟩
end Go.Proofs.Ytknaljghpfeikaa
