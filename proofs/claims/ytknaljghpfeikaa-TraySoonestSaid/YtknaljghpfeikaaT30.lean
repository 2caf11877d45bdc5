import Derived.Test.YtknaljghpfeikaaT27
namespace Go.Proofs.Ytknaljghpfeikaa
open Go.RowKit

set_option maxRecDepth 100000 in
set_option maxHeartbeats 4000000 in
/-- The reference's validity of the presses. -/
theorem presses_any (ar ap : Option Addr) (cr cp : Nat) (rs ps : List (Int × Int)) (p0 way step : Int) (m : Nat) (w : World) (_hR : Prs w ar rs) (hP : Prs w ap ps) (hm : m ≤ 100) (hl : rs.length ≤ 1000000) :
    Calls Try.prog 64 #[.agg #[.slice ar rs.length cr, .int .i64 p0, .int .i64 way, .int .i64 step, .slice ap ps.length cp], .int .i64 (m : Int)] w fun e w' => e = .returned (.int .i64 (if (decide (ps.length ≤ m) && ps.all (preB rs.length)) = true then 0 else 20)) ∧ Below w.heap.size w w' := by
  have lp := hP.1
  have hpI : (ps.length : Int) ≤ 4611686018427387903 := by omega
  have hmI : (m : Int) ≤ 100 := by omega
  obtain ⟨W, hW, hb, hs, x0⟩ := boxes1 w #[.slice ar rs.length cr, .int .i64 p0, .int .i64 way, .int .i64 step, .slice ap ps.length cp] 25
  have c0 := x0.cell 0 rfl; have c1 := x0.cell 1 rfl; have c2 := x0.cell 2 rfl; have c3 := x0.cell 3 rfl; have c4 := x0.cell 4 rfl
  have hxl := x0.lt
  by_cases hmx : ps.length ≤ m
  · have hmxI : (ps.length : Int) ≤ (m : Int) := by omega
    have hg : (decide (ps.length ≤ m) && ps.all (preB rs.length)) = ps.all (preB rs.length) := by simp [hmx]
    rw [hg]
    clear hg
    have hdm : decide (m < ps.length) = false := by simp; omega
    obtain ⟨r, hr⟩ : ∃ r : Int, r = if ps.all (preB rs.length) = true then 0 else 20 := ⟨_, rfl⟩
    rw [← hr]
    have HR := hid hr
    clear hr
    go_enter Try.func64, Try.ntmps64
    go_wp2
    clear c0 c1 c2 c3 c4
    go_loopw [4, 5] (fun v4 v5 wr => ∃ k : Nat, k ≤ ps.length ∧ v4 = .int .i64 0 ∧ v5 = .int .i64 (k : Int) ∧ Below W.heap.size W wr ∧ Hid (ps.all (preB rs.length) = (ps.drop k).all (preB rs.length))) (fun _ v5 _ => ps.length - (intOf v5).toNat)
    case atStart => exact ⟨0, Nat.zero_le _, rfl, rfl, Below.refl _ _, hid rfl⟩
    case round =>
      obtain ⟨k, hk, rfl, rfl, hb1, HA⟩ := hrel
      have x1 := x0.below hb1
      have hbr := hb.trans (hb1.mono hb.size)
      by_cases hlt : k < ps.length
      · have hPr := hP.below hbr (Nat.le_refl _)
        obtain ⟨b, off, u, t, rfl, _, g0, g1, _, _, hx, hd⟩ := hPr.at hlt
        have hall : ps.all (preB rs.length) = (preB rs.length (u, t) && (ps.drop (k + 1)).all (preB rs.length)) := by rw [HA.out, hd.out]; rfl
        have HB := hid hall
        clear hall hx hd HA
        have hkI : (k : Int) < (ps.length : Int) := by omega
        have hk0 : (0 : Int) ≤ (k : Int) := by omega
        have hsd := fun W => isSide_29 ar (some ⟨b, off, none⟩) cr cp rs ps p0 way step u W (by omega)
        obtain ⟨q1, hq1⟩ : ∃ q1, q1 = inR 0 u (2 * (rs.length : Int) - 1) := ⟨_, rfl⟩
        obtain ⟨q2, hq2⟩ : ∃ q2, q2 = inR 0 t 9999 := ⟨_, rfl⟩
        have hpre : preB rs.length (u, t) = (q1 && q2) := by rw [hq1, hq2]; rfl
        have HP := hid hpre
        have hti := fun W => refTime_any t W
        rw [← hq1] at hsd
        rw [← hq2] at hti
        clear hq1 hq2 hpre
        have c0 := x1.cell 0 rfl; have c1 := x1.cell 1 rfl; have c2 := x1.cell 2 rfl; have c3 := x1.cell 3 rfl; have c4 := x1.cell 4 rfl
        go_upto_region 6 with fail
        clear c0 c1 c2 c3 c4
        have hbd := (Below.refl wr.heap.size wr).drew
        have S0 := And.intro (x1.below hbd) (And.intro (Below.keep hbd g0) (Below.keep hbd g1))
        replace hb1 := hb1.trans (hbd.mono hb1.size)
        clear hbd g0 g1 x1 hbr hPr
        refine wp_region_head 18 (fun w' => Bx w' w.heap.size #[.slice ar rs.length cr, .int .i64 p0, .int .i64 way, .int .i64 step, .slice (some ⟨b, off, none⟩) ps.length cp] 25 ∧ w'.cell? ⟨b, off + k * 2, none⟩ = some (.int .i64 u) ∧ w'.cell? ⟨b, off + k * 2 + 1, none⟩ = some (.int .i64 t)) (by kernel_rfl) rfl ?_
        generalize wr.drew = Y0 at *
        refine HeadAt.take (i := 0) (.agg #[.slice ar rs.length cr, .int .i64 p0, .int .i64 way, .int .i64 step, .slice (some ⟨b, off, none⟩) ps.length cp]) rfl (by kernel_rfl) (.inl ⟨rfl, fun w' z => ?_⟩) S0 ?_
        · (have z0 := z.1.cell 0 rfl; have z1 := z.1.cell 1 rfl; have z2 := z.1.cell 2 rfl; have z3 := z.1.cell 3 rfl; have z4 := z.1.cell 4 rfl; simp [go_sem, z0, z1, z2, z3, z4])
        refine HeadAt.take (i := 1) (.pointer (some ⟨w.heap.size, 4, none⟩)) rfl (by kernel_rfl) (.inl ⟨rfl, fun _ _ => by simp [go_sem]⟩) S0 ?_
        refine HeadAt.take (i := 2) (.slice (some ⟨b, off, none⟩) ps.length cp) rfl (by kernel_rfl) (.inl ⟨rfl, fun w' z => ?_⟩) S0 ?_
        · (have z4 := z.1.cell 4 rfl; simp [go_sem, z4])
        refine HeadAt.take (i := 3) (.int .i64 (k : Int)) rfl (by kernel_rfl) (.inl ⟨rfl, fun _ _ => by simp [go_sem]⟩) S0 ?_
        refine HeadAt.take (i := 4) (.pointer (some ⟨b, off + k * 2, none⟩)) rfl (by kernel_rfl) (.inl ⟨rfl, fun w' z => ?_⟩) S0 ?_
        · (simp [go_sem, hkI, hk0])
        refine HeadAt.take (i := 5) (.pointer (some ⟨b, off + k * 2, none⟩)) rfl (by kernel_rfl) (.inl ⟨rfl, fun _ _ => by simp [go_sem]⟩) S0 ?_
        refine HeadAt.take (i := 6) (.int .i64 u) rfl (by kernel_rfl) (.inl ⟨rfl, fun w' z => ?_⟩) S0 ?_
        · (simp [go_sem, z.2.1])
        refine HeadAt.one (i := 7) rfl (by kernel_rfl) ?_
        generalize hK : Upto _ _ = K0
        (try simp only [Act.put, List.getElem_toArray, List.getElem_cons_succ, List.getElem_cons_zero, List.setIfInBounds_toArray, List.set_cons_succ, List.set_cons_zero])
        go_wp2_with fail
        refine (hsd _).mono ?_
        rintro e Y1 ⟨rfl, hb2⟩
        replace S0 := And.intro (S0.1.below hb2) (And.intro (Below.keep hb2 S0.2.1) (Below.keep hb2 S0.2.2))
        replace hb1 := hb1.trans (hb2.mono hb1.size)
        clear hb2 hsd
        go_wp2_with fail
        subst hK
        refine ⟨S0, ?_⟩
        cases q1
        · have hz : ps.all (preB rs.length) = false := by rw [HB.out, HP.out]; rfl
          have HZ := hid hz
          clear hz
          refine HeadAt.take (i := 8) (.bool true) rfl (by kernel_rfl) (.inl ⟨rfl, fun _ _ => by simp [go_sem]⟩) S0 ?_
          refine HeadAt.take (i := 9) (.bool true) rfl (by kernel_rfl) (.inl ⟨rfl, fun _ _ => by simp [go_sem]⟩) S0 ?_
          simp only [Act.put, List.getElem_toArray, List.getElem_cons_succ, List.getElem_cons_zero, List.setIfInBounds_toArray, List.set_cons_succ, List.set_cons_zero]
          refine HeadAt.take (i := 10) undef rfl (by kernel_rfl) (.inr ⟨by kernel_rfl, rfl⟩) S0 ?_
          refine HeadAt.take (i := 11) undef rfl (by kernel_rfl) (.inr ⟨by kernel_rfl, rfl⟩) S0 ?_
          refine HeadAt.take (i := 12) undef rfl (by kernel_rfl) (.inr ⟨by kernel_rfl, rfl⟩) S0 ?_
          refine HeadAt.take (i := 13) undef rfl (by kernel_rfl) (.inr ⟨by kernel_rfl, rfl⟩) S0 ?_
          refine HeadAt.take (i := 14) undef rfl (by kernel_rfl) (.inr ⟨by kernel_rfl, rfl⟩) S0 ?_
          refine HeadAt.take (i := 15) undef rfl (by kernel_rfl) (.inr ⟨by kernel_rfl, rfl⟩) S0 ?_
          refine HeadAt.take (i := 16) undef rfl (by kernel_rfl) (.inr ⟨by kernel_rfl, rfl⟩) S0 ?_
          refine HeadAt.take (i := 17) undef rfl (by kernel_rfl) (.inr ⟨by kernel_rfl, rfl⟩) S0 ?_
          refine HeadAt.done (by kernel_rfl) ?_
          (try simp only [Act.put, List.drop_succ_cons, List.drop_zero, List.getElem_toArray, List.getElem_cons_succ, List.getElem_cons_zero])
          clear S0
          go_wp2_with fail
          refine NoPanic.normal ?_
          go_wp2
          go_ret
          exact ⟨by rw [show r = 20 from by rw [HR.out, HZ.out]; rfl]; rfl, hb.trans (hb1.mono hb.size)⟩
        · skip
          refine HeadAt.take (i := 8) (.bool false) rfl (by kernel_rfl) (.inl ⟨rfl, fun _ _ => by simp [go_sem]⟩) S0 ?_
          refine HeadAt.take (i := 9) (.bool false) rfl (by kernel_rfl) (.inl ⟨rfl, fun _ _ => by simp [go_sem]⟩) S0 ?_
          simp only [Act.put, List.getElem_toArray, List.getElem_cons_succ, List.getElem_cons_zero, List.setIfInBounds_toArray, List.set_cons_succ, List.set_cons_zero]
          refine HeadAt.take (i := 10) (.pointer (some ⟨w.heap.size, 4, none⟩)) rfl (by kernel_rfl) (.inl ⟨rfl, fun _ _ => by simp [go_sem]⟩) S0 ?_
          refine HeadAt.take (i := 11) (.slice (some ⟨b, off, none⟩) ps.length cp) rfl (by kernel_rfl) (.inl ⟨rfl, fun w' z => ?_⟩) S0 ?_
          · (have z4 := z.1.cell 4 rfl; simp [go_sem, z4])
          refine HeadAt.take (i := 12) (.int .i64 (k : Int)) rfl (by kernel_rfl) (.inl ⟨rfl, fun _ _ => by simp [go_sem]⟩) S0 ?_
          simp only [Act.put, List.getElem_toArray, List.getElem_cons_succ, List.getElem_cons_zero, List.setIfInBounds_toArray, List.set_cons_succ, List.set_cons_zero]
          refine HeadAt.take (i := 13) (.pointer (some ⟨b, off + k * 2, none⟩)) rfl (by kernel_rfl) (.inl ⟨rfl, fun w' z => ?_⟩) S0 ?_
          · (simp [go_sem, hkI, hk0])
          refine HeadAt.take (i := 14) (.pointer (some ⟨b, off + k * 2 + 1, none⟩)) rfl (by kernel_rfl) (.inl ⟨rfl, fun _ _ => by simp [go_sem]⟩) S0 ?_
          simp only [Act.put, List.getElem_toArray, List.getElem_cons_succ, List.getElem_cons_zero, List.setIfInBounds_toArray, List.set_cons_succ, List.set_cons_zero]
          refine HeadAt.take (i := 15) (.int .i64 t) rfl (by kernel_rfl) (.inl ⟨rfl, fun w' z => ?_⟩) S0 ?_
          · (simp [go_sem, z.2.2])
          refine HeadAt.one (i := 16) rfl (by kernel_rfl) ?_
          generalize hK : Upto _ _ = K0
          (try simp only [Act.put, List.getElem_toArray, List.getElem_cons_succ, List.getElem_cons_zero, List.setIfInBounds_toArray, List.set_cons_succ, List.set_cons_zero])
          go_wp2_with fail
          refine (hti _).mono ?_
          rintro e Y2 ⟨rfl, rfl⟩
          go_wp2_with fail
          subst hK
          refine ⟨S0, ?_⟩
          refine HeadAt.take (i := 17) (.bool (!q2)) rfl (by kernel_rfl) (.inl ⟨rfl, fun _ _ => by simp [go_sem]⟩) S0 ?_
          refine HeadAt.done (by kernel_rfl) ?_
          (try simp only [Act.put, List.drop_succ_cons, List.drop_zero, List.getElem_toArray, List.getElem_cons_succ, List.getElem_cons_zero])
          clear S0 hti
          cases q2
          · have hz : ps.all (preB rs.length) = false := by rw [HB.out, HP.out]; rfl
            have HZ := hid hz
            clear hz
            go_wp2_with fail
            refine NoPanic.normal ?_
            go_wp2
            go_ret
            exact ⟨by rw [show r = 20 from by rw [HR.out, HZ.out]; rfl]; rfl, hb.trans (hb1.mono hb.size)⟩
          · have hz : ps.all (preB rs.length) = (ps.drop (k + 1)).all (preB rs.length) := by rw [HB.out, HP.out]; rfl
            have HZ := hid hz
            clear hz
            go_wp2_with fail
            refine NoPanic.normal ?_
            go_wp2_with fail
            go_roundw
            case rel => exact ⟨k + 1, by omega, rfl, by go_num, hb1, HZ⟩
            case measure => simp [intOf]; omega
      · have hkI : (ps.length : Int) ≤ (k : Int) := by omega
        have hz : ps.all (preB rs.length) = true := by rw [HA.out, drop_endP hk hlt]; rfl
        have HZ := hid hz
        clear hz
        have c0 := x1.cell 0 rfl; have c1 := x1.cell 1 rfl; have c2 := x1.cell 2 rfl; have c3 := x1.cell 3 rfl; have c4 := x1.cell 4 rfl
        go_wp2
        go_ret
        exact ⟨by rw [show r = 0 from by rw [HR.out, HZ.out]; rfl]; rfl, hbr⟩
  · have hmxI : (m : Int) < (ps.length : Int) := by omega
    have hg : (decide (ps.length ≤ m) && ps.all (preB rs.length)) = false := by simp [hmx]
    rw [hg]
    clear hg
    go_enter Try.func64, Try.ntmps64
    go_wp2
    go_ret
    exact ⟨rfl, hb⟩
end Go.Proofs.Ytknaljghpfeikaa
namespace Go.Proofs.Ytknaljghpfeikaa
open Go.RowKit

theorem under22 : Try.prog.underlying 22 = some (.slice 34) := by kernel_rfl
theorem info34 : (Try.prog.info? 34).map (fun i => (i.zero, i.size, i.bytes)) = some (some (.agg #[.int .i64 0, .int .i64 0]), 2, 16) := by kernel_rfl
theorem Bx.set5 {W : World} {b : Nat} {T : TypeId} {a0 a1 a2 a3 a4 : Value} (h : Bx W b #[a0, a1, a2, a3, a4] T) (v0 v1 v2 v3 v4 : Value) : Bx (((((W.setCell ⟨b, 0, none⟩ v0).setCell ⟨b, 1, none⟩ v1).setCell ⟨b, 2, none⟩ v2).setCell ⟨b, 3, none⟩ v3).setCell ⟨b, 4, none⟩ v4) b #[v0, v1, v2, v3, v4] T := by
  have := ((((h.set 0 v0).set 1 v1).set 2 v2).set 3 v3).set 4 v4
  simpa using this
theorem gset5 (W : World) (g : Nat) (v0 v1 v2 v3 v4 : Value) : W.grownBy (((((W.setCell ⟨g, 0, none⟩ v0).setCell ⟨g, 1, none⟩ v1).setCell ⟨g, 2, none⟩ v2).setCell ⟨g, 3, none⟩ v3).setCell ⟨g, 4, none⟩ v4) (some g) :=
  gtr (gtr (gtr (gtr (gset W ⟨g, 0, none⟩ v0) (gset _ ⟨g, 1, none⟩ v1)) (gset _ ⟨g, 2, none⟩ v2)) (gset _ ⟨g, 3, none⟩ v3)) (gset _ ⟨g, 4, none⟩ v4)
theorem gset04 (W : World) (g : Nat) (v0 v4 : Value) : W.grownBy ((W.setCell ⟨g, 0, none⟩ v0).setCell ⟨g, 4, none⟩ v4) (some g) := gtr (gset W ⟨g, 0, none⟩ v0) (gset _ ⟨g, 4, none⟩ v4)
theorem Bx.set04 {W : World} {b : Nat} {T : TypeId} {a0 a1 a2 a3 a4 : Value} (h : Bx W b #[a0, a1, a2, a3, a4] T) (v0 v4 : Value) : Bx ((W.setCell ⟨b, 0, none⟩ v0).setCell ⟨b, 4, none⟩ v4) b #[v0, a1, a2, a3, v4] T := by
  have := (h.set 0 v0).set 4 v4
  simpa using this
theorem own_base {w : World} {base base' size : Nat} {e : TypeId} {v : Value} {n : Nat} {xs : List Value} (h : w.ownsRow base e size v n xs) (hb : base' ≤ base) : w.ownsRow base' e size v n xs := by
  refine ⟨h.1, ?_⟩
  rcases h.2 with h' | ⟨g, cap, cur, h1, h2, h3⟩
  · exact .inl h'
  · exact .inr ⟨g, cap, cur, h1, by omega, h3⟩
theorem own_lt {w : World} {base size : Nat} {e : TypeId} {v : Value} {n : Nat} {xs : List Value} (h : w.ownsRow base e size v n xs) : ∀ k, v.ownBlock = some k → k < w.heap.size := fun k hk => (h.lt k hk).2
theorem own_keep {w w' : World} {base size : Nat} {e : TypeId} {v : Value} {n : Nat} {xs : List Value} {r : Option Nat} (h : w.ownsRow base e size v n xs) (hg : w.grownBy w' r) (hne : ∀ k, v.ownBlock = some k → r ≠ some k) : w'.ownsRow base e size v n xs := by
  refine h.kept hg ?_
  cases hv : v.ownBlock with
  | none => exact .inl rfl
  | some k => exact .inr fun e => hne k hv e.symm

/-- What Copy returns: a tray in new memory that reads alike. -/
def CopyP (rs ps : List (Int × Int)) (p0 way step : Int) (w : World) (e : Ending) (w' : World) : Prop := Below w.heap.size w w' ∧ ∃ (a1 a2 : Option Addr) (c1 c2 : Nat),
  e = .returned (.agg #[.slice a1 rs.length c1, .int .i64 p0, .int .i64 way, .int .i64 step, .slice a2 ps.length c2]) ∧
  w'.ownsRow w.heap.size 34 2 (.slice a1 rs.length c1) rs.length (pcells rs) ∧ w'.ownsRow w.heap.size 40 2 (.slice a2 ps.length c2) ps.length (pcells ps) ∧
  (∀ k, (Value.slice a1 rs.length c1).ownBlock = some k → (Value.slice a2 ps.length c2).ownBlock ≠ some k)


set_option maxRecDepth 100000 in
set_option maxHeartbeats 6000000 in
theorem copy_any (ar ap : Option Addr) (cr cp : Nat) (rs ps : List (Int × Int)) (p0 way step : Int) (w : World) (hR : Prs w ar rs) (hP : Prs w ap ps) (hl : rs.length ≤ 1000000) (hm : ps.length ≤ 1000000) : Calls Try.prog 24 #[.agg #[.slice ar rs.length cr, .int .i64 p0, .int .i64 way, .int .i64 step, .slice ap ps.length cp]] w (CopyP rs ps p0 way step w) := by
  obtain ⟨i0, hi0, iz0, iz1, iz2⟩ := info_parts info40
  obtain ⟨j0, hj0, jz0, jz1, jz2⟩ := info_parts info34
  obtain ⟨n, hn⟩ : ∃ n, n = rs.length := ⟨_, rfl⟩
  obtain ⟨m, hmm⟩ : ∃ m, m = ps.length := ⟨_, rfl⟩
  have LN : (pcells rs).length = n * 2 := by rw [pcells_len, hn]
  have LM : (pcells ps).length = m * 2 := by rw [pcells_len, hmm]
  rw [← hn, ← hmm]
  rw [← hn] at hl; rw [← hmm] at hm
  have HN := hid hn; have HM := hid hmm; have HLN := hid LN; have HLM := hid LM
  clear hn hmm LN LM
  have hnI : (n : Int) ≤ 1000000 := by omega
  have hmI : (m : Int) ≤ 1000000 := by omega
  have hn0 : (0 : Int) ≤ (n : Int) := by omega
  have hm0 : (0 : Int) ≤ (m : Int) := by omega
  obtain ⟨W, hW, hb, hs, x0, x1⟩ := boxes2 w #[.slice ar n cr, .int .i64 p0, .int .i64 way, .int .i64 step, .slice ap m cp] 25 #[.slice none 0 0, .int .i64 0, .int .i64 0, .int .i64 0, .slice none 0 0] 25
  obtain ⟨W1, hW1, hb1, hs1, x2⟩ := boxes1 W #[.slice none 0 0, .int .i64 0, .int .i64 0, .int .i64 0, .slice none 0 0] 25
  rw [hs] at hs1 x2
  have c0 := x0.cell 0 rfl; have c1 := x0.cell 1 rfl; have c2 := x0.cell 2 rfl; have c3 := x0.cell 3 rfl; have c4 := x0.cell 4 rfl
  replace x0 := x0.below hb1
  replace x1 := x1.below hb1
  replace hb := hb.trans (hb1.mono hb.size)
  have g1 := gset5 W1 (w.heap.size + 1 + 1) (.slice ar n cr) (.int .i64 p0) (.int .i64 way) (.int .i64 step) (.slice ap m cp)
  have x2' := x2.set5 (.slice ar n cr) (.int .i64 p0) (.int .i64 way) (.int .i64 step) (.slice ap m cp)
  have x0' := x0.gb g1 (fun k hk => by cases hk; omega)
  have x1' := x1.gb g1 (fun k hk => by cases hk; omega)
  have hb2 := hb.grown g1 (by omega) (fun k hk => by cases hk; omega)
  have f0 := x2.free 0; have f1 := x2.free 1; have f2 := x2.free 2; have f3 := x2.free 3; have f4 := x2.free 4
  have z0 := x2.cell 0 rfl; have z1 := x2.cell 1 rfl; have z2 := x2.cell 2 rfl; have z3 := x2.cell 3 rfl; have z4 := x2.cell 4 rfl
  have hsz : (((((W1.setCell ⟨w.heap.size + 1 + 1, 0, none⟩ (.slice ar n cr)).setCell ⟨w.heap.size + 1 + 1, 1, none⟩ (.int .i64 p0)).setCell ⟨w.heap.size + 1 + 1, 2, none⟩ (.int .i64 way)).setCell ⟨w.heap.size + 1 + 1, 3, none⟩ (.int .i64 step)).setCell ⟨w.heap.size + 1 + 1, 4, none⟩ (.slice ap m cp)).heap.size = w.heap.size + 1 + 1 + 1 := by simp [hs1]
  have HX := hid (And.intro x0' (And.intro x1' (And.intro x2' (And.intro hb2 hsz))))
  clear x0 x1 x2 x0' x1' x2' g1 hb hb1 hb2 hs1 hsz
  go_enter Try.func24, Try.ntmps24
  go_upto_region 2 with fail
  clear f0 f1 f2 f3 f4 z0 z1 z2 z3 z4 c0 c1 c2 c3 c4
  obtain ⟨x0, x1, x2, hb, hsz⟩ := HX.out
  clear HX
  generalize (((((W1.setCell ⟨w.heap.size + 1 + 1, 0, none⟩ (.slice ar n cr)).setCell ⟨w.heap.size + 1 + 1, 1, none⟩ (.int .i64 p0)).setCell ⟨w.heap.size + 1 + 1, 2, none⟩ (.int .i64 way)).setCell ⟨w.heap.size + 1 + 1, 3, none⟩ (.int .i64 step)).setCell ⟨w.heap.size + 1 + 1, 4, none⟩ (.slice ap m cp)) = W2 at *
  have hcR := (hR.below hb (Nat.le_refl _)).cls
  have hcP := (hP.below hb (Nat.le_refl _)).cls
  have hB := (Below.refl W2.heap.size W2).drew
  clear hR hP hW hW1 hs
  refine wp_region_head 10 (fun w' => Bx w' w.heap.size #[.slice ar n cr, .int .i64 p0, .int .i64 way, .int .i64 step, .slice ap m cp] 25) (by kernel_rfl) rfl ?_
  generalize W2.drew = Z at *
  refine HeadAt.take (i := 1) (.pointer (some ⟨w.heap.size, 0, none⟩)) rfl (by kernel_rfl) (.inl ⟨rfl, fun _ _ => by simp [go_sem]⟩) (x0.below hB) ?_
  refine HeadAt.take (i := 2) (.slice ar n cr) rfl (by kernel_rfl) (.inl ⟨rfl, fun w' z => ?_⟩) (x0.below hB) ?_
  · (have z0 := z.cell 0 rfl; simp [go_sem, z0])
  refine HeadAt.take (i := 5) (.pointer (some ⟨w.heap.size, 4, none⟩)) rfl (by kernel_rfl) (.inl ⟨rfl, fun _ _ => by simp [go_sem]⟩) (x0.below hB) ?_
  refine HeadAt.take (i := 6) (.slice ap m cp) rfl (by kernel_rfl) (.inl ⟨rfl, fun w' z => ?_⟩) (x0.below hB) ?_
  · (have z4 := z.cell 4 rfl; simp [go_sem, z4])
  refine HeadAt.two (i := 0) (j := 4) rfl rfl (by kernel_rfl) ?_ ?_
  · skip
    generalize hK : Upto _ _ = K0
    (try simp only [Act.put, List.getElem_toArray, List.getElem_cons_succ, List.getElem_cons_zero, List.setIfInBounds_toArray, List.set_cons_succ, List.set_cons_zero])
    have hB1 : Below W2.heap.size W2 (Z.alloc (.cells #[] 34)) := hB.alloc hB.size _
    have ownA := own_litB Z 34 2 (B := W2.heap.size) hB.size
    have hltA : Z.heap.size < (Z.alloc (.cells #[] 34)).heap.size := by simp
    have HX := hid (And.intro hB1 (And.intro ownA hltA))
    clear hB1 ownA hltA hB
    go_wp2_with fail
    subst hK
    obtain ⟨hB, ownA, hltA⟩ := HX.out
    clear HX
    refine ⟨x0.below hB, ?_⟩
    obtain ⟨gA, hgA⟩ : ∃ g, g = Z.heap.size := ⟨_, rfl⟩
    rw [← hgA] at ownA hltA ⊢
    generalize Z.alloc (.cells #[] 34) = Z1 at *
    clear hgA
    refine HeadAt.two (i := 3) (j := 4) rfl rfl (by kernel_rfl) ?_ ?_
    · skip
      generalize hK : Upto _ _ = K0
      (try simp only [List.getElem_toArray, List.getElem_cons_succ, List.getElem_cons_zero])
      go_wp2_with (at_builtin; refine wpList_appAt rfl (.tmp 5) (.tmp 7) 22 rfl W2.heap.size 34 j0 (.agg #[.int .i64 0, .int .i64 0]) 2 16 under22 hj0 jz0 jz1 jz2 rfl (by decide) (.slice (some ⟨gA, 0, none⟩) 0 0) 0 [] rfl ownA ar n cr (pcells rs) rfl HLN.out (hcR.below hB (Nat.le_refl _)) (pcells_one rs) (by unfold maxLen; omega) (by omega) hB.size ?_; intro v8 Z2 own8 hg8 hat8)
      subst hK
      rw [Nat.zero_add, List.nil_append] at own8
      replace hB := hB.grown hg8 hB.size (own_ge2 ownA)
      refine ⟨x0.below hB, ?_⟩
      have hlt8 : Z1.heap.size ≤ Z2.heap.size := hg8.size
      have hne8 : ∀ k, v8.ownBlock = some k → k < Z2.heap.size := own_lt own8
      clear hat8 hg8 ownA hltA hlt8
      refine HeadAt.take (i := 8) (.pointer (some ⟨w.heap.size + 1 + 1, 0, none⟩)) rfl (by kernel_rfl) (.inl ⟨rfl, fun _ _ => by simp [go_sem]⟩) (x0.below hB) ?_
      refine HeadAt.one (i := 4) rfl (by kernel_rfl) ?_
      generalize hK : Upto _ _ = K0
      (try simp only [Act.put, List.getElem_toArray, List.getElem_cons_succ, List.getElem_cons_zero, List.setIfInBounds_toArray, List.set_cons_succ, List.set_cons_zero])
      have hB1 : Below W2.heap.size W2 (Z2.alloc (.cells #[] 40)) := hB.alloc hB.size _
      have ownB := own_litB Z2 40 2 (B := W2.heap.size) hB.size
      have hltB : Z2.heap.size < (Z2.alloc (.cells #[] 40)).heap.size := by simp
      replace own8 := own_below2 own8 (below_one (.cells #[] 40))
      have hne9 : ∀ k, v8.ownBlock = some k → k ≠ Z2.heap.size ∧ k < (Z2.alloc (.cells #[] 40)).heap.size := fun k hk => ⟨by have := hne8 k hk; omega, by have := hne8 k hk; omega⟩
      have HX := hid (And.intro hB1 (And.intro ownB (And.intro hltB (And.intro own8 hne9))))
      clear hB1 ownB hltB own8 hne9 hne8 hB
      go_wp2_with fail
      subst hK
      obtain ⟨hB, ownB, hltB, own8, hne8⟩ := HX.out
      clear HX
      refine ⟨x0.below hB, ?_⟩
      obtain ⟨gB, hgB⟩ : ∃ g, g = Z2.heap.size := ⟨_, rfl⟩
      rw [← hgB] at ownB hltB hne8 ⊢
      generalize Z2.alloc (.cells #[] 40) = Z3 at *
      clear hgB
      refine HeadAt.one (i := 7) rfl (by kernel_rfl) ?_
      generalize hK : Upto _ _ = K0
      (try simp only [List.getElem_toArray, List.getElem_cons_succ, List.getElem_cons_zero])
      go_wp2_with (at_builtin; refine wpList_appAt rfl (.tmp 9) (.tmp 11) 23 rfl W2.heap.size 40 i0 (.agg #[.int .i64 0, .int .i64 0]) 2 16 under23 hi0 iz0 iz1 iz2 rfl (by decide) (.slice (some ⟨gB, 0, none⟩) 0 0) 0 [] rfl ownB ap m cp (pcells ps) rfl HLM.out (hcP.below hB (Nat.le_refl _)) (pcells_one ps) (by unfold maxLen; omega) (by omega) hB.size ?_; intro v12 Z4 own12 hg12 hat12)
      subst hK
      rw [Nat.zero_add, List.nil_append] at own12
      replace hB := hB.grown hg12 hB.size (own_ge2 ownB)
      refine ⟨x0.below hB, ?_⟩
      have hne : ∀ k, v8.ownBlock = some k → v12.ownBlock ≠ some k := fun k hk e => by have h1 := hne8 k hk; rcases hat12 with h | h <;> rw [e] at h <;> simp [Value.ownBlock] at h <;> omega
      replace own8 := own_keep own8 hg12 (fun k hk e => by have h1 := hne8 k hk; simp [Value.ownBlock] at e; omega)
      clear hat12 hg12 ownB hltB hne8
      obtain ⟨V7, hV7⟩ : ∃ V, V = Z4 := ⟨_, rfl⟩
      rw [← hV7] at hB own8 own12 ⊢
      clear hV7
      obtain ⟨a1, c1, rfl⟩ := own_slice2 own8
      obtain ⟨a2, c2, rfl⟩ := own_slice2 own12
      have y1 := x1.belowB hB (by omega)
      have y2 := x2.belowB hB (by omega)
      replace hb := hb.trans (hB.mono hb.size)
      have hszB := hB.size
      have g1a := gset V7 ⟨w.heap.size + 1 + 1, 0, none⟩ (.slice a1 n c1)
      have y2a : Bx (V7.setCell ⟨w.heap.size + 1 + 1, 0, none⟩ (.slice a1 n c1)) (w.heap.size + 1 + 1) #[.slice a1 n c1, .int .i64 p0, .int .i64 way, .int .i64 step, .slice ap m cp] 25 := y2.set 0 (.slice a1 n c1)
      have y1a := y1.gb g1a (fun k hk => by cases hk; show w.heap.size + 1 ≠ w.heap.size + 1 + 1; omega)
      have y0a := (x0.belowB hB (by omega)).gb g1a (fun k hk => by cases hk; show w.heap.size ≠ w.heap.size + 1 + 1; omega)
      have f0 := y2.free 0; have z0 := y2.cell 0 rfl
      have hba := hb.grown g1a (by omega) (fun k hk => by cases hk; show w.heap.size ≤ w.heap.size + 1 + 1; omega)
      have own8a := own_keep own8 g1a (fun k hk e => by have := own_ge2 own8 k hk; injection e with e; have e' : w.heap.size + 1 + 1 = k := e; omega)
      have own12a := own_keep own12 g1a (fun k hk e => by have := own_ge2 own12 k hk; injection e with e; have e' : w.heap.size + 1 + 1 = k := e; omega)
      have hsz8 : w.heap.size + 1 + 1 < (V7.setCell ⟨w.heap.size + 1 + 1, 0, none⟩ (.slice a1 n c1)).heap.size := y2a.lt
      have HY := hid (And.intro y0a (And.intro y1a (And.intro y2a (And.intro hba (And.intro own8a (And.intro own12a (And.intro hsz8 hne)))))))
      clear y0a y1a y2a hba own8a own12a g1a y1 y2 hb own8 own12 hB x0 x1 x2 hsz8 hszB hne
      refine HeadAt.one (i := 9) rfl (by kernel_rfl) ?_
      generalize hK : Upto _ _ = K0
      (try simp only [List.getElem_toArray, List.getElem_cons_succ, List.getElem_cons_zero])
      go_wp2_with fail
      subst hK
      clear f0 z0
      obtain ⟨S0, y1, y2, hb, own8, own12, hsz8, hne⟩ := HY.out
      clear HY
      refine ⟨S0, ?_⟩
      generalize V7.setCell ⟨w.heap.size + 1 + 1, 0, none⟩ (.slice a1 n c1) = V8 at *
      refine HeadAt.done (by kernel_rfl) ?_
      (try simp only [List.drop_succ_cons, List.drop_zero])
      clear S0
      have g1 := gset V8 ⟨w.heap.size + 1 + 1, 4, none⟩ (.slice a2 m c2)
      have y2' : Bx (V8.setCell ⟨w.heap.size + 1 + 1, 4, none⟩ (.slice a2 m c2)) (w.heap.size + 1 + 1) #[.slice a1 n c1, .int .i64 p0, .int .i64 way, .int .i64 step, .slice a2 m c2] 25 := y2.set 4 (.slice a2 m c2)
      have y1' := y1.gb g1 (fun k hk => by cases hk; show w.heap.size + 1 ≠ w.heap.size + 1 + 1; omega)
      have f4 := y2.free 4; have z4 : V8.cell? ⟨w.heap.size + 1 + 1, 4, none⟩ = some (.slice ap m cp) := y2.cell 4 rfl
      have k0 := y2'.cell 0 rfl; have k1 := y2'.cell 1 rfl; have k2 := y2'.cell 2 rfl; have k3 := y2'.cell 3 rfl; have k4 := y2'.cell 4 rfl
      have hb' := hb.grown g1 (by omega) (fun k hk => by cases hk; show w.heap.size ≤ w.heap.size + 1 + 1; omega)
      have own8' := own_keep own8 g1 (fun k hk e => by have := own_ge2 own8 k hk; injection e with e; have e' : w.heap.size + 1 + 1 = k := e; omega)
      have own12' := own_keep own12 g1 (fun k hk e => by have := own_ge2 own12 k hk; injection e with e; have e' : w.heap.size + 1 + 1 = k := e; omega)
      have g2 := gset5 (V8.setCell ⟨w.heap.size + 1 + 1, 4, none⟩ (.slice a2 m c2)) (w.heap.size + 1) (.slice a1 n c1) (.int .i64 p0) (.int .i64 way) (.int .i64 step) (.slice a2 m c2)
      have y1'' := y1'.set5 (.slice a1 n c1) (.int .i64 p0) (.int .i64 way) (.int .i64 step) (.slice a2 m c2)
      have hbV := hb'.grown g2 (by have := hb'.size; omega) (fun k hk => by cases hk; omega)
      have own8'' := own_keep own8' g2 (fun k hk e => by have := own_ge2 own8' k hk; injection e with e; omega)
      have own12'' := own_keep own12' g2 (fun k hk e => by have := own_ge2 own12' k hk; injection e with e; omega)
      have HE := hid (And.intro hbV (And.intro (own_base own8'' (show w.heap.size ≤ W2.heap.size by omega)) (And.intro (own_base own12'' (show w.heap.size ≤ W2.heap.size by omega)) hne)))
      have d0 := y1'.free 0; have d1 := y1'.free 1; have d2 := y1'.free 2; have d3 := y1'.free 3; have d4 := y1'.free 4
      have e0 := y1'.cell 0 rfl; have e1 := y1'.cell 1 rfl; have e2 := y1'.cell 2 rfl; have e3 := y1'.cell 3 rfl; have e4 := y1'.cell 4 rfl
      have r0 := y1''.cell 0 rfl; have r1 := y1''.cell 1 rfl; have r2 := y1''.cell 2 rfl; have r3 := y1''.cell 3 rfl; have r4 := y1''.cell 4 rfl
      clear y1 y2 g1 y2' y1' hb' own8 own12 own8' own12' own8'' own12'' g2 y1'' hbV hne hb hsz8
      go_wp2_with fail
      refine NoPanic.normal ?_
      go_wp2
      refine bodyPost_ret (v := .agg #[.slice a1 n c1, .int .i64 p0, .int .i64 way, .int .i64 step, .slice a2 m c2]) ?_ rfl ⟨HE.out.1, a1, a2, c1, c2, by rw [HN.out, HM.out], by rw [← HN.out]; exact HE.out.2.1, by rw [← HM.out]; exact HE.out.2.2.1, by rw [← HN.out, ← HM.out]; exact HE.out.2.2.2⟩
      simp [results, Try.results24, go_sem, r0, r1, r2, r3, r4]
    · skip
      generalize hK : Upto _ _ = K0
      (try simp only [List.getElem_toArray, List.getElem_cons_succ, List.getElem_cons_zero])
      have hB1 : Below W2.heap.size W2 (Z1.alloc (.cells #[] 40)) := hB.alloc hB.size _
      have ownB := own_litB Z1 40 2 (B := W2.heap.size) hB.size
      have hltB : Z1.heap.size < (Z1.alloc (.cells #[] 40)).heap.size := by simp
      replace ownA := own_below2 ownA (below_one (.cells #[] 40))
      have hAB := hltA
      replace hltA := Nat.lt_trans hltA hltB
      have HX := hid (And.intro hB1 (And.intro ownB (And.intro hltB ownA)))
      clear hB1 ownB hltB ownA hB
      go_wp2_with fail
      subst hK
      obtain ⟨hB, ownB, hltB, ownA⟩ := HX.out
      clear HX
      refine ⟨x0.below hB, ?_⟩
      obtain ⟨gB, hgB⟩ : ∃ g, g = Z1.heap.size := ⟨_, rfl⟩
      rw [← hgB] at ownB hltB ⊢
      rw [← hgB] at hAB
      generalize Z1.alloc (.cells #[] 40) = Z2 at *
      clear hgB
      refine HeadAt.one (i := 3) rfl (by kernel_rfl) ?_
      generalize hK : Upto _ _ = K0
      (try simp only [List.getElem_toArray, List.getElem_cons_succ, List.getElem_cons_zero])
      go_wp2_with (at_builtin; refine wpList_appAt rfl (.tmp 5) (.tmp 7) 22 rfl W2.heap.size 34 j0 (.agg #[.int .i64 0, .int .i64 0]) 2 16 under22 hj0 jz0 jz1 jz2 rfl (by decide) (.slice (some ⟨gA, 0, none⟩) 0 0) 0 [] rfl ownA ar n cr (pcells rs) rfl HLN.out (hcR.below hB (Nat.le_refl _)) (pcells_one rs) (by unfold maxLen; omega) (by omega) hB.size ?_; intro v8 Z3 own8 hg8 hat8)
      subst hK
      rw [Nat.zero_add, List.nil_append] at own8
      replace hB := hB.grown hg8 hB.size (own_ge2 ownA)
      refine ⟨x0.below hB, ?_⟩
      have hlt8 : Z2.heap.size ≤ Z3.heap.size := hg8.size
      replace ownB := own_keep ownB hg8 (fun k hk e => by simp [Value.ownBlock] at hk e; omega)
      have hne8 : ∀ k, v8.ownBlock = some k → k ≠ gB ∧ k < Z3.heap.size := fun k hk => ⟨by rcases hat8 with h | h <;> rw [hk] at h <;> simp [Value.ownBlock] at h <;> omega, own_lt own8 k hk⟩
      replace hltB := Nat.lt_of_lt_of_le hltB hlt8
      clear hat8 hg8 ownA hltA hlt8
      refine HeadAt.take (i := 8) (.pointer (some ⟨w.heap.size + 1 + 1, 0, none⟩)) rfl (by kernel_rfl) (.inl ⟨rfl, fun _ _ => by simp [go_sem]⟩) (x0.below hB) ?_
      refine HeadAt.one (i := 7) rfl (by kernel_rfl) ?_
      generalize hK : Upto _ _ = K0
      (try simp only [Act.put, List.getElem_toArray, List.getElem_cons_succ, List.getElem_cons_zero, List.setIfInBounds_toArray, List.set_cons_succ, List.set_cons_zero])
      go_wp2_with (at_builtin; refine wpList_appAt rfl (.tmp 9) (.tmp 11) 23 rfl W2.heap.size 40 i0 (.agg #[.int .i64 0, .int .i64 0]) 2 16 under23 hi0 iz0 iz1 iz2 rfl (by decide) (.slice (some ⟨gB, 0, none⟩) 0 0) 0 [] rfl ownB ap m cp (pcells ps) rfl HLM.out (hcP.below hB (Nat.le_refl _)) (pcells_one ps) (by unfold maxLen; omega) (by omega) hB.size ?_; intro v12 Z4 own12 hg12 hat12)
      subst hK
      rw [Nat.zero_add, List.nil_append] at own12
      replace hB := hB.grown hg12 hB.size (own_ge2 ownB)
      refine ⟨x0.below hB, ?_⟩
      have hne : ∀ k, v8.ownBlock = some k → v12.ownBlock ≠ some k := fun k hk e => by have h1 := hne8 k hk; rcases hat12 with h | h <;> rw [e] at h <;> simp [Value.ownBlock] at h <;> omega
      replace own8 := own_keep own8 hg12 (fun k hk e => by have h1 := hne8 k hk; simp [Value.ownBlock] at e; omega)
      clear hat12 hg12 ownB hltB hne8
      obtain ⟨V7, hV7⟩ : ∃ V, V = Z4 := ⟨_, rfl⟩
      rw [← hV7] at hB own8 own12 ⊢
      clear hV7
      obtain ⟨a1, c1, rfl⟩ := own_slice2 own8
      obtain ⟨a2, c2, rfl⟩ := own_slice2 own12
      have y1 := x1.belowB hB (by omega)
      have y2 := x2.belowB hB (by omega)
      replace hb := hb.trans (hB.mono hb.size)
      have hszB := hB.size
      have g1a := gset V7 ⟨w.heap.size + 1 + 1, 0, none⟩ (.slice a1 n c1)
      have y2a : Bx (V7.setCell ⟨w.heap.size + 1 + 1, 0, none⟩ (.slice a1 n c1)) (w.heap.size + 1 + 1) #[.slice a1 n c1, .int .i64 p0, .int .i64 way, .int .i64 step, .slice ap m cp] 25 := y2.set 0 (.slice a1 n c1)
      have y1a := y1.gb g1a (fun k hk => by cases hk; show w.heap.size + 1 ≠ w.heap.size + 1 + 1; omega)
      have y0a := (x0.belowB hB (by omega)).gb g1a (fun k hk => by cases hk; show w.heap.size ≠ w.heap.size + 1 + 1; omega)
      have f0 := y2.free 0; have z0 := y2.cell 0 rfl
      have hba := hb.grown g1a (by omega) (fun k hk => by cases hk; show w.heap.size ≤ w.heap.size + 1 + 1; omega)
      have own8a := own_keep own8 g1a (fun k hk e => by have := own_ge2 own8 k hk; injection e with e; have e' : w.heap.size + 1 + 1 = k := e; omega)
      have own12a := own_keep own12 g1a (fun k hk e => by have := own_ge2 own12 k hk; injection e with e; have e' : w.heap.size + 1 + 1 = k := e; omega)
      have hsz8 : w.heap.size + 1 + 1 < (V7.setCell ⟨w.heap.size + 1 + 1, 0, none⟩ (.slice a1 n c1)).heap.size := y2a.lt
      have HY := hid (And.intro y0a (And.intro y1a (And.intro y2a (And.intro hba (And.intro own8a (And.intro own12a (And.intro hsz8 hne)))))))
      clear y0a y1a y2a hba own8a own12a g1a y1 y2 hb own8 own12 hB x0 x1 x2 hsz8 hszB hne
      refine HeadAt.one (i := 9) rfl (by kernel_rfl) ?_
      generalize hK : Upto _ _ = K0
      (try simp only [List.getElem_toArray, List.getElem_cons_succ, List.getElem_cons_zero])
      go_wp2_with fail
      subst hK
      clear f0 z0
      obtain ⟨S0, y1, y2, hb, own8, own12, hsz8, hne⟩ := HY.out
      clear HY
      refine ⟨S0, ?_⟩
      generalize V7.setCell ⟨w.heap.size + 1 + 1, 0, none⟩ (.slice a1 n c1) = V8 at *
      refine HeadAt.done (by kernel_rfl) ?_
      (try simp only [List.drop_succ_cons, List.drop_zero])
      clear S0
      have g1 := gset V8 ⟨w.heap.size + 1 + 1, 4, none⟩ (.slice a2 m c2)
      have y2' : Bx (V8.setCell ⟨w.heap.size + 1 + 1, 4, none⟩ (.slice a2 m c2)) (w.heap.size + 1 + 1) #[.slice a1 n c1, .int .i64 p0, .int .i64 way, .int .i64 step, .slice a2 m c2] 25 := y2.set 4 (.slice a2 m c2)
      have y1' := y1.gb g1 (fun k hk => by cases hk; show w.heap.size + 1 ≠ w.heap.size + 1 + 1; omega)
      have f4 := y2.free 4; have z4 : V8.cell? ⟨w.heap.size + 1 + 1, 4, none⟩ = some (.slice ap m cp) := y2.cell 4 rfl
      have k0 := y2'.cell 0 rfl; have k1 := y2'.cell 1 rfl; have k2 := y2'.cell 2 rfl; have k3 := y2'.cell 3 rfl; have k4 := y2'.cell 4 rfl
      have hb' := hb.grown g1 (by omega) (fun k hk => by cases hk; show w.heap.size ≤ w.heap.size + 1 + 1; omega)
      have own8' := own_keep own8 g1 (fun k hk e => by have := own_ge2 own8 k hk; injection e with e; have e' : w.heap.size + 1 + 1 = k := e; omega)
      have own12' := own_keep own12 g1 (fun k hk e => by have := own_ge2 own12 k hk; injection e with e; have e' : w.heap.size + 1 + 1 = k := e; omega)
      have g2 := gset5 (V8.setCell ⟨w.heap.size + 1 + 1, 4, none⟩ (.slice a2 m c2)) (w.heap.size + 1) (.slice a1 n c1) (.int .i64 p0) (.int .i64 way) (.int .i64 step) (.slice a2 m c2)
      have y1'' := y1'.set5 (.slice a1 n c1) (.int .i64 p0) (.int .i64 way) (.int .i64 step) (.slice a2 m c2)
      have hbV := hb'.grown g2 (by have := hb'.size; omega) (fun k hk => by cases hk; omega)
      have own8'' := own_keep own8' g2 (fun k hk e => by have := own_ge2 own8' k hk; injection e with e; omega)
      have own12'' := own_keep own12' g2 (fun k hk e => by have := own_ge2 own12' k hk; injection e with e; omega)
      have HE := hid (And.intro hbV (And.intro (own_base own8'' (show w.heap.size ≤ W2.heap.size by omega)) (And.intro (own_base own12'' (show w.heap.size ≤ W2.heap.size by omega)) hne)))
      have d0 := y1'.free 0; have d1 := y1'.free 1; have d2 := y1'.free 2; have d3 := y1'.free 3; have d4 := y1'.free 4
      have e0 := y1'.cell 0 rfl; have e1 := y1'.cell 1 rfl; have e2 := y1'.cell 2 rfl; have e3 := y1'.cell 3 rfl; have e4 := y1'.cell 4 rfl
      have r0 := y1''.cell 0 rfl; have r1 := y1''.cell 1 rfl; have r2 := y1''.cell 2 rfl; have r3 := y1''.cell 3 rfl; have r4 := y1''.cell 4 rfl
      clear y1 y2 g1 y2' y1' hb' own8 own12 own8' own12' own8'' own12'' g2 y1'' hbV hne hb hsz8
      go_wp2_with fail
      refine NoPanic.normal ?_
      go_wp2
      refine bodyPost_ret (v := .agg #[.slice a1 n c1, .int .i64 p0, .int .i64 way, .int .i64 step, .slice a2 m c2]) ?_ rfl ⟨HE.out.1, a1, a2, c1, c2, by rw [HN.out, HM.out], by rw [← HN.out]; exact HE.out.2.1, by rw [← HM.out]; exact HE.out.2.2.1, by rw [← HN.out, ← HM.out]; exact HE.out.2.2.2⟩
      simp [results, Try.results24, go_sem, r0, r1, r2, r3, r4]
  · skip
    generalize hK : Upto _ _ = K0
    (try simp only [Act.put, List.getElem_toArray, List.getElem_cons_succ, List.getElem_cons_zero, List.setIfInBounds_toArray, List.set_cons_succ, List.set_cons_zero])
    have hB1 : Below W2.heap.size W2 (Z.alloc (.cells #[] 40)) := hB.alloc hB.size _
    have ownB := own_litB Z 40 2 (B := W2.heap.size) hB.size
    have hltB : Z.heap.size < (Z.alloc (.cells #[] 40)).heap.size := by simp
    have HX := hid (And.intro hB1 (And.intro ownB hltB))
    clear hB1 ownB hltB hB
    go_wp2_with fail
    subst hK
    obtain ⟨hB, ownB, hltB⟩ := HX.out
    clear HX
    refine ⟨x0.below hB, ?_⟩
    obtain ⟨gB, hgB⟩ : ∃ g, g = Z.heap.size := ⟨_, rfl⟩
    rw [← hgB] at ownB hltB ⊢
    generalize Z.alloc (.cells #[] 40) = Z1 at *
    clear hgB
    refine HeadAt.one (i := 0) rfl (by kernel_rfl) ?_
    generalize hK : Upto _ _ = K0
    (try simp only [List.getElem_toArray, List.getElem_cons_zero])
    have hB1 : Below W2.heap.size W2 (Z1.alloc (.cells #[] 34)) := hB.alloc hB.size _
    have ownA := own_litB Z1 34 2 (B := W2.heap.size) hB.size
    have hltA : Z1.heap.size < (Z1.alloc (.cells #[] 34)).heap.size := by simp
    replace ownB := own_below2 ownB (below_one (.cells #[] 34))
    have hAB := hltB
    replace hltB := Nat.lt_trans hltB hltA
    have HX := hid (And.intro hB1 (And.intro ownA (And.intro hltA ownB)))
    clear hB1 ownA hltA ownB hB
    go_wp2_with fail
    subst hK
    obtain ⟨hB, ownA, hltA, ownB⟩ := HX.out
    clear HX
    refine ⟨x0.below hB, ?_⟩
    obtain ⟨gA, hgA⟩ : ∃ g, g = Z1.heap.size := ⟨_, rfl⟩
    rw [← hgA] at ownA hltA ⊢
    rw [← hgA] at hAB
    generalize Z1.alloc (.cells #[] 34) = Z2 at *
    clear hgA
    refine HeadAt.one (i := 3) rfl (by kernel_rfl) ?_
    generalize hK : Upto _ _ = K0
    (try simp only [List.getElem_toArray, List.getElem_cons_succ, List.getElem_cons_zero])
    go_wp2_with (at_builtin; refine wpList_appAt rfl (.tmp 5) (.tmp 7) 22 rfl W2.heap.size 34 j0 (.agg #[.int .i64 0, .int .i64 0]) 2 16 under22 hj0 jz0 jz1 jz2 rfl (by decide) (.slice (some ⟨gA, 0, none⟩) 0 0) 0 [] rfl ownA ar n cr (pcells rs) rfl HLN.out (hcR.below hB (Nat.le_refl _)) (pcells_one rs) (by unfold maxLen; omega) (by omega) hB.size ?_; intro v8 Z3 own8 hg8 hat8)
    subst hK
    rw [Nat.zero_add, List.nil_append] at own8
    replace hB := hB.grown hg8 hB.size (own_ge2 ownA)
    refine ⟨x0.below hB, ?_⟩
    have hlt8 : Z2.heap.size ≤ Z3.heap.size := hg8.size
    replace ownB := own_keep ownB hg8 (fun k hk e => by simp [Value.ownBlock] at hk e; omega)
    have hne8 : ∀ k, v8.ownBlock = some k → k ≠ gB ∧ k < Z3.heap.size := fun k hk => ⟨by rcases hat8 with h | h <;> rw [hk] at h <;> simp [Value.ownBlock] at h <;> omega, own_lt own8 k hk⟩
    replace hltB := Nat.lt_of_lt_of_le hltB hlt8
    clear hat8 hg8 ownA hltA hlt8
    refine HeadAt.take (i := 8) (.pointer (some ⟨w.heap.size + 1 + 1, 0, none⟩)) rfl (by kernel_rfl) (.inl ⟨rfl, fun _ _ => by simp [go_sem]⟩) (x0.below hB) ?_
    refine HeadAt.one (i := 7) rfl (by kernel_rfl) ?_
    generalize hK : Upto _ _ = K0
    (try simp only [Act.put, List.getElem_toArray, List.getElem_cons_succ, List.getElem_cons_zero, List.setIfInBounds_toArray, List.set_cons_succ, List.set_cons_zero])
    go_wp2_with (at_builtin; refine wpList_appAt rfl (.tmp 9) (.tmp 11) 23 rfl W2.heap.size 40 i0 (.agg #[.int .i64 0, .int .i64 0]) 2 16 under23 hi0 iz0 iz1 iz2 rfl (by decide) (.slice (some ⟨gB, 0, none⟩) 0 0) 0 [] rfl ownB ap m cp (pcells ps) rfl HLM.out (hcP.below hB (Nat.le_refl _)) (pcells_one ps) (by unfold maxLen; omega) (by omega) hB.size ?_; intro v12 Z4 own12 hg12 hat12)
    subst hK
    rw [Nat.zero_add, List.nil_append] at own12
    replace hB := hB.grown hg12 hB.size (own_ge2 ownB)
    refine ⟨x0.below hB, ?_⟩
    have hne : ∀ k, v8.ownBlock = some k → v12.ownBlock ≠ some k := fun k hk e => by have h1 := hne8 k hk; rcases hat12 with h | h <;> rw [e] at h <;> simp [Value.ownBlock] at h <;> omega
    replace own8 := own_keep own8 hg12 (fun k hk e => by have h1 := hne8 k hk; simp [Value.ownBlock] at e; omega)
    clear hat12 hg12 ownB hltB hne8
    obtain ⟨V7, hV7⟩ : ∃ V, V = Z4 := ⟨_, rfl⟩
    rw [← hV7] at hB own8 own12 ⊢
    clear hV7
    obtain ⟨a1, c1, rfl⟩ := own_slice2 own8
    obtain ⟨a2, c2, rfl⟩ := own_slice2 own12
    have y1 := x1.belowB hB (by omega)
    have y2 := x2.belowB hB (by omega)
    replace hb := hb.trans (hB.mono hb.size)
    have hszB := hB.size
    have g1a := gset V7 ⟨w.heap.size + 1 + 1, 0, none⟩ (.slice a1 n c1)
    have y2a : Bx (V7.setCell ⟨w.heap.size + 1 + 1, 0, none⟩ (.slice a1 n c1)) (w.heap.size + 1 + 1) #[.slice a1 n c1, .int .i64 p0, .int .i64 way, .int .i64 step, .slice ap m cp] 25 := y2.set 0 (.slice a1 n c1)
    have y1a := y1.gb g1a (fun k hk => by cases hk; show w.heap.size + 1 ≠ w.heap.size + 1 + 1; omega)
    have y0a := (x0.belowB hB (by omega)).gb g1a (fun k hk => by cases hk; show w.heap.size ≠ w.heap.size + 1 + 1; omega)
    have f0 := y2.free 0; have z0 := y2.cell 0 rfl
    have hba := hb.grown g1a (by omega) (fun k hk => by cases hk; show w.heap.size ≤ w.heap.size + 1 + 1; omega)
    have own8a := own_keep own8 g1a (fun k hk e => by have := own_ge2 own8 k hk; injection e with e; have e' : w.heap.size + 1 + 1 = k := e; omega)
    have own12a := own_keep own12 g1a (fun k hk e => by have := own_ge2 own12 k hk; injection e with e; have e' : w.heap.size + 1 + 1 = k := e; omega)
    have hsz8 : w.heap.size + 1 + 1 < (V7.setCell ⟨w.heap.size + 1 + 1, 0, none⟩ (.slice a1 n c1)).heap.size := y2a.lt
    have HY := hid (And.intro y0a (And.intro y1a (And.intro y2a (And.intro hba (And.intro own8a (And.intro own12a (And.intro hsz8 hne)))))))
    clear y0a y1a y2a hba own8a own12a g1a y1 y2 hb own8 own12 hB x0 x1 x2 hsz8 hszB hne
    refine HeadAt.one (i := 9) rfl (by kernel_rfl) ?_
    generalize hK : Upto _ _ = K0
    (try simp only [List.getElem_toArray, List.getElem_cons_succ, List.getElem_cons_zero])
    go_wp2_with fail
    subst hK
    clear f0 z0
    obtain ⟨S0, y1, y2, hb, own8, own12, hsz8, hne⟩ := HY.out
    clear HY
    refine ⟨S0, ?_⟩
    generalize V7.setCell ⟨w.heap.size + 1 + 1, 0, none⟩ (.slice a1 n c1) = V8 at *
    refine HeadAt.done (by kernel_rfl) ?_
    (try simp only [List.drop_succ_cons, List.drop_zero])
    clear S0
    have g1 := gset V8 ⟨w.heap.size + 1 + 1, 4, none⟩ (.slice a2 m c2)
    have y2' : Bx (V8.setCell ⟨w.heap.size + 1 + 1, 4, none⟩ (.slice a2 m c2)) (w.heap.size + 1 + 1) #[.slice a1 n c1, .int .i64 p0, .int .i64 way, .int .i64 step, .slice a2 m c2] 25 := y2.set 4 (.slice a2 m c2)
    have y1' := y1.gb g1 (fun k hk => by cases hk; show w.heap.size + 1 ≠ w.heap.size + 1 + 1; omega)
    have f4 := y2.free 4; have z4 : V8.cell? ⟨w.heap.size + 1 + 1, 4, none⟩ = some (.slice ap m cp) := y2.cell 4 rfl
    have k0 := y2'.cell 0 rfl; have k1 := y2'.cell 1 rfl; have k2 := y2'.cell 2 rfl; have k3 := y2'.cell 3 rfl; have k4 := y2'.cell 4 rfl
    have hb' := hb.grown g1 (by omega) (fun k hk => by cases hk; show w.heap.size ≤ w.heap.size + 1 + 1; omega)
    have own8' := own_keep own8 g1 (fun k hk e => by have := own_ge2 own8 k hk; injection e with e; have e' : w.heap.size + 1 + 1 = k := e; omega)
    have own12' := own_keep own12 g1 (fun k hk e => by have := own_ge2 own12 k hk; injection e with e; have e' : w.heap.size + 1 + 1 = k := e; omega)
    have g2 := gset5 (V8.setCell ⟨w.heap.size + 1 + 1, 4, none⟩ (.slice a2 m c2)) (w.heap.size + 1) (.slice a1 n c1) (.int .i64 p0) (.int .i64 way) (.int .i64 step) (.slice a2 m c2)
    have y1'' := y1'.set5 (.slice a1 n c1) (.int .i64 p0) (.int .i64 way) (.int .i64 step) (.slice a2 m c2)
    have hbV := hb'.grown g2 (by have := hb'.size; omega) (fun k hk => by cases hk; omega)
    have own8'' := own_keep own8' g2 (fun k hk e => by have := own_ge2 own8' k hk; injection e with e; omega)
    have own12'' := own_keep own12' g2 (fun k hk e => by have := own_ge2 own12' k hk; injection e with e; omega)
    have HE := hid (And.intro hbV (And.intro (own_base own8'' (show w.heap.size ≤ W2.heap.size by omega)) (And.intro (own_base own12'' (show w.heap.size ≤ W2.heap.size by omega)) hne)))
    have d0 := y1'.free 0; have d1 := y1'.free 1; have d2 := y1'.free 2; have d3 := y1'.free 3; have d4 := y1'.free 4
    have e0 := y1'.cell 0 rfl; have e1 := y1'.cell 1 rfl; have e2 := y1'.cell 2 rfl; have e3 := y1'.cell 3 rfl; have e4 := y1'.cell 4 rfl
    have r0 := y1''.cell 0 rfl; have r1 := y1''.cell 1 rfl; have r2 := y1''.cell 2 rfl; have r3 := y1''.cell 3 rfl; have r4 := y1''.cell 4 rfl
    clear y1 y2 g1 y2' y1' hb' own8 own12 own8' own12' own8'' own12'' g2 y1'' hbV hne hb hsz8
    go_wp2_with fail
    refine NoPanic.normal ?_
    go_wp2
    refine bodyPost_ret (v := .agg #[.slice a1 n c1, .int .i64 p0, .int .i64 way, .int .i64 step, .slice a2 m c2]) ?_ rfl ⟨HE.out.1, a1, a2, c1, c2, by rw [HN.out, HM.out], by rw [← HN.out]; exact HE.out.2.1, by rw [← HM.out]; exact HE.out.2.2.1, by rw [← HN.out, ← HM.out]; exact HE.out.2.2.2⟩
    simp [results, Try.results24, go_sem, r0, r1, r2, r3, r4]
end Go.Proofs.Ytknaljghpfeikaa
namespace Go.Proofs.Ytknaljghpfeikaa
open Go.RowKit

theorem ret_i64 {a b : Int} (h : a = b) : Ending.returned (.int .i64 a) = .returned (.int .i64 b) := by rw [h]
set_option maxRecDepth 100000 in
set_option maxHeartbeats 4000000 in
/-- The reference's validity of a tray. -/
theorem rCheck_any (ar ap : Option Addr) (cr cp : Nat) (rs ps : List (Int × Int)) (p0 way step : Int) (w : World) (hR : Prs w ar rs) (hP : Prs w ap ps) : Calls Try.prog 38 #[.agg #[.slice ar rs.length cr, .int .i64 p0, .int .i64 way, .int .i64 step, .slice ap ps.length cp]] w fun e w' => e = .returned (.int .i64 (if trB rs ps p0 way step = true then 0 else 20)) ∧ Below w.heap.size w w' := by
  have lr : (rs.length : Int) ≤ 4611686018427387903 := by have := hR.1; omega
  obtain ⟨r, hr⟩ : ∃ r : Int, r = if trB rs ps p0 way step = true then 0 else 20 := ⟨_, rfl⟩
  rw [← hr]
  have HRR := hid hr
  clear hr
  obtain ⟨W, hW, hb, hs, x0⟩ := boxes1 w #[.slice ar rs.length cr, .int .i64 p0, .int .i64 way, .int .i64 step, .slice ap ps.length cp] 25
  clear hs
  have c0 := x0.cell 0 rfl; have c1 := x0.cell 1 rfl; have c2 := x0.cell 2 rfl; have c3 := x0.cell 3 rfl; have c4 := x0.cell 4 rfl
  cases h1 : inR 1 (rs.length : Int) 6
  · go_enter Try.func38, Try.ntmps38
    go_wp2_with (first | (go_at_call 56; refine (within_any _ _ _ _).mono ?_; rintro e w' ⟨rfl, rfl⟩))
    go_ret
    exact ⟨ret_i64 (by rw [HRR.out]; unfold trB; rw [h1]; rfl), hb⟩
  cases h3 : inR 0 p0 ((rs.length : Int) - 1)
  · go_enter Try.func38, Try.ntmps38
    go_wp2_with (first | (go_at_call 56; refine (within_any _ _ _ _).mono ?_; rintro e w' ⟨rfl, rfl⟩))
    go_ret
    exact ⟨ret_i64 (by rw [HRR.out]; unfold trB; rw [h3]; simp), hb⟩
  cases h5 : inR 0 step 60
  · by_cases hw : way = 1 ∨ way = -1
    · rcases hw with rfl | rfl
      · go_enter Try.func38, Try.ntmps38
        go_wp2_with (first | (go_at_call 56; refine (within_any _ _ _ _).mono ?_; rintro e w' ⟨rfl, rfl⟩))
        go_ret
        exact ⟨ret_i64 (by rw [HRR.out]; unfold trB; rw [h5]; simp), hb⟩
      · go_enter Try.func38, Try.ntmps38
        go_wp2_with (first | (go_at_call 56; refine (within_any _ _ _ _).mono ?_; rintro e w' ⟨rfl, rfl⟩))
        go_ret
        exact ⟨ret_i64 (by rw [HRR.out]; unfold trB; rw [h5]; simp), hb⟩
    · have hw1B : (way != 1) = true := by simp; omega
      have hw2B : (way != -1) = true := by simp; omega
      go_enter Try.func38, Try.ntmps38
      go_wp2_with (first | (go_at_call 56; refine (within_any _ _ _ _).mono ?_; rintro e w' ⟨rfl, rfl⟩))
      go_ret
      exact ⟨ret_i64 (by rw [HRR.out]; unfold trB; rw [h5]; simp), hb⟩
  by_cases hw : way = 1 ∨ way = -1
  rotate_left
  · have hw1B : (way != 1) = true := by simp; omega
    have hw2B : (way != -1) = true := by simp; omega
    have hwf : (decide (way = 1) || decide (way = -1)) = false := by simp; omega
    have HWF := hid hwf
    clear hwf hw
    go_enter Try.func38, Try.ntmps38
    go_wp2_with (first | (go_at_call 56; refine (within_any _ _ _ _).mono ?_; rintro e w' ⟨rfl, rfl⟩))
    go_ret
    exact ⟨ret_i64 (by rw [HRR.out]; unfold trB; rw [HWF.out]; simp), hb⟩
  have hwt : (decide (way = 1) || decide (way = -1)) = true := by rcases hw with rfl | rfl <;> rfl
  have htr : trB rs ps p0 way step = (rs.all recB && (decide (ps.length ≤ 12) && ps.all (preB rs.length))) := by
    unfold trB
    rw [h1, h3, h5, hwt]
    have e : decide ((ps.length : Int) ≤ 12) = decide (ps.length ≤ 12) := by
      by_cases h : ps.length ≤ 12
      · rw [decide_eq_true h, decide_eq_true (by omega)]
      · rw [decide_eq_false h, decide_eq_false (by omega)]
    rw [e]
    cases decide (ps.length ≤ 12) <;> cases rs.all recB <;> cases ps.all (preB rs.length) <;> rfl
  have HTR := hid (And.intro htr h1)
  clear htr hwt
  rcases hw with rfl | rfl

  · go_enter Try.func38, Try.ntmps38
    go_wp2_with (first | (go_at_call 56; refine (within_any _ _ _ _).mono ?_; rintro e w' ⟨rfl, rfl⟩))
    clear c0 c1 c2 c3 c4 h1 h3 h5 hW
    go_loopw [2, 3] (fun v2 v wr => ∃ k : Nat, k ≤ rs.length ∧ v2 = .int .i64 0 ∧ v = .int .i64 (k : Int) ∧ Below w.heap.size w wr ∧ Bx wr w.heap.size #[.slice ar rs.length cr, .int .i64 p0, .int .i64 (1), .int .i64 step, .slice ap ps.length cp] 25 ∧ Hid (rs.all recB = (rs.drop k).all recB)) (fun _ v _ => rs.length - (intOf v).toNat)
    case atStart => exact ⟨0, Nat.zero_le _, rfl, rfl, hb, x0, hid rfl⟩
    case round =>
      clear hb x0
      obtain ⟨k, hk, rfl, rfl, hb, x0, Hn⟩ := hrel
      by_cases hlt : k < rs.length
      · obtain ⟨b, off, x, y, rfl, hbs, hc1, hc2, _, _, _, hd⟩ := (hR.below hb (Nat.le_refl _)).at hlt
        have hkI : (k : Int) < (rs.length : Int) := by omega
        have hk0 : (0 : Int) ≤ (k : Int) := by omega
        have Hrb := hid (show recB (x, y) = (inR 1 x 999 && inR 1 y 999) from rfl)
        have c0 := x0.cell 0 rfl; have c1 := x0.cell 1 rfl; have c2 := x0.cell 2 rfl; have c3 := x0.cell 3 rfl; have c4 := x0.cell 4 rfl
        cases hx : inR 1 x 999
        · have HF := hid (show rs.all recB = false by rw [Hn.out, hd.out, List.all_cons, Hrb.out, hx]; rfl)
          go_wp2_with (first | (go_at_call 56; refine (within_any _ _ _ _).mono ?_; rintro e w' ⟨rfl, rfl⟩))
          go_ret
          exact ⟨ret_i64 (by rw [HRR.out, HTR.out.1, HF.out]; rfl), hb⟩
        cases hy : inR 1 y 999
        · have HF := hid (show rs.all recB = false by rw [Hn.out, hd.out, List.all_cons, Hrb.out, hx, hy]; rfl)
          go_wp2_with (first | (go_at_call 56; refine (within_any _ _ _ _).mono ?_; rintro e w' ⟨rfl, rfl⟩))
          go_ret
          exact ⟨ret_i64 (by rw [HRR.out, HTR.out.1, HF.out]; rfl), hb⟩
        have HF := hid (show rs.all recB = (rs.drop (k + 1)).all recB by rw [Hn.out, hd.out, List.all_cons, Hrb.out, hx, hy]; rfl)
        go_wp2_with (first | (go_at_call 56; refine (within_any _ _ _ _).mono ?_; rintro e w' ⟨rfl, rfl⟩))
        go_roundw
        case rel => exact ⟨k + 1, by omega, rfl, by go_num, hb, x0, HF⟩
        case measure => simp [intOf]; omega
      · have hkI : (rs.length : Int) ≤ (k : Int) := by omega
        have HT2 := hid (show rs.all recB = true by rw [Hn.out, drop_endP hk hlt]; rfl)
        have hp := fun W h1 h2 => presses_any ar ap cr cp rs ps p0 (1) step 12 W h1 h2 (by omega) (by have := (inR_iff.1 HTR.out.2).2; omega)
        rw [show (((12 : Nat)) : Int) = 12 from rfl] at hp
        obtain ⟨q, hq⟩ : ∃ q : Int, q = if (decide (ps.length ≤ 12) && ps.all (preB rs.length)) = true then 0 else 20 := ⟨_, rfl⟩
        rw [← hq] at hp
        have HQ := hid hq
        clear hq
        have c0 := x0.cell 0 rfl; have c1 := x0.cell 1 rfl; have c2 := x0.cell 2 rfl; have c3 := x0.cell 3 rfl; have c4 := x0.cell 4 rfl
        go_wp2_with fail
        refine (hp _ (hR.below hb (Nat.le_refl _)) (hP.below hb (Nat.le_refl _))).mono ?_
        rintro e W1 ⟨rfl, hb1⟩
        replace hb := hb.trans (hb1.mono hb.size)
        clear hp c0 c1 c2 c3 c4 x0 hb1
        go_wp2
        go_ret
        exact ⟨ret_i64 (by rw [HRR.out, HTR.out.1, HT2.out, HQ.out]; rfl), hb⟩

  · go_enter Try.func38, Try.ntmps38
    go_wp2_with (first | (go_at_call 56; refine (within_any _ _ _ _).mono ?_; rintro e w' ⟨rfl, rfl⟩))
    clear c0 c1 c2 c3 c4 h1 h3 h5 hW
    go_loopw [2, 3] (fun v2 v wr => ∃ k : Nat, k ≤ rs.length ∧ v2 = .int .i64 0 ∧ v = .int .i64 (k : Int) ∧ Below w.heap.size w wr ∧ Bx wr w.heap.size #[.slice ar rs.length cr, .int .i64 p0, .int .i64 (-1), .int .i64 step, .slice ap ps.length cp] 25 ∧ Hid (rs.all recB = (rs.drop k).all recB)) (fun _ v _ => rs.length - (intOf v).toNat)
    case atStart => exact ⟨0, Nat.zero_le _, rfl, rfl, hb, x0, hid rfl⟩
    case round =>
      clear hb x0
      obtain ⟨k, hk, rfl, rfl, hb, x0, Hn⟩ := hrel
      by_cases hlt : k < rs.length
      · obtain ⟨b, off, x, y, rfl, hbs, hc1, hc2, _, _, _, hd⟩ := (hR.below hb (Nat.le_refl _)).at hlt
        have hkI : (k : Int) < (rs.length : Int) := by omega
        have hk0 : (0 : Int) ≤ (k : Int) := by omega
        have Hrb := hid (show recB (x, y) = (inR 1 x 999 && inR 1 y 999) from rfl)
        have c0 := x0.cell 0 rfl; have c1 := x0.cell 1 rfl; have c2 := x0.cell 2 rfl; have c3 := x0.cell 3 rfl; have c4 := x0.cell 4 rfl
        cases hx : inR 1 x 999
        · have HF := hid (show rs.all recB = false by rw [Hn.out, hd.out, List.all_cons, Hrb.out, hx]; rfl)
          go_wp2_with (first | (go_at_call 56; refine (within_any _ _ _ _).mono ?_; rintro e w' ⟨rfl, rfl⟩))
          go_ret
          exact ⟨ret_i64 (by rw [HRR.out, HTR.out.1, HF.out]; rfl), hb⟩
        cases hy : inR 1 y 999
        · have HF := hid (show rs.all recB = false by rw [Hn.out, hd.out, List.all_cons, Hrb.out, hx, hy]; rfl)
          go_wp2_with (first | (go_at_call 56; refine (within_any _ _ _ _).mono ?_; rintro e w' ⟨rfl, rfl⟩))
          go_ret
          exact ⟨ret_i64 (by rw [HRR.out, HTR.out.1, HF.out]; rfl), hb⟩
        have HF := hid (show rs.all recB = (rs.drop (k + 1)).all recB by rw [Hn.out, hd.out, List.all_cons, Hrb.out, hx, hy]; rfl)
        go_wp2_with (first | (go_at_call 56; refine (within_any _ _ _ _).mono ?_; rintro e w' ⟨rfl, rfl⟩))
        go_roundw
        case rel => exact ⟨k + 1, by omega, rfl, by go_num, hb, x0, HF⟩
        case measure => simp [intOf]; omega
      · have hkI : (rs.length : Int) ≤ (k : Int) := by omega
        have HT2 := hid (show rs.all recB = true by rw [Hn.out, drop_endP hk hlt]; rfl)
        have hp := fun W h1 h2 => presses_any ar ap cr cp rs ps p0 (-1) step 12 W h1 h2 (by omega) (by have := (inR_iff.1 HTR.out.2).2; omega)
        rw [show (((12 : Nat)) : Int) = 12 from rfl] at hp
        obtain ⟨q, hq⟩ : ∃ q : Int, q = if (decide (ps.length ≤ 12) && ps.all (preB rs.length)) = true then 0 else 20 := ⟨_, rfl⟩
        rw [← hq] at hp
        have HQ := hid hq
        clear hq
        have c0 := x0.cell 0 rfl; have c1 := x0.cell 1 rfl; have c2 := x0.cell 2 rfl; have c3 := x0.cell 3 rfl; have c4 := x0.cell 4 rfl
        go_wp2_with fail
        refine (hp _ (hR.below hb (Nat.le_refl _)) (hP.below hb (Nat.le_refl _))).mono ?_
        rintro e W1 ⟨rfl, hb1⟩
        replace hb := hb.trans (hb1.mono hb.size)
        clear hp c0 c1 c2 c3 c4 x0 hb1
        go_wp2
        go_ret
        exact ⟨ret_i64 (by rw [HRR.out, HTR.out.1, HT2.out, HQ.out]; rfl), hb⟩

end Go.Proofs.Ytknaljghpfeikaa
