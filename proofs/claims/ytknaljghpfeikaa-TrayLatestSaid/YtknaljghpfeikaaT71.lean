import Derived.Test.YtknaljghpfeikaaT66
namespace Go.Proofs.Ytknaljghpfeikaa
open Go.RowKit

structure SbS (a0 a1 : Addr) (u t : Int) (h : Nat) (x y : Int) (w : World) : Prop where
  h0 : w.cell? a0 = some (.int .i64 u)
  h1 : w.cell? a1 = some (.int .i64 t)
  xb : Bx w h #[.int .i64 x, .int .i64 y] 40
set_option maxRecDepth 100000 in
set_option maxHeartbeats 4000000 in
/-- The number of the play that serves a press. -/
theorem ServedBy_any (a : Option Addr) (cv : Nat) (pl : List (Int × Int)) (x y : Int) (w : World) (hL : Prs w a pl) (hn5 : pl.length ≤ 100000) :
    Calls Try.prog 67 #[.slice a pl.length cv, .agg #[.int .i64 x, .int .i64 y]] w fun e w' => e = .returned (.int .i64 (servF x y pl 0)) ∧ Below w.heap.size w w' := by
  obtain ⟨n, hn⟩ : ∃ n, n = pl.length := ⟨_, rfl⟩
  rw [← hn] at hn5 ⊢
  have HN := hid hn
  obtain ⟨r, hr⟩ : ∃ r, r = servF x y pl 0 := ⟨_, rfl⟩
  rw [← hr]
  have HRR := hid hr
  clear hn hr
  have hnI : (n : Int) ≤ 100000 := by omega
  obtain ⟨W, hW, hb, hs, xb⟩ := boxes1 w #[.int .i64 x, .int .i64 y] 40
  have hL1 := hL.below hb (Nat.le_refl _)
  clear hs
  go_enter Try.func67, Try.ntmps67
  go_wp2
  clear hW
  go_loopw [5] (fun v5 wr => ∃ k : Nat, k ≤ n ∧ v5 = .int .i64 (k : Int) ∧ Below W.heap.size W wr ∧ Hid (servF x y pl 0 = servF x y (pl.drop k) k)) (fun v5 _ => n - (intOf v5).toNat)
  case atStart => exact ⟨0, Nat.zero_le _, rfl, Below.refl _ _, hid rfl⟩
  case round =>
    obtain ⟨k, hk, rfl, hb1, HA⟩ := hrel
    by_cases hlt : k < n
    · obtain ⟨b, off, u, t, rfl, _, g0, g1, _, _, _, hd⟩ := (hL1.below hb1 (Nat.le_refl _)).at (show k < pl.length by rw [← HN.out]; exact hlt)
      have hkI : (k : Int) < (n : Int) := by omega
      have hk0 : (0 : Int) ≤ (k : Int) := by omega
      have hdd : servF x y (pl.drop k) k = if servB x y (u, t) then (k : Int) else servF x y (pl.drop (k + 1)) (k + 1) := by rw [hd.out]; rfl
      have HD := hid hdd
      have xbr := xb.below hb1
      clear hdd hd
      go_upto_region 4 with fail
      have hbd := (Below.refl wr.heap.size wr).drew
      have S0 : SbS ⟨b, off + k * 2, none⟩ ⟨b, off + k * 2 + 1, none⟩ u t w.heap.size x y wr.drew := ⟨Below.keep hbd g0, Below.keep hbd g1, xbr.below hbd⟩
      replace hb1 := hb1.trans (hbd.mono hb1.size)
      clear hbd g0 g1 xbr
      refine wp_region_head 17 (SbS ⟨b, off + k * 2, none⟩ ⟨b, off + k * 2 + 1, none⟩ u t w.heap.size x y) (by kernel_rfl) rfl ?_
      generalize wr.drew = Y0 at *
      refine HeadAt.take (i := 0) (.slice (some ⟨b, off, none⟩) n cv) rfl (by kernel_rfl) (.inl ⟨rfl, fun _ _ => by simp [go_sem]⟩) S0 ?_
      refine HeadAt.take (i := 1) (.int .i64 (k : Int)) rfl (by kernel_rfl) (.inl ⟨rfl, fun _ _ => by simp [go_sem]⟩) S0 ?_
      refine HeadAt.take (i := 2) (.pointer (some ⟨b, off + k * 2, none⟩)) rfl (by kernel_rfl) (.inl ⟨rfl, fun w' z => ?_⟩) S0 ?_
      · (simp [go_sem, hkI, hk0])
      simp only [Act.put, List.getElem_toArray, List.getElem_cons_succ, List.getElem_cons_zero, List.setIfInBounds_toArray, List.set_cons_succ, List.set_cons_zero]
      refine HeadAt.take (i := 3) (.pointer (some ⟨b, off + k * 2, none⟩)) rfl (by kernel_rfl) (.inl ⟨rfl, fun _ _ => by simp [go_sem]⟩) S0 ?_
      refine HeadAt.take (i := 4) (.int .i64 u) rfl (by kernel_rfl) (.inl ⟨rfl, fun w' z => ?_⟩) S0 ?_
      · (simp [go_sem, z.h0])
      refine HeadAt.take (i := 5) (.pointer (some ⟨w.heap.size, 0, none⟩)) rfl (by kernel_rfl) (.inl ⟨rfl, fun _ _ => by simp [go_sem]⟩) S0 ?_
      refine HeadAt.take (i := 6) (.int .i64 x) rfl (by kernel_rfl) (.inl ⟨rfl, fun w' z => ?_⟩) S0 ?_
      · (have z0 := z.xb.cell 0 rfl; simp [go_sem, z0])
      simp only [Act.put, List.getElem_toArray, List.getElem_cons_succ, List.getElem_cons_zero, List.setIfInBounds_toArray, List.set_cons_succ, List.set_cons_zero]
      by_cases h1 : u = x
      · subst h1
        have hdu : (u == u) = true := by simp
        refine HeadAt.take (i := 7) (.bool true) rfl (by kernel_rfl) (.inl ⟨rfl, fun w' z => ?_⟩) S0 ?_
        · (simp [go_sem])
        refine HeadAt.take (i := 8) (.bool true) rfl (by kernel_rfl) (.inl ⟨rfl, fun _ _ => by simp [go_sem]⟩) S0 ?_
        refine HeadAt.take (i := 9) (.slice (some ⟨b, off, none⟩) n cv) rfl (by kernel_rfl) (.inl ⟨rfl, fun _ _ => by simp [go_sem]⟩) S0 ?_
        simp only [Act.put, List.getElem_toArray, List.getElem_cons_succ, List.getElem_cons_zero, List.setIfInBounds_toArray, List.set_cons_succ, List.set_cons_zero]
        refine HeadAt.take (i := 10) (.int .i64 (k : Int)) rfl (by kernel_rfl) (.inl ⟨rfl, fun _ _ => by simp [go_sem]⟩) S0 ?_
        refine HeadAt.take (i := 11) (.pointer (some ⟨b, off + k * 2, none⟩)) rfl (by kernel_rfl) (.inl ⟨rfl, fun w' z => ?_⟩) S0 ?_
        · (simp [go_sem, hkI, hk0])
        refine HeadAt.take (i := 12) (.pointer (some ⟨b, off + k * 2 + 1, none⟩)) rfl (by kernel_rfl) (.inl ⟨rfl, fun _ _ => by simp [go_sem]⟩) S0 ?_
        simp only [Act.put, List.getElem_toArray, List.getElem_cons_succ, List.getElem_cons_zero, List.setIfInBounds_toArray, List.set_cons_succ, List.set_cons_zero]
        refine HeadAt.take (i := 13) (.int .i64 t) rfl (by kernel_rfl) (.inl ⟨rfl, fun w' z => ?_⟩) S0 ?_
        · (simp [go_sem, z.h1])
        refine HeadAt.take (i := 14) (.pointer (some ⟨w.heap.size, 1, none⟩)) rfl (by kernel_rfl) (.inl ⟨rfl, fun _ _ => by simp [go_sem]⟩) S0 ?_
        refine HeadAt.take (i := 15) (.int .i64 y) rfl (by kernel_rfl) (.inl ⟨rfl, fun w' z => ?_⟩) S0 ?_
        · (have z0 := z.xb.cell 1 rfl; simp [go_sem, z0])
        simp only [Act.put, List.getElem_toArray, List.getElem_cons_succ, List.getElem_cons_zero, List.setIfInBounds_toArray, List.set_cons_succ, List.set_cons_zero]
        by_cases h2 : y ≤ t
        · have hdt : decide (y ≤ t) = true := by simp [h2]
          refine HeadAt.take (i := 16) (.bool true) rfl (by kernel_rfl) (.inl ⟨rfl, fun w' z => ?_⟩) S0 ?_
          · (simp [go_sem, h2])
          refine HeadAt.done (by kernel_rfl) ?_
          (try simp only [Act.put, List.drop_succ_cons, List.drop_zero, List.getElem_toArray, List.getElem_cons_succ, List.getElem_cons_zero])
          clear S0
          have HF := hid (show r = (k : Int) by rw [HRR.out, HA.out, HD.out, if_pos (by simp [servB, h2])])
          go_wp2_with fail
          refine NoPanic.normal ?_
          go_wp2
          go_ret
          exact ⟨by rw [HF.out]; rfl, hb.trans (hb1.mono hb.size)⟩
        · have hdt : decide (y ≤ t) = false := by simp; omega
          refine HeadAt.take (i := 16) (.bool false) rfl (by kernel_rfl) (.inl ⟨rfl, fun w' z => ?_⟩) S0 ?_
          · (simp [go_sem, hdt])
          refine HeadAt.done (by kernel_rfl) ?_
          (try simp only [Act.put, List.drop_succ_cons, List.drop_zero, List.getElem_toArray, List.getElem_cons_succ, List.getElem_cons_zero])
          clear S0
          have HF := hid (show servF u y pl 0 = servF u y (pl.drop (k + 1)) (k + 1) by rw [HA.out, HD.out, if_neg (by simp [servB, h2])])
          go_wp2_with fail
          refine NoPanic.normal ?_
          go_wp2
          go_roundw
          case rel => exact ⟨k + 1, by omega, by go_num, hb1, HF⟩
          case measure => simp [intOf]; omega
      · have hux : (u == x) = false := by simp [h1]
        refine HeadAt.take (i := 7) (.bool false) rfl (by kernel_rfl) (.inl ⟨rfl, fun w' z => ?_⟩) S0 ?_
        · (simp [go_sem, h1])
        refine HeadAt.take (i := 8) (.bool false) rfl (by kernel_rfl) (.inl ⟨rfl, fun _ _ => by simp [go_sem]⟩) S0 ?_
        simp only [Act.put, List.getElem_toArray, List.getElem_cons_succ, List.getElem_cons_zero, List.setIfInBounds_toArray, List.set_cons_succ, List.set_cons_zero]
        refine HeadAt.take (i := 9) undef rfl (by kernel_rfl) (.inr ⟨by kernel_rfl, rfl⟩) S0 ?_
        refine HeadAt.take (i := 10) undef rfl (by kernel_rfl) (.inr ⟨by kernel_rfl, rfl⟩) S0 ?_
        refine HeadAt.take (i := 11) undef rfl (by kernel_rfl) (.inr ⟨by kernel_rfl, rfl⟩) S0 ?_
        simp only [Act.put, List.getElem_toArray, List.getElem_cons_succ, List.getElem_cons_zero, List.setIfInBounds_toArray, List.set_cons_succ, List.set_cons_zero]
        refine HeadAt.take (i := 12) undef rfl (by kernel_rfl) (.inr ⟨by kernel_rfl, rfl⟩) S0 ?_
        refine HeadAt.take (i := 13) undef rfl (by kernel_rfl) (.inr ⟨by kernel_rfl, rfl⟩) S0 ?_
        refine HeadAt.take (i := 14) undef rfl (by kernel_rfl) (.inr ⟨by kernel_rfl, rfl⟩) S0 ?_
        simp only [Act.put, List.getElem_toArray, List.getElem_cons_succ, List.getElem_cons_zero, List.setIfInBounds_toArray, List.set_cons_succ, List.set_cons_zero]
        refine HeadAt.take (i := 15) undef rfl (by kernel_rfl) (.inr ⟨by kernel_rfl, rfl⟩) S0 ?_
        refine HeadAt.take (i := 16) undef rfl (by kernel_rfl) (.inr ⟨by kernel_rfl, rfl⟩) S0 ?_
        refine HeadAt.done (by kernel_rfl) ?_
        (try simp only [Act.put, List.drop_succ_cons, List.drop_zero, List.getElem_toArray, List.getElem_cons_succ, List.getElem_cons_zero])
        clear S0
        have HF := hid (show servF x y pl 0 = servF x y (pl.drop (k + 1)) (k + 1) by rw [HA.out, HD.out, if_neg (by simp [servB, h1])])
        go_wp2_with fail
        refine NoPanic.normal ?_
        go_wp2
        go_roundw
        case rel => exact ⟨k + 1, by omega, by go_num, hb1, HF⟩
        case measure => simp [intOf]; omega
    · have hkI : (n : Int) ≤ (k : Int) := by omega
      have HF := hid (show r = -1 by rw [HRR.out, HA.out, drop_endP (by rw [← HN.out]; exact hk) (by rw [← HN.out]; exact hlt)]; rfl)
      go_wp2
      go_ret
      exact ⟨by rw [HF.out]; rfl, hb.trans (hb1.mono hb.size)⟩

set_option maxRecDepth 100000 in
set_option maxHeartbeats 1000000 in
theorem rServed_bad (ar ap : Option Addr) (cr cp : Nat) (rs ps : List (Int × Int)) (p0 way step : Int) (t : Int) (w : World) (hR : Prs w ar rs) (hP : Prs w ap ps) (hv : trB rs ps p0 way step = false) :
    Calls Try.prog 42 #[.agg #[.slice ar rs.length cr, .int .i64 p0, .int .i64 way, .int .i64 step, .slice ap ps.length cp], .int .i64 t] w fun e w' => e = .returned (.tuple #[.int .i64 0, .int .i64 20]) ∧ Below w.heap.size w w' := by
  obtain ⟨W, hW, hb, hs, x0⟩ := boxes1 w #[.slice ar rs.length cr, .int .i64 p0, .int .i64 way, .int .i64 step, .slice ap ps.length cp] 25
  clear hs
  have c0 := x0.cell 0 rfl; have c1 := x0.cell 1 rfl; have c2 := x0.cell 2 rfl; have c3 := x0.cell 3 rfl; have c4 := x0.cell 4 rfl
  go_enter Try.func42, Try.ntmps42
  go_wp2_with fail
  refine (rCheck_any _ _ _ _ _ _ _ _ _ _ (hR.below hb (Nat.le_refl _)) (hP.below hb (Nat.le_refl _))).mono ?_
  rintro e W1 ⟨rfl, hb1⟩
  rw [hv]
  clear hW
  (try clear c0 c1 c2 c3 c4); replace x0 := x0.below hb1; have c0 := x0.cell 0 rfl; have c1 := x0.cell 1 rfl; have c2 := x0.cell 2 rfl; have c3 := x0.cell 3 rfl; have c4 := x0.cell 4 rfl; replace hb := hb.trans (hb1.mono hb.size); clear hb1
  clear x0 c0 c1 c2 c3 c4
  go_wp2
  go_ret2
  exact ⟨rfl, hb⟩
set_option maxRecDepth 100000 in
set_option maxHeartbeats 1000000 in
theorem rServed_arg (ar ap : Option Addr) (cr cp : Nat) (rs ps : List (Int × Int)) (p0 way step : Int) (t : Int) (w : World) (hR : Prs w ar rs) (hP : Prs w ap ps) (hv : trB rs ps p0 way step = true) (ht : inR 0 t ((ps.length : Int) - 1) = false) :
    Calls Try.prog 42 #[.agg #[.slice ar rs.length cr, .int .i64 p0, .int .i64 way, .int .i64 step, .slice ap ps.length cp], .int .i64 t] w fun e w' => e = .returned (.tuple #[.int .i64 0, .int .i64 1]) ∧ Below w.heap.size w w' := by
  have hp := fun W => isPress_any ar ap cr cp rs ps p0 way step t W hP.1
  rw [ht] at hp
  obtain ⟨W, hW, hb, hs, x0⟩ := boxes1 w #[.slice ar rs.length cr, .int .i64 p0, .int .i64 way, .int .i64 step, .slice ap ps.length cp] 25
  clear hs
  have c0 := x0.cell 0 rfl; have c1 := x0.cell 1 rfl; have c2 := x0.cell 2 rfl; have c3 := x0.cell 3 rfl; have c4 := x0.cell 4 rfl
  go_enter Try.func42, Try.ntmps42
  go_wp2_with fail
  refine (rCheck_any _ _ _ _ _ _ _ _ _ _ (hR.below hb (Nat.le_refl _)) (hP.below hb (Nat.le_refl _))).mono ?_
  rintro e W1 ⟨rfl, hb1⟩
  rw [hv]
  clear hW
  (try clear c0 c1 c2 c3 c4); replace x0 := x0.below hb1; have c0 := x0.cell 0 rfl; have c1 := x0.cell 1 rfl; have c2 := x0.cell 2 rfl; have c3 := x0.cell 3 rfl; have c4 := x0.cell 4 rfl; replace hb := hb.trans (hb1.mono hb.size); clear hb1
  go_wp2_with fail
  refine (hp _).mono ?_
  rintro e W2 ⟨rfl, hb2⟩
  replace hb := hb.trans (hb2.mono hb.size)
  clear x0 c0 c1 c2 c3 c4 hb2 hp
  go_wp2
  go_ret2
  exact ⟨rfl, hb⟩
structure RsS (b n : Nat) (ar ap : Option Addr) (cr cp m : Nat) (p0 way step : Int) (a0 a1 : Addr) (x y : Int) (w : World) : Prop where
  xb : Bx w b #[.slice ar n cr, .int .i64 p0, .int .i64 way, .int .i64 step, .slice ap m cp] 25
  h0 : w.cell? a0 = some (.int .i64 x)
  h1 : w.cell? a1 = some (.int .i64 y)
theorem RsS.below {b n : Nat} {ar ap : Option Addr} {cr cp m : Nat} {p0 way step : Int} {a0 a1 : Addr} {x y : Int} {w w' : World} (h : RsS b n ar ap cr cp m p0 way step a0 a1 x y w) (hb : Below w.heap.size w w') : RsS b n ar ap cr cp m p0 way step a0 a1 x y w' :=
  ⟨h.xb.below hb, Below.keep hb h.h0, Below.keep hb h.h1⟩
set_option maxRecDepth 100000 in
set_option maxHeartbeats 4000000 in
theorem rServed_ok (ar ap : Option Addr) (cr cp : Nat) (rs ps : List (Int × Int)) (p0 way step : Int) (j : Nat) (w : World) (hR : Prs w ar rs) (hP : Prs w ap ps) (hv : trB rs ps p0 way step = true) (T : Tr) (hT : IsTr T rs ps p0 way step) (c : Car) (hc : c = runM T maxI) (x y : Int) (hxy : ps[j]? = some (x, y)) :
    Calls Try.prog 42 #[.agg #[.slice ar rs.length cr, .int .i64 p0, .int .i64 way, .int .i64 step, .slice ap ps.length cp], .int .i64 (j : Int)] w fun e w' => e = .returned (.tuple #[.int .i64 (servF x y c.plays 0), .int .i64 0]) ∧ Below w.heap.size w w' := by
  have hjl : j < ps.length := by
    rcases Nat.lt_or_ge j ps.length with h | h
    · exact h
    · rw [List.getElem?_eq_none h] at hxy; cases hxy
  have hm13 : ps.length ≤ 13 := by have := hT.hv.p13; rw [hT.T2] at this; exact this
  have hc1 := cn_run hT.hv (Int.le_refl maxI)
  have htm := plays_time hT.hv
  have hcn := hc1.n
  rw [← hc, hT.T2] at hcn
  have hlen : c.plays.length ≤ 13 := by omega
  have hp := fun W => isPress_any ar ap cr cp rs ps p0 way step (j : Int) W hP.1
  rw [show inR 0 (j : Int) ((ps.length : Int) - 1) = true from inR_iff.2 (by omega)] at hp
  have hpo := fun V h1 h2 => PlaysOf_any ar ap cr cp rs ps p0 way step V h1 h2 T hT c.plays (by rw [hc]) (fun q hq => by rw [hc] at hq; have h1 := hc1.d q hq; have h2 := htm q hq; have h3 := hT.hv.n6; omega)
  have hsv := fun a cv V h => ServedBy_any a cv c.plays x y V h (by omega)
  unfold PlyP at hpo
  obtain ⟨L, hL⟩ : ∃ L, L = c.plays := ⟨_, rfl⟩
  rw [← hL] at hpo hsv hlen ⊢
  obtain ⟨r, hr⟩ : ∃ r, r = servF x y L 0 := ⟨_, rfl⟩
  rw [← hr] at hsv ⊢
  obtain ⟨n, hn⟩ : ∃ n, n = L.length := ⟨_, rfl⟩
  obtain ⟨m, hm⟩ : ∃ m, m = ps.length := ⟨_, rfl⟩
  have hrc := fun V h1 h2 => rCheck_any ar ap cr cp rs ps p0 way step V h1 h2
  rw [hv] at hrc
  rw [← hn] at hpo hsv hlen
  rw [← hm] at hpo hp hm13 hjl hrc ⊢
  obtain ⟨b, off, x', y', hap, hbl, g0, g1, _, _, hxj, _⟩ := hP.at (show j < ps.length by rw [← hm]; exact hjl)
  have hxx := hxj.out
  rw [hxy] at hxx
  simp only [Option.some.injEq, Prod.mk.injEq] at hxx
  obtain ⟨rfl, rfl⟩ := hxx
  subst hap
  clear hc hc1 htm hcn hT hL hr hn hm hxy hxj hv
  have hjI : (j : Int) < (m : Int) := by omega
  have hj0 : (0 : Int) ≤ (j : Int) := by omega
  have hmI : (m : Int) ≤ 13 := by omega
  obtain ⟨W, hW, hb, hs, x0⟩ := boxes1 w #[.slice ar rs.length cr, .int .i64 p0, .int .i64 way, .int .i64 step, .slice (some ⟨b, off, none⟩) m cp] 25
  clear hs
  have c0 := x0.cell 0 rfl; have c1 := x0.cell 1 rfl; have c2 := x0.cell 2 rfl; have c3 := x0.cell 3 rfl; have c4 := x0.cell 4 rfl
  go_enter Try.func42, Try.ntmps42
  go_wp2_with fail
  refine (hrc _ (hR.below hb (Nat.le_refl _)) (hP.below hb (Nat.le_refl _))).mono ?_
  rintro e W1 ⟨rfl, hb1⟩
  clear hW hrc
  (try clear c0 c1 c2 c3 c4); replace x0 := x0.below hb1; have c0 := x0.cell 0 rfl; have c1 := x0.cell 1 rfl; have c2 := x0.cell 2 rfl; have c3 := x0.cell 3 rfl; have c4 := x0.cell 4 rfl; replace hb := hb.trans (hb1.mono hb.size); clear hb1
  go_wp2_with fail
  refine (hp _).mono ?_
  rintro e W2 ⟨rfl, hb2⟩
  clear hp
  (try clear c0 c1 c2 c3 c4); replace x0 := x0.below hb2; have c0 := x0.cell 0 rfl; have c1 := x0.cell 1 rfl; have c2 := x0.cell 2 rfl; have c3 := x0.cell 3 rfl; have c4 := x0.cell 4 rfl; replace hb := hb.trans (hb2.mono hb.size); clear hb2
  go_upto_region 6 with fail
  clear c0 c1 c2 c3 c4
  have hbd := (Below.refl W2.heap.size W2).drew
  replace x0 := x0.below hbd
  replace hb := hb.trans (hbd.mono hb.size)
  have S0 : RsS w.heap.size rs.length ar (some ⟨b, off, none⟩) cr cp m p0 way step ⟨b, off + j * 2, none⟩ ⟨b, off + j * 2 + 1, none⟩ x y W2.drew := ⟨x0, (hb.cell (p := ⟨b, off + j * 2, none⟩) hbl).trans g0, (hb.cell (p := ⟨b, off + j * 2 + 1, none⟩) hbl).trans g1⟩
  clear hbd x0 g0 g1
  refine wp_region_head 9 (RsS w.heap.size rs.length ar (some ⟨b, off, none⟩) cr cp m p0 way step ⟨b, off + j * 2, none⟩ ⟨b, off + j * 2 + 1, none⟩ x y) (by kernel_rfl) rfl ?_
  generalize W2.drew = Y0 at *
  refine HeadAt.take (i := 0) (.agg #[.slice ar rs.length cr, .int .i64 p0, .int .i64 way, .int .i64 step, .slice (some ⟨b, off, none⟩) m cp]) rfl (by kernel_rfl) (.inl ⟨rfl, fun w' z => ?_⟩) S0 ?_
  · (have z0 := z.xb.cell 0 rfl; have z1 := z.xb.cell 1 rfl; have z2 := z.xb.cell 2 rfl; have z3 := z.xb.cell 3 rfl; have z4 := z.xb.cell 4 rfl; simp [go_sem, z0, z1, z2, z3, z4])
  refine HeadAt.take (i := 2) (.pointer (some ⟨w.heap.size, 4, none⟩)) rfl (by kernel_rfl) (.inl ⟨rfl, fun _ _ => by simp [go_sem]⟩) S0 ?_
  refine HeadAt.take (i := 3) (.slice (some ⟨b, off, none⟩) m cp) rfl (by kernel_rfl) (.inl ⟨rfl, fun w' z => ?_⟩) S0 ?_
  · (have z0 := z.xb.cell 4 rfl; simp [go_sem, z0])
  refine HeadAt.take (i := 4) (.int .i64 (j : Int)) rfl (by kernel_rfl) (.inl ⟨rfl, fun _ _ => by simp [go_sem]⟩) S0 ?_
  simp only [Act.put, List.getElem_toArray, List.getElem_cons_succ, List.getElem_cons_zero, List.setIfInBounds_toArray, List.set_cons_succ, List.set_cons_zero]
  refine HeadAt.take (i := 5) (.pointer (some ⟨b, off + j * 2, none⟩)) rfl (by kernel_rfl) (.inl ⟨rfl, fun w' z => ?_⟩) S0 ?_
  · (simp [go_sem, hjI, hj0])
  refine HeadAt.take (i := 6) (.agg #[.int .i64 x, .int .i64 y]) rfl (by kernel_rfl) (.inl ⟨rfl, fun w' z => ?_⟩) S0 ?_
  · (simp [go_sem, z.h0, z.h1])
  refine HeadAt.one (i := 1) rfl (by kernel_rfl) ?_
  generalize hK : Upto _ _ = K0
  (try simp only [Act.put, List.getElem_toArray, List.getElem_cons_succ, List.getElem_cons_zero, List.setIfInBounds_toArray, List.set_cons_succ, List.set_cons_zero])
  go_wp2_with fail
  refine (hpo _ (hR.below hb (Nat.le_refl _)) (hP.below hb (Nat.le_refl _))).mono ?_
  rintro e W3 ⟨hb3, al, cl, rfl, r1⟩
  replace S0 := S0.below hb3
  replace hb := hb.trans (hb3.mono hb.size)
  clear hb3 hpo
  go_wp2_with fail
  subst hK
  refine ⟨S0, ?_⟩
  refine HeadAt.one (i := 7) rfl (by kernel_rfl) ?_
  generalize hK : Upto _ _ = K0
  (try simp only [List.getElem_toArray, List.getElem_cons_succ, List.getElem_cons_zero])
  go_wp2_with fail
  refine (hsv _ _ _ r1).mono ?_
  rintro e W4 ⟨rfl, hb4⟩
  replace S0 := S0.below hb4
  replace hb := hb.trans (hb4.mono hb.size)
  clear hb4 hsv r1
  go_wp2_with fail
  subst hK
  refine ⟨S0, ?_⟩
  refine HeadAt.take (i := 8) (.int .i64 r) rfl (by kernel_rfl) (.inl ⟨rfl, fun _ _ => by simp [go_sem]⟩) S0 ?_
  refine HeadAt.done (by kernel_rfl) ?_
  (try simp only [Act.put, List.drop_succ_cons, List.drop_zero, List.getElem_toArray, List.getElem_cons_succ, List.getElem_cons_zero])
  clear S0
  go_wp2_with fail
  refine NoPanic.normal ?_
  go_wp2
  go_ret2
  exact ⟨rfl, hb⟩
end Go.Proofs.Ytknaljghpfeikaa
