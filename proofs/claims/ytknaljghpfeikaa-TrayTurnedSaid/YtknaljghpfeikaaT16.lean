import Derived.Test.YtknaljghpfeikaaT15
namespace Go.Proofs.Ytknaljghpfeikaa
open Go.RowKit

/-- How long a press waits, by a row of plays. -/
def waitF (pl : List (Int × Int)) (p : Int × Int) : Int := (pl.getD (servF p.1 p.2 pl 0).toNat (0, 0)).2 - p.2
/-- The first press of those that wait longest, and its wait. -/
def lonF (pl : List (Int × Int)) : List (Int × Int) → Nat → Nat × Int → Nat × Int
  | [], _, s => s
  | p :: l, k, s => lonF pl l (k + 1) (if s.2 < waitF pl p then (k, waitF pl p) else s)

set_option maxRecDepth 100000 in
set_option maxHeartbeats 4000000 in
theorem longest_any (x0 x1 x2 : Value) (a ap : Option Addr) (cv cp : Nat) (pl ps : List (Int × Int)) (s f : Int) (w : World) (hL : Prs w a pl) (hP : Prs w ap ps) (hpb : ∀ p ∈ pl, 0 ≤ p.2 ∧ p.2 ≤ 1000000000) (hy : ∀ p ∈ ps, 0 ≤ p.2 ∧ p.2 ≤ 1000000000) (hsv : ∀ p ∈ ps, ∃ q ∈ pl, servB p.1 p.2 q = true) :
    Calls Try.prog 68 #[.agg #[x0, x1, x2, .slice a pl.length cv, .int .i64 s, .int .i64 f], .slice ap ps.length cp] w fun e w' => e = .returned (.int .i64 ((lonF pl ps 0 (0, -1)).1 : Nat)) ∧ Below w.heap.size w w' := by
  have hse := fun p (hp : p ∈ ps) W h => service_any x0 x1 x2 a cv pl s f p.1 p.2 W h hpb (hy p hp) (hsv p hp)
  clear hpb hy hsv
  have ll := hL.1; have lp := hP.1
  have lpI : (ps.length : Int) ≤ 4611686018427387903 := by omega
  obtain ⟨W, hW, hb, hs, y0⟩ := boxes1 w #[x0, x1, x2, .slice a pl.length cv, .int .i64 s, .int .i64 f] 68
  have hwlt := y0.lt
  generalize hg : w.heap.size = g at *
  go_enter Try.func68, Try.ntmps68
  go_wp2
  go_loopw [5, 6, 13] (fun v5 v6 v13 wr => ∃ (j : Nat) (t : Nat × Int), j ≤ ps.length ∧ v5 = .int .i64 (t.1 : Nat) ∧ v6 = .int .i64 t.2 ∧ v13 = .int .i64 (j : Int) ∧ Below g w wr ∧ Bx wr g #[x0, x1, x2, .slice a pl.length cv, .int .i64 s, .int .i64 f] 68 ∧ lonF pl ps 0 (0, -1) = lonF pl (ps.drop j) j t) (fun _ _ v13 _ => ps.length - (intOf v13).toNat)
  case atStart => exact ⟨0, (0, -1), Nat.zero_le _, rfl, rfl, rfl, hb, y0, rfl⟩
  case round =>
    obtain ⟨j, t, hj, rfl, rfl, rfl, hbr, y1, hln⟩ := hrel
    obtain ⟨t1, t2⟩ := t
    have HL := hid hln; clear hln
    by_cases hlt : j < ps.length
    · obtain ⟨b, off, x, y, rfl, hbs, hc1, hc2, _, _, hx, hd⟩ := (hP.below hbr (by omega)).at hlt
      have hLr := hL.below hbr (by omega)
      have hjI : (j : Int) < (ps.length : Int) := by omega
      have hj0 : (0 : Int) ≤ (j : Int) := by omega
      have hsp := hse (x, y) (List.mem_of_getElem? hx.out)
      clear hse
      obtain ⟨r, hr⟩ : ∃ r, r = waitF pl (x, y) := ⟨_, rfl⟩
      have hre : (pl.getD (servF (x, y).1 (x, y).2 pl 0).toNat (0, 0)).2 - (x, y).2 = r := by rw [hr]; rfl
      rw [hre] at hsp
      obtain ⟨q, hq⟩ : ∃ q, q = servF (x, y).1 (x, y).2 pl 0 := ⟨_, rfl⟩
      rw [← hq] at hsp
      have hnx : lonF pl ps 0 (0, -1) = lonF pl (ps.drop (j + 1)) (j + 1) (if t2 < r then (j, r) else (t1, t2)) := by rw [HL.out, hd.out, hr]; rfl
      have HN := hid hnx
      dsimp only at hsp
      have hb1 := below_one (w := wr) (.cells #[.int .i64 x, .int .i64 y] 40)
      have xp := Bx.new wr #[.int .i64 x, .int .i64 y] 40
      have hL1 := hLr.below hb1 (Nat.le_refl _)
      have y2 := y1.below hb1
      have hgr := y1.lt
      clear hnx hq hr hre hx hd HL y0 y1 hLr
      go_upto_region 5 with fail
      have hb2 := hbr.trans (hb1.mono (by omega))
      clear hb1 hbr hc1 hc2
      generalize wr.alloc (.cells #[.int .i64 x, .int .i64 y] 40) = V at *
      generalize wr.heap.size = h at *
      have g0 := xp.cell 0 rfl; have g1 := xp.cell 1 rfl
      have c0 := y2.cell 0 rfl; have c1 := y2.cell 1 rfl; have c2 := y2.cell 2 rfl; have c3 := y2.cell 3 rfl; have c4 := y2.cell 4 rfl; have c5 := y2.cell 5 rfl
      go_wp2_with fail
      refine (hsp V hL1).mono ?_
      rintro e W2 ⟨rfl, hb3⟩
      have hlt2 := y2.lt
      have hb4 := hb2.trans (hb3.mono (by omega))
      have y3 := y2.below hb3
      clear hsp g0 g1 c0 c1 c2 c3 c4 c5 xp y2 hb2 hb3 hL1
      by_cases hlt3 : t2 < r
      · have HN2 : Hid (lonF pl ps 0 (0, -1) = lonF pl (ps.drop (j + 1)) (j + 1) (j, r)) := hid (by rw [HN.out, if_pos hlt3])
        clear HN
        go_wp2
        go_roundw
        case rel => exact ⟨j + 1, (j, r), by omega, rfl, rfl, by go_num, hb4, y3, HN2.out⟩
        case measure => simp [intOf]; omega
      · have HN2 : Hid (lonF pl ps 0 (0, -1) = lonF pl (ps.drop (j + 1)) (j + 1) (t1, t2)) := hid (by rw [HN.out, if_neg hlt3])
        clear HN
        have hge : r ≤ t2 := by omega
        clear hlt3
        go_wp2
        go_roundw
        case rel => exact ⟨j + 1, (t1, t2), by omega, rfl, rfl, by go_num, hb4, y3, HN2.out⟩
        case measure => simp [intOf]; omega
    · have hjI : (ps.length : Int) ≤ (j : Int) := by omega
      have hnx : lonF pl ps 0 (0, -1) = (t1, t2) := by rw [HL.out, drop_endP hj hlt]; rfl
      have HN := hid hnx
      clear hnx
      go_wp2
      go_ret
      exact ⟨by rw [HN.out]; rfl, hbr⟩

set_option maxRecDepth 100000 in
set_option maxHeartbeats 4000000 in
theorem Longest_ok (ar ap : Option Addr) (cr cp : Nat) (rs ps : List (Int × Int)) (p0 way step : Int) (w : World) (hR : Prs w ar rs) (hP : Prs w ap ps) (hv : trB rs ps p0 way step = true) (h0 : ps.length ≠ 0) (T : Tr) (hT : IsTr T rs ps p0 way step) (c : Car) (hc : c = runM T maxI) :
    Calls Try.prog 44 #[.agg #[.slice ar rs.length cr, .int .i64 p0, .int .i64 way, .int .i64 step, .slice ap ps.length cp]] w fun e w' => e = .returned (.tuple #[.int .i64 ((lonF c.plays ps 0 (0, -1)).1 : Nat), .int .i64 0]) ∧ Below w.heap.size w w' := by
  have hsd := all_served hT.hv
  have hpr := hT.hv.pr
  rw [hT.T2] at hsd hpr
  have hrg := (rng_run hT.hv (Int.le_refl maxI)).pb
  have hdo := fun W h1 h2 => deedsOf_any ar ap cr cp rs ps p0 way step W h1 h2 T hT
  unfold DeedP at hdo
  rw [← hc] at hdo hsd hrg
  clear hc
  have hsv : ∀ p ∈ ps, ∃ q ∈ c.plays, servB p.1 p.2 q = true := fun p hp => by
    obtain ⟨q, h1, h2, h3⟩ := hsd p hp
    exact ⟨q, h1, by unfold servB; simp [h2, h3]⟩
  have hyb : ∀ p ∈ ps, 0 ≤ p.2 ∧ p.2 ≤ 1000000000 := fun p hp => by have h1 := (hpr p hp).2.2; omega
  have hpb : ∀ p ∈ c.plays, 0 ≤ p.2 ∧ p.2 ≤ 1000000000 := fun p hp => by have := hrg p hp; omega
  have hlo := fun x0 x1 x2 a cv s f W h h' => longest_any x0 x1 x2 a ap cv cp c.plays ps s f W h h' hpb hyb hsv
  obtain ⟨r1, hr1⟩ : ∃ r1, r1 = (lonF c.plays ps 0 (0, -1)).1 := ⟨_, rfl⟩
  rw [← hr1] at hlo ⊢
  clear hr1 hsv hyb hpb hpr hsd hrg
  have hl := hP.1
  obtain ⟨W, hW, hb, hs, x0⟩ := boxes1 w #[.slice ar rs.length cr, .int .i64 p0, .int .i64 way, .int .i64 step, .slice ap ps.length cp] 25
  clear hs
  replace hR := hR.below hb (Nat.le_refl _); replace hP := hP.below hb (Nat.le_refl _)
  have hck := checkPressed_any ar ap cr cp rs ps p0 way step W hR hP (by omega)
  rw [hv, if_pos rfl, if_neg h0] at hck
  have c0 := x0.cell 0 rfl; have c1 := x0.cell 1 rfl; have c2 := x0.cell 2 rfl; have c3 := x0.cell 3 rfl; have c4 := x0.cell 4 rfl
  go_enter Try.func44, Try.ntmps44
  go_wp2_with fail
  refine hck.mono ?_
  rintro e W1 ⟨rfl, hb1⟩
  clear hW hck
  replace hR := hR.below hb1 (Nat.le_refl _); replace hP := hP.below hb1 (Nat.le_refl _)
  (try clear c0 c1 c2 c3 c4); replace x0 := x0.below hb1; have c0 := x0.cell 0 rfl; have c1 := x0.cell 1 rfl; have c2 := x0.cell 2 rfl; have c3 := x0.cell 3 rfl; have c4 := x0.cell 4 rfl; replace hb := hb.trans (hb1.mono hb.size); clear hb1
  go_upto_region 4 with fail
  clear c0 c1 c2 c3 c4
  have hbd := (Below.refl W1.heap.size W1).drew
  replace hR := hR.below hbd (Nat.le_refl _); replace hP := hP.below hbd (Nat.le_refl _)
  replace x0 := x0.below hbd
  replace hb := hb.trans (hbd.mono hb.size)
  clear hbd
  refine wp_region_head 6 (fun w' => Bx w' w.heap.size #[.slice ar rs.length cr, .int .i64 p0, .int .i64 way, .int .i64 step, .slice ap ps.length cp] 25) (by kernel_rfl) rfl ?_
  generalize W1.drew = Y0 at *
  refine HeadAt.take (i := 0) (.agg #[.slice ar rs.length cr, .int .i64 p0, .int .i64 way, .int .i64 step, .slice ap ps.length cp]) rfl (by kernel_rfl) (.inl ⟨rfl, fun w' z => ?_⟩) x0 ?_
  · (have z0 := z.cell 0 rfl; have z1 := z.cell 1 rfl; have z2 := z.cell 2 rfl; have z3 := z.cell 3 rfl; have z4 := z.cell 4 rfl; simp [go_sem, z0, z1, z2, z3, z4])
  refine HeadAt.take (i := 2) (.pointer (some ⟨w.heap.size, 4, none⟩)) rfl (by kernel_rfl) (.inl ⟨rfl, fun _ _ => by simp [go_sem]⟩) x0 ?_
  refine HeadAt.take (i := 3) (.slice ap ps.length cp) rfl (by kernel_rfl) (.inl ⟨rfl, fun w' z => ?_⟩) x0 ?_
  · (have z4 := z.cell 4 rfl; simp [go_sem, z4])
  refine HeadAt.one (i := 1) rfl (by kernel_rfl) ?_
  generalize hK : Upto _ _ = K0
  (try simp only [Act.put, List.getElem_toArray, List.getElem_cons_succ, List.getElem_cons_zero, List.setIfInBounds_toArray, List.set_cons_succ, List.set_cons_zero])
  go_wp2_with fail
  refine (hdo _ hR hP).mono ?_
  rintro e W2 ⟨hb1, a, cv, rfl, hpr⟩
  replace x0 := x0.below hb1
  replace hP := hP.below hb1 (Nat.le_refl _)
  replace hb := hb.trans (hb1.mono hb.size)
  clear hb1 hdo hR
  unfold deedV
  obtain ⟨d, hd⟩ : ∃ d : Int, d = if c.up then 1 else -1 := ⟨_, rfl⟩
  rw [← hd]
  clear hd
  go_wp2_with fail
  subst hK
  refine ⟨x0, ?_⟩
  refine HeadAt.one (i := 4) rfl (by kernel_rfl) ?_
  generalize hK : Upto _ _ = K0
  (try simp only [List.getElem_toArray, List.getElem_cons_succ, List.getElem_cons_zero])
  go_wp2_with fail
  refine (hlo _ _ _ _ _ _ _ _ hpr hP).mono ?_
  rintro e W3 ⟨rfl, hb1⟩
  replace x0 := x0.below hb1
  replace hb := hb.trans (hb1.mono hb.size)
  clear hb1 hlo hpr hP
  go_wp2_with fail
  subst hK
  refine ⟨x0, ?_⟩
  refine HeadAt.take (i := 5) (.int .i64 (r1 : Nat)) rfl (by kernel_rfl) (.inl ⟨rfl, fun _ _ => by simp [go_sem]⟩) x0 ?_
  refine HeadAt.done (by kernel_rfl) ?_
  (try simp only [Act.put, List.drop_succ_cons, List.drop_zero, List.getElem_toArray, List.getElem_cons_succ, List.getElem_cons_zero])
  clear x0
  go_wp2_with fail
  refine NoPanic.normal ?_
  go_wp2
  go_ret2
  exact ⟨rfl, hb⟩

set_option maxRecDepth 100000 in
set_option maxHeartbeats 1000000 in
theorem Longest_bad (ar ap : Option Addr) (cr cp : Nat) (rs ps : List (Int × Int)) (p0 way step : Int) (w : World) (hR : Prs w ar rs) (hP : Prs w ap ps) (hl : ps.length ≤ 4611686018427387903) (r : Int) (hr : r = if trB rs ps p0 way step then (if ps.length = 0 then 3 else 0) else 20) (hr0 : r ≠ 0) (_hrb : 0 ≤ r ∧ r ≤ 20) :
    Calls Try.prog 44 #[.agg #[.slice ar rs.length cr, .int .i64 p0, .int .i64 way, .int .i64 step, .slice ap ps.length cp]] w fun e w' => e = .returned (.tuple #[.int .i64 0, .int .i64 r]) ∧ Below w.heap.size w w' := by
  obtain ⟨W, hW, hb, hs, x0⟩ := boxes1 w #[.slice ar rs.length cr, .int .i64 p0, .int .i64 way, .int .i64 step, .slice ap ps.length cp] 25
  clear hs
  replace hR := hR.below hb (Nat.le_refl _); replace hP := hP.below hb (Nat.le_refl _)
  have hck := checkPressed_any ar ap cr cp rs ps p0 way step W hR hP hl
  rw [← hr] at hck
  clear hr
  have c0 := x0.cell 0 rfl; have c1 := x0.cell 1 rfl; have c2 := x0.cell 2 rfl; have c3 := x0.cell 3 rfl; have c4 := x0.cell 4 rfl
  go_enter Try.func44, Try.ntmps44
  go_wp2_with fail
  refine hck.mono ?_
  rintro e W1 ⟨rfl, hb1⟩
  replace hb := hb.trans (hb1.mono hb.size)
  clear hW x0 c0 c1 c2 c3 c4 hb1 hck
  go_wp2
  go_ret2
  exact ⟨rfl, hb⟩
end Go.Proofs.Ytknaljghpfeikaa
