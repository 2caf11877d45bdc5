import Derived.Test.YtknaljghpfeikaaT17
import Derived.Test.YtknaljghpfeikaaS1
namespace Go.Proofs.Ytknaljghpfeikaa
open Go.RowKit Go.Shelf

theorem under23 : Try.prog.underlying 23 = some (.slice 40) := by kernel_rfl
theorem info40 : (Try.prog.info? 40).map (fun i => (i.zero, i.size, i.bytes)) = some (some (.agg #[.int .i64 0, .int .i64 0]), 2, 16) := by kernel_rfl

/-- slices.Grow of the nil slice: a row of the call's own, with no element. -/
theorem grow_any (n : Nat) (B : Nat) (w : World) (hn : 0 < n ∧ n ≤ 100000) (hB : B ≤ w.heap.size) :
    Calls Try.prog 95 #[.slice none 0 0, .int .i64 (n : Int)] w fun e w' => ∃ v, e = .returned v ∧ w'.ownsRow B 40 2 v 0 [] ∧ Below w.heap.size w w' := by
  obtain ⟨i0, hi0, iz0, iz1, iz2⟩ := info_parts info40
  have h := Any8.slices_Grow_grow Try.growP i0 (.agg #[.int .i64 0, .int .i64 0]) hi0 iz0 (by omega) none 0 0 n [] w (Nat.le_refl _) (by omega) (by rw [iz2]; omega) (by omega) (by simp) (fun _ => rfl) (fun a h => by cases h)
  refine Calls.mono h ?_
  rintro e w' ⟨rfl, rfl⟩
  have hG := grownCap_le_maxLen w (0 + n) 0 40 (by unfold maxLen; omega)
  have hG2 := grownCap_ge w (0 + n) 0 40
  refine ⟨_, rfl, ?_, ?_⟩
  · refine World.ownsRow_made w.drew _ _ hB hG ?_
    show (_ : Array Value).size = grownCap w (0 + n) 0 40 * 2
    have hz : (Value.agg #[.int .i64 0, .int .i64 0]).cells.size = 2 := by decide
    simp only [Array.size_append, Go.size_zeroCells, List.size_toArray, List.length_nil, hz]
    have e : Try.growP_ren.t 25 = 40 := rfl
    rw [e]
    omega
  · exact (Below.refl _ _).drew.trans (below_one (w := w.drew) _)

def szF (m n : Nat) : Nat → Nat
  | 0 => 0
  | 1 => m
  | _ => m + n
def catF (ps qs : List (Int × Int)) : Nat → List (Int × Int)
  | 0 => []
  | 1 => ps
  | _ => ps ++ qs

set_option maxRecDepth 100000 in
set_option maxHeartbeats 4000000 in
/-- slices.Concat of two rows of presses. -/
theorem concat_any (b cb : Nat) (ap aq : Option Addr) (cp cq : Nat) (ps qs : List (Int × Int)) (w : World) (hP : Prs w ap ps) (hQ : Prs w aq qs) (hc0 : w.cell? ⟨b, 0, none⟩ = some (.slice ap ps.length cp)) (hc1 : w.cell? ⟨b, 1, none⟩ = some (.slice aq qs.length cq)) (hlen : ps.length + qs.length ≤ 1000) (hq : 0 < qs.length) :
    Calls Try.prog 91 #[.slice (some ⟨b, 0, none⟩) 2 cb] w fun e w' => ∃ a cv, e = .returned (.slice a (ps.length + qs.length) cv) ∧ Prs w' a (ps ++ qs) ∧ Below w.heap.size w w' ∧ (∀ ad, a = some ad → w.heap.size ≤ ad.block) := by
  obtain ⟨i0, hi0, iz0, iz1, iz2⟩ := info_parts info40
  obtain ⟨m, hm⟩ : ∃ m, m = ps.length := ⟨_, rfl⟩
  obtain ⟨n, hn⟩ : ∃ n, n = qs.length := ⟨_, rfl⟩
  have lm : (pcells ps).length = m * 2 := by rw [pcells_len, hm]
  have ln : (pcells qs).length = n * 2 := by rw [pcells_len, hn]
  rw [← hm] at hc0 hlen ⊢
  rw [← hn] at hc1 hlen hq ⊢
  have hbd : ∀ x ∈ ps ++ qs, -9223372036854775808 ≤ x.1 ∧ x.1 ≤ 9223372036854775807 ∧ -9223372036854775808 ≤ x.2 ∧ x.2 ≤ 9223372036854775807 := fun x hx => by
    rcases List.mem_append.1 hx with h | h
    · exact hP.2.1 x h
    · exact hQ.2.1 x h
  have hll : (ps ++ qs).length = m + n := by rw [List.length_append, ← hm, ← hn]
  have LM := hid lm; have LN := hid ln; have HLL := hid hll; have HBD := hid hbd
  clear lm ln hm hn hbd hll
  have hmI : (m : Int) ≤ 1000 := by omega
  have hnI : (n : Int) ≤ 1000 := by omega
  have hm0 : (0 : Int) ≤ (m : Int) := by omega
  have hn0 : (0 : Int) < (n : Int) := by omega
  go_enter Try.func91, Try.ntmps91
  go_wp2
  go_loopw [3, 11] (fun v3 v11 wr => ∃ j : Nat, j ≤ 2 ∧ v11 = .int .i64 (j : Int) ∧ v3 = .int .i64 (szF m n j : Nat) ∧ Below w.heap.size w wr) (fun _ v11 _ => 2 - (intOf v11).toNat)
  case atStart => exact ⟨0, by omega, rfl, rfl, Below.refl _ _⟩
  case round =>
    obtain ⟨j, hj, rfl, rfl, hb⟩ := hrel
    have d0 := hb.cell (p := ⟨b, 0, none⟩) (cell_lt hc0)
    have d1 := hb.cell (p := ⟨b, 1, none⟩) (cell_lt hc1)
    rw [hc0] at d0; rw [hc1] at d1
    rcases (by omega : j = 0 ∨ j = 1 ∨ j = 2) with rfl | rfl | rfl
    · simp only [szF] at *
      go_wp2
      go_roundw
      case rel => exact ⟨1, by omega, rfl, by simp, hb⟩
      case measure => simp [intOf]
    · simp only [szF] at *
      go_wp2
      go_roundw
      case rel => exact ⟨2, by omega, rfl, by simp, hb⟩
      case measure => simp [intOf]
    · simp only [szF] at *
      have hgr := grow_any (m + n) w.heap.size wr (by omega) hb.size
      go_wp2_with fail
      refine Calls.mono hgr ?_
      rintro e W1 ⟨v, rfl, hown, hb1⟩
      replace hb := hb.trans (hb1.mono hb.size)
      clear hb1 hgr d0 d1
      go_wp2
      go_loopw [6, 27] (fun v6 v27 wr => ∃ j : Nat, j ≤ 2 ∧ v27 = .int .i64 (j : Int) ∧ wr.ownsRow w.heap.size 40 2 v6 (szF m n j) (pcells (catF ps qs j)) ∧ Below w.heap.size w wr) (fun _ v27 _ => 2 - (intOf v27).toNat)
      case atStart => exact ⟨0, by omega, rfl, hown, hb⟩
      case round =>
        obtain ⟨j, hj, rfl, hown, hb⟩ := hrel
        obtain ⟨a6, c6, rfl⟩ := own_slice2 hown
        have d0 := hb.cell (p := ⟨b, 0, none⟩) (cell_lt hc0)
        have d1 := hb.cell (p := ⟨b, 1, none⟩) (cell_lt hc1)
        rw [hc0] at d0; rw [hc1] at d1
        have hPr := (hP.below hb (Nat.le_refl _)).cls
        have hQr := (hQ.below hb (Nat.le_refl _)).cls
        have hge := own_ge2 hown
        rcases (by omega : j = 0 ∨ j = 1 ∨ j = 2) with rfl | rfl | rfl
        · simp only [szF] at *
          go_wp2_with (at_builtin; refine wpList_appAt rfl (.tmp 31) (.tmp 32) 23 rfl w.heap.size 40 i0 (.agg #[.int .i64 0, .int .i64 0]) 2 16 under23 hi0 iz0 iz1 iz2 rfl (by decide) (.slice a6 0 c6) 0 _ rfl hown ap m cp (pcells ps) rfl LM.out hPr (pcells_one ps) (by unfold maxLen; omega) (by omega) hb.size ?_; intro v5 W5 hown5 hg5 hat)
          rw [Nat.zero_add] at hown5
          go_roundw
          case rel => exact ⟨1, by omega, rfl, hown5, hb.grown hg5 hb.size hge⟩
          case measure => simp [intOf]
        · simp only [szF] at *
          go_wp2_with (at_builtin; refine wpList_appAt rfl (.tmp 31) (.tmp 32) 23 rfl w.heap.size 40 i0 (.agg #[.int .i64 0, .int .i64 0]) 2 16 under23 hi0 iz0 iz1 iz2 rfl (by decide) (.slice a6 m c6) m _ rfl hown aq n cq (pcells qs) rfl LN.out hQr (pcells_one qs) (by unfold maxLen; omega) (by omega) hb.size ?_; intro v5 W5 hown5 hg5 hat)
          go_roundw
          case rel => exact ⟨2, by omega, rfl, by rw [show catF ps qs 2 = ps ++ qs from rfl, pcells_app]; exact hown5, hb.grown hg5 hb.size hge⟩
          case measure => simp [intOf]
        · have hown2 : wr.ownsRow w.heap.size 40 2 (.slice a6 (szF m n 2) c6) (ps ++ qs).length (pcells (ps ++ qs)) := by rw [HLL.out]; exact hown
          obtain ⟨a7, c7, he, hprs⟩ := Prs.of_own hown2 (by rw [HLL.out]; omega) HBD.out
          rw [HLL.out] at he
          have hnew := own_new2 hown
          have HE := hid (And.intro he (And.intro hprs hnew))
          clear he hprs hnew hown2 hown hPr hQr hge
          simp only [szF] at *
          go_wp2
          go_ret
          obtain ⟨he, hprs, hnew⟩ := HE.out
          have he2 : a6 = a7 := by injection he
          exact ⟨a7, c7, by rw [← he]; rfl, hprs, hb, by rw [← he2]; exact hnew⟩
end Go.Proofs.Ytknaljghpfeikaa
namespace Go.Proofs.Ytknaljghpfeikaa
open Go.RowKit

theorem Prs.one {w : World} {g : Nat} {x y : Int} (h : Bx w g #[.int .i64 x, .int .i64 y] 40) (hx : -9223372036854775808 ≤ x ∧ x ≤ 9223372036854775807) (hy : -9223372036854775808 ≤ y ∧ y ≤ 9223372036854775807) : Prs w (some ⟨g, 0, none⟩) [(x, y)] := by
  refine ⟨by simp, fun p hp => ?_, fun i hi => ?_⟩
  · rw [List.mem_singleton] at hp
    subst hp
    exact ⟨hx.1, hx.2, hy.1, hy.2⟩
  · obtain rfl : i = 0 := by simp at hi; omega
    exact ⟨g, 0, rfl, h.lt, h.cell 0 rfl, h.cell 1 rfl⟩

/-- When the play begins that serves a press. -/
def begF (T : Tr) (x y : Int) : Int := ((runM T maxI).plays.getD (servF x y (runM T maxI).plays 0).toNat (0, 0)).2

set_option maxRecDepth 100000 in
set_option maxHeartbeats 4000000 in
theorem begins_any (ar ap : Option Addr) (cr cp : Nat) (rs ps : List (Int × Int)) (p0 way step : Int) (x y : Int) (w : World) (hR : Prs w ar rs) (hP : Prs w ap ps) (T : Tr) (hT : IsTr T rs (ps ++ [(x, y)]) p0 way step) :
    Calls Try.prog 78 #[.agg #[.slice ar rs.length cr, .int .i64 p0, .int .i64 way, .int .i64 step, .slice ap ps.length cp], .agg #[.int .i64 x, .int .i64 y]] w fun e w' => e = .returned (.int .i64 (begF T x y)) ∧ Below w.heap.size w w' := by
  have hmem : (x, y) ∈ T.prs := by rw [hT.T2]; simp
  have hsd := all_served hT.hv (x, y) hmem
  have hpr := hT.hv.pr (x, y) hmem
  have hlp : ps.length ≤ 12 := by have := hT.hv.p13; rw [hT.T2] at this; simp at this; omega
  have hn6 := hT.hv.n6
  have hrg := (rng_run hT.hv (Int.le_refl maxI)).pb
  unfold begF
  obtain ⟨c, hc⟩ : ∃ c, c = runM T maxI := ⟨_, rfl⟩
  have hdo : ∀ (ap' : Option Addr) (cp' : Nat) W, Prs W ar rs → Prs W ap' (ps ++ [(x, y)]) → Calls Try.prog 53 #[.agg #[.slice ar rs.length cr, .int .i64 p0, .int .i64 way, .int .i64 step, .slice ap' (ps.length + 1) cp']] W fun e w' =>
      Below W.heap.size W w' ∧ ∃ (a : Option Addr) (cv : Nat), e = .returned (deedV c (.slice a c.plays.length cv)) ∧ Prs w' a c.plays := fun ap' cp' W h1 h2 => by
    have h := deedsOf_any ar ap' cr cp' rs (ps ++ [(x, y)]) p0 way step W h1 h2 T hT
    unfold DeedP at h
    rw [← hc, List.length_append] at h
    exact h
  rw [← hc] at hsd hrg ⊢
  clear hc
  have hsv : ∃ p ∈ c.plays, servB x y p = true := by
    obtain ⟨q, h1, h2, h3⟩ := hsd
    exact ⟨q, h1, by unfold servB; simp [h2, h3]⟩
  have hxb : 0 ≤ x ∧ x ≤ 11 := by have h1 := hpr.1; have h2 := hpr.2.1; dsimp only at h1 h2; omega
  have hyb : 0 ≤ y ∧ y ≤ 1000000000 := by have h1 := hpr.2.2; dsimp only at h1; omega
  have hpb : ∀ p ∈ c.plays, 0 ≤ p.2 ∧ p.2 ≤ 1000000000 := fun p hp => by have := hrg p hp; omega
  have hse := fun x0 x1 x2 a cv s f W h => service_any x0 x1 x2 a cv c.plays s f x y W h hpb hyb hsv
  obtain ⟨r1, hr1⟩ : ∃ r1, r1 = servF x y c.plays 0 := ⟨_, rfl⟩
  have hrb : 0 ≤ (c.plays.getD (servF x y c.plays 0).toNat (0, 0)).2 ∧ (c.plays.getD (servF x y c.plays 0).toNat (0, 0)).2 ≤ 1000000000 := by
    rw [List.getD_eq_getElem?_getD]
    cases h : c.plays[(servF x y c.plays 0).toNat]? with
    | none => simp
    | some q => exact hpb q (List.mem_of_getElem? h)
  obtain ⟨r2, hr2⟩ : ∃ r2, r2 = (c.plays.getD (servF x y c.plays 0).toNat (0, 0)).2 := ⟨_, rfl⟩
  rw [← hr2] at hse hrb ⊢
  rw [← hr1] at hse
  clear hr1 hr2 hsv hpb hpr hsd hrg hmem
  obtain ⟨W, hW, hb, hs, x0, x4⟩ := boxes2 w #[.slice ar rs.length cr, .int .i64 p0, .int .i64 way, .int .i64 step, .slice ap ps.length cp] 25 #[.int .i64 x, .int .i64 y] 40
  obtain ⟨W1, hW1, hb1, hs1, xq⟩ := boxes1 W #[.int .i64 x, .int .i64 y] 40
  rw [hs] at hs1 xq
  obtain ⟨W2, hW2, hb2, hs2, xr⟩ := boxes1 W1 #[.slice ap ps.length cp, .slice (some ⟨w.heap.size + 1 + 1, 0, none⟩) 1 1] 23
  rw [hs1] at hs2 xr
  have hbW2 := (hb.trans (hb1.mono hb.size)).trans (hb2.mono (hb.trans (hb1.mono hb.size)).size)
  have hq : Prs W2 (some ⟨w.heap.size + 1 + 1, 0, none⟩) [(x, y)] := Prs.one (xq.below hb2) (by omega) (by omega)
  have hcat : Calls Try.prog 91 #[.slice (some ⟨w.heap.size + 1 + 1 + 1, 0, none⟩) 2 2] W2 fun e w' => ∃ a cv, e = .returned (.slice a (ps.length + 1) cv) ∧ Prs w' a (ps ++ [(x, y)]) ∧ Below W2.heap.size W2 w' ∧ (∀ ad, a = some ad → W2.heap.size ≤ ad.block) :=
    concat_any _ 2 ap _ cp 1 ps [(x, y)] W2 (hP.below hbW2 (Nat.le_refl _)) hq (xr.cell 0 rfl) (xr.cell 1 rfl) (by simp; omega) (by simp)
  have x02 := (x0.below hb1).below hb2
  have x42 := (x4.below hb1).below hb2
  clear xq xr hq
  have c0 := x0.cell 0 rfl; have c1 := x0.cell 1 rfl; have c2 := x0.cell 2 rfl; have c3 := x0.cell 3 rfl; have c4 := x0.cell 4 rfl
  have d0 := x4.cell 0 rfl; have d1 := x4.cell 1 rfl
  go_enter Try.func78, Try.ntmps78
  go_wp2_with fail
  clear c0 c1 c2 c3 c4 d0 d1
  refine hcat.mono ?_
  rintro e W3 ⟨a, cv, rfl, hcp, hb3, hnew⟩
  clear hcat
  have x03 := x02.below hb3
  have x43 := x42.below hb3
  have hbW3 := hbW2.trans (hb3.mono hbW2.size)
  have fr := x03.free 4
  have k4 := x03.cell 4 rfl
  have x04 : Bx (W3.setCell ⟨w.heap.size, 4, none⟩ (.slice a (ps.length + 1) cv)) w.heap.size #[.slice ar rs.length cr, .int .i64 p0, .int .i64 way, .int .i64 step, .slice a (ps.length + 1) cv] 25 := x03.set 4 _
  have x44 := x43.other (a := ⟨w.heap.size, 4, none⟩) (by show w.heap.size + 1 ≠ w.heap.size; omega) (.slice a (ps.length + 1) cv)
  have hbW4 := hbW3.setCell (p := ⟨w.heap.size, 4, none⟩) (Nat.le_refl _) (.slice a (ps.length + 1) cv)
  have hcp4 := hcp.gro (gset W3 ⟨w.heap.size, 4, none⟩ (.slice a (ps.length + 1) cv)) (fun _ ad e e2 => by
    have h1 := hnew ad e
    injection e2 with e2
    have : w.heap.size = ad.block := e2
    omega)
  clear x0 x4 x02 x42 x03 x43 hcp hb1 hb2 hb3 hbW2 hbW3 hW hW1 hW2 hs hs1 hs2 hb hnew
  go_upto_region 2 with fail
  clear fr k4
  generalize W3.setCell ⟨w.heap.size, 4, none⟩ (.slice a (ps.length + 1) cv) = W4 at *
  have hbd := (Below.refl W4.heap.size W4).drew
  have hR4 := (hR.below hbW4 (Nat.le_refl _)).below hbd (Nat.le_refl _)
  replace hcp4 := hcp4.below hbd (Nat.le_refl _)
  have S0 := And.intro (x04.below hbd) (x44.below hbd)
  have hb := hbW4.trans (hbd.mono hbW4.size)
  clear hbd x04 x44 hbW4 hR hP
  refine wp_region_head 8 (fun w' => Bx w' w.heap.size #[.slice ar rs.length cr, .int .i64 p0, .int .i64 way, .int .i64 step, .slice a (ps.length + 1) cv] 25 ∧ Bx w' (w.heap.size + 1) #[.int .i64 x, .int .i64 y] 40) (by kernel_rfl) rfl ?_
  generalize W4.drew = Y0 at *
  refine HeadAt.take (i := 0) (.agg #[.slice ar rs.length cr, .int .i64 p0, .int .i64 way, .int .i64 step, .slice a (ps.length + 1) cv]) rfl (by kernel_rfl) (.inl ⟨rfl, fun w' z => ?_⟩) S0 ?_
  · (have z0 := z.1.cell 0 rfl; have z1 := z.1.cell 1 rfl; have z2 := z.1.cell 2 rfl; have z3 := z.1.cell 3 rfl; have z4 := z.1.cell 4 rfl; simp [go_sem, z0, z1, z2, z3, z4])
  refine HeadAt.take (i := 2) (.agg #[.int .i64 x, .int .i64 y]) rfl (by kernel_rfl) (.inl ⟨rfl, fun w' z => ?_⟩) S0 ?_
  · (have z0 := z.2.cell 0 rfl; have z1 := z.2.cell 1 rfl; simp [go_sem, z0, z1])
  refine HeadAt.one (i := 1) rfl (by kernel_rfl) ?_
  generalize hK : Upto _ _ = K0
  (try simp only [Act.put, List.getElem_toArray, List.getElem_cons_succ, List.getElem_cons_zero, List.setIfInBounds_toArray, List.set_cons_succ, List.set_cons_zero])
  go_wp2_with fail
  refine (hdo _ _ _ hR4 hcp4).mono ?_
  rintro e Y1 ⟨hb1, a9, cv9, rfl, hpr⟩
  replace S0 := And.intro (S0.1.below hb1) (S0.2.below hb1)
  replace hb := hb.trans (hb1.mono hb.size)
  clear hb1 hdo hR4 hcp4
  unfold deedV
  obtain ⟨d, hd⟩ : ∃ d : Int, d = if c.up then 1 else -1 := ⟨_, rfl⟩
  rw [← hd]
  clear hd
  go_wp2_with fail
  subst hK
  refine ⟨S0, ?_⟩
  refine HeadAt.one (i := 3) rfl (by kernel_rfl) ?_
  generalize hK : Upto _ _ = K0
  (try simp only [List.getElem_toArray, List.getElem_cons_succ, List.getElem_cons_zero])
  go_wp2_with fail
  refine (hse _ _ _ _ _ _ _ _ hpr).mono ?_
  rintro e Y2 ⟨rfl, hb1⟩
  replace S0 := And.intro (S0.1.below hb1) (S0.2.below hb1)
  replace hb := hb.trans (hb1.mono hb.size)
  clear hb1 hse hpr
  go_wp2_with fail
  subst hK
  refine ⟨S0, ?_⟩
  refine HeadAt.take (i := 4) (.tuple #[.int .i64 r1, .int .i64 (r2 - y)]) rfl (by kernel_rfl) (.inl ⟨rfl, fun _ _ => by simp [go_sem]⟩) S0 ?_
  refine HeadAt.take (i := 5) (.int .i64 r1) rfl (by kernel_rfl) (.inl ⟨rfl, fun _ _ => by simp [go_sem]⟩) S0 ?_
  refine HeadAt.take (i := 6) (.int .i64 (r2 - y)) rfl (by kernel_rfl) (.inl ⟨rfl, fun _ _ => by simp [go_sem]⟩) S0 ?_
  refine HeadAt.take (i := 7) (.int .i64 r1) rfl (by kernel_rfl) (.inl ⟨rfl, fun _ _ => by simp [go_sem]⟩) S0 ?_
  refine HeadAt.done (by kernel_rfl) ?_
  (try simp only [Act.put, List.drop_succ_cons, List.drop_zero, List.getElem_toArray, List.getElem_cons_succ, List.getElem_cons_zero])
  have k1 := S0.2.cell 1 rfl
  clear S0
  have ey : y + (r2 - y) = r2 := by omega
  go_wp2_with fail
  refine NoPanic.normal ?_
  go_wp2
  go_ret
  exact ⟨by simp, hb⟩
end Go.Proofs.Ytknaljghpfeikaa
namespace Go.Proofs.Ytknaljghpfeikaa
open Go.RowKit

/-- A tray with one more press. -/
def addP (T : Tr) (x y : Int) : Tr := { T with prs := T.prs ++ [(x, y)] }
theorem addP_is {T : Tr} {rs ps : List (Int × Int)} {p0 way step x y : Int} (hT : IsTr T rs ps p0 way step) (hl : ps.length ≤ 12) (hx : 0 ≤ x ∧ x < 2 * (rs.length : Int)) (hy : 0 ≤ y ∧ y ≤ 9999) : IsTr (addP T x y) rs (ps ++ [(x, y)]) p0 way step := by
  obtain ⟨h1, h2, h3, h4, h5, hv⟩ := hT
  refine ⟨h1, by unfold addP; simp [h2], h3, h4, h5, ⟨hv.n1, hv.n6, hv.rc, hv.at0, hv.st, ?_, ?_⟩⟩
  · show (T.prs ++ [(x, y)]).length ≤ 13
    rw [h2]; simp; omega
  · intro p hp
    rcases List.mem_append.1 (show p ∈ T.prs ++ [(x, y)] from hp) with h | h
    · exact hv.pr p h
    · rw [List.mem_singleton] at h
      subst h
      show 0 ≤ x ∧ x < 2 * (T.rcs.length : Int) ∧ 0 ≤ y ∧ y ≤ 9999
      rw [h1]
      omega

/-- Whether one more press of a side is served too late. -/
def lateP (T : Tr) (x by' : Int) (i : Nat) : Bool := decide (by' < begF (addP T x (i : Int)) x (i : Int))

set_option maxRecDepth 100000 in
set_option maxHeartbeats 4000000 in
theorem late_any (ar ap : Option Addr) (cr cp : Nat) (rs ps : List (Int × Int)) (p0 way step : Int) (x by' : Int) (i : Nat) (g : Nat) (w : World) (hR : Prs w ar rs) (hP : Prs w ap ps) (hg : Bx w g #[.slice ar rs.length cr, .int .i64 p0, .int .i64 way, .int .i64 step, .slice ap ps.length cp] 25) (hgx : Bx w (g + 1) #[.int .i64 x] 3) (hgb : Bx w (g + 1 + 1) #[.int .i64 by'] 3) (T : Tr) (hT : IsTr (addP T x (i : Int)) rs (ps ++ [(x, (i : Int))]) p0 way step) :
    Calls Try.prog 77 (#[.int .i64 (i : Int)] ++ #[.pointer (some ⟨g, 0, none⟩), .pointer (some ⟨g + 1, 0, none⟩), .pointer (some ⟨g + 1 + 1, 0, none⟩)]) w fun e w' => e = .returned (.bool (lateP T x by' i)) ∧ Below w.heap.size w w' := by
  have hbe := fun W h1 h2 => begins_any ar ap cr cp rs ps p0 way step x (i : Int) W h1 h2 (addP T x (i : Int)) hT
  unfold lateP
  obtain ⟨r, hr⟩ : ∃ r, r = begF (addP T x (i : Int)) x (i : Int) := ⟨_, rfl⟩
  rw [← hr] at hbe ⊢
  clear hr hT
  go_enter Try.func77, Try.ntmps77
  go_upto_region 1 with fail
  have hbd := (Below.refl w.heap.size w).drew
  replace hR := hR.below hbd (Nat.le_refl _); replace hP := hP.below hbd (Nat.le_refl _)
  have S0 := And.intro (hg.below hbd) (And.intro (hgx.below hbd) (hgb.below hbd))
  have hb := hbd
  clear hbd hg hgx hgb
  refine wp_region_head 7 (fun w' => Bx w' g #[.slice ar rs.length cr, .int .i64 p0, .int .i64 way, .int .i64 step, .slice ap ps.length cp] 25 ∧ Bx w' (g + 1) #[.int .i64 x] 3 ∧ Bx w' (g + 1 + 1) #[.int .i64 by'] 3) (by kernel_rfl) rfl ?_
  generalize hY : w.drew = Y0 at *
  refine HeadAt.take (i := 0) (.agg #[.slice ar rs.length cr, .int .i64 p0, .int .i64 way, .int .i64 step, .slice ap ps.length cp]) rfl (by kernel_rfl) (.inl ⟨rfl, fun w' z => ?_⟩) S0 ?_
  · (have z0 := z.1.cell 0 rfl; have z1 := z.1.cell 1 rfl; have z2 := z.1.cell 2 rfl; have z3 := z.1.cell 3 rfl; have z4 := z.1.cell 4 rfl; simp [go_sem, z0, z1, z2, z3, z4])
  refine HeadAt.take (i := 1) (.int .i64 x) rfl (by kernel_rfl) (.inl ⟨rfl, fun w' z => ?_⟩) S0 ?_
  · (have z0 := z.2.1.cell 0 rfl; simp [go_sem, z0])
  refine HeadAt.take (i := 2) (.int .i64 (i : Int)) rfl (by kernel_rfl) (.inl ⟨rfl, fun _ _ => by simp [go_sem]⟩) S0 ?_
  refine HeadAt.take (i := 3) (.agg #[.int .i64 x, .int .i64 (i : Int)]) rfl (by kernel_rfl) (.inl ⟨rfl, fun _ _ => by simp [go_sem]⟩) S0 ?_
  refine HeadAt.take (i := 5) (.int .i64 by') rfl (by kernel_rfl) (.inl ⟨rfl, fun w' z => ?_⟩) S0 ?_
  · (have z0 := z.2.2.cell 0 rfl; simp [go_sem, z0])
  refine HeadAt.one (i := 4) rfl (by kernel_rfl) ?_
  generalize hK : Upto _ _ = K0
  (try simp only [Act.put, List.getElem_toArray, List.getElem_cons_succ, List.getElem_cons_zero, List.setIfInBounds_toArray, List.set_cons_succ, List.set_cons_zero])
  go_wp2_with fail
  refine (hbe _ hR hP).mono ?_
  rintro e Y1 ⟨rfl, hb1⟩
  replace S0 := And.intro (S0.1.below hb1) (And.intro (S0.2.1.below hb1) (S0.2.2.below hb1))
  replace hb := hb.trans (hb1.mono hb.size)
  clear hb1 hbe hR hP
  go_wp2_with fail
  subst hK
  refine ⟨S0, ?_⟩
  refine HeadAt.take (i := 6) (.bool (decide (by' < r))) rfl (by kernel_rfl) (.inl ⟨rfl, fun _ _ => by simp [go_sem]⟩) S0 ?_
  refine HeadAt.done (by kernel_rfl) ?_
  (try simp only [Act.put, List.drop_succ_cons, List.drop_zero, List.getElem_toArray, List.getElem_cons_succ, List.getElem_cons_zero])
  clear S0
  go_wp2_with fail
  refine NoPanic.normal ?_
  go_wp2
  go_ret
  exact ⟨rfl, hb⟩

set_option maxRecDepth 100000 in
set_option maxHeartbeats 4000000 in
theorem latest_any (ar ap : Option Addr) (cr cp : Nat) (rs ps : List (Int × Int)) (p0 way step : Int) (x by' : Int) (w : World) (hR : Prs w ar rs) (hP : Prs w ap ps) (hx : 0 ≤ x ∧ x < 2 * (rs.length : Int)) (hby : 0 ≤ by' ∧ by' ≤ 9999) (hl : ps.length ≤ 12) (T : Tr) (hT : IsTr T rs ps p0 way step) :
    Calls Try.prog 61 #[.agg #[.slice ar rs.length cr, .int .i64 p0, .int .i64 way, .int .i64 step, .slice ap ps.length cp], .int .i64 x, .int .i64 by'] w fun e w' => ∃ k : Nat, e = .returned (.tuple #[.int .i64 ((k : Int) - 1), .bool (decide (0 < k))]) ∧ (k : Int) ≤ by' + 1 ∧ (0 < k → lateP T x by' (k - 1) = false) ∧ ((k : Int) < by' + 1 → lateP T x by' k = true) ∧ Below w.heap.size w w' := by
  obtain ⟨m, rfl⟩ : ∃ m : Nat, by' = (m : Int) := ⟨by'.toNat, by omega⟩
  obtain ⟨W, hW, hb, hs, x0, x1⟩ := boxes2 w #[.slice ar rs.length cr, .int .i64 p0, .int .i64 way, .int .i64 step, .slice ap ps.length cp] 25 #[.int .i64 x] 3
  obtain ⟨W1, hW1, hb1, hs1, x2⟩ := boxes1 W #[.int .i64 (m : Int)] 3
  rw [hs] at hs1 x2
  replace x0 := x0.below hb1
  replace x1 := x1.below hb1
  replace hb := hb.trans (hb1.mono hb.size)
  have hsr := search_any (m + 1) #[.pointer (some ⟨w.heap.size, 0, none⟩), .pointer (some ⟨w.heap.size + 1, 0, none⟩), .pointer (some ⟨w.heap.size + 1 + 1, 0, none⟩)] (lateP T x (m : Int)) W1 (by omega) (fun V i hV hi =>
    late_any ar ap cr cp rs ps p0 way step x (m : Int) i w.heap.size V ((hR.below hb (Nat.le_refl _)).below hV (Nat.le_refl _)) ((hP.below hb (Nat.le_refl _)).below hV (Nat.le_refl _)) (x0.below hV) (x1.below hV) (x2.below hV) T (addP_is hT hl hx (by omega)))
  rw [show (((m + 1 : Nat)) : Int) = (m : Int) + 1 by omega] at hsr
  clear hT hR hP
  have hmI : (m : Int) ≤ 9999 := by omega
  have hm0 : (0 : Int) ≤ (m : Int) := by omega
  have c0 := x0.cell 0 rfl; have c1 := x0.cell 1 rfl; have c2 := x0.cell 2 rfl; have c3 := x0.cell 3 rfl; have c4 := x0.cell 4 rfl
  have e0 := x1.cell 0 rfl
  have f0 := x2.cell 0 rfl
  go_enter Try.func61, Try.ntmps61
  go_wp2_with fail
  refine hsr.mono ?_
  rintro e V ⟨k, rfl, hk, h1, h2, hb2⟩
  replace hb := hb.trans (hb2.mono hb.size)
  have H := hid (And.intro h1 h2)
  have hkI : (k : Int) ≤ 10000 := by omega
  have hk0 : (0 : Int) ≤ (k : Int) := by omega
  clear hsr x0 x1 x2 c0 c1 c2 c3 c4 e0 f0 h1 h2 hb1 hb2 hW hW1 hs hs1
  go_wp2
  go_ret2
  exact ⟨k, rfl, by omega, H.out.1, fun h => H.out.2 (by omega), hb⟩
end Go.Proofs.Ytknaljghpfeikaa
namespace Go.Proofs.Ytknaljghpfeikaa
open Go.RowKit

set_option maxRecDepth 100000 in
set_option maxHeartbeats 1000000 in
theorem Latest_bad (ar ap : Option Addr) (cr cp : Nat) (rs ps : List (Int × Int)) (p0 way step : Int) (x by' : Int) (w : World) (hR : Prs w ar rs) (hP : Prs w ap ps) (hv : trB rs ps p0 way step = false) :
    Calls Try.prog 32 #[.agg #[.slice ar rs.length cr, .int .i64 p0, .int .i64 way, .int .i64 step, .slice ap ps.length cp], .int .i64 x, .int .i64 by'] w fun e w' => e = .returned (.tuple #[.int .i64 0, .int .i64 20]) ∧ Below w.heap.size w w' := by
  obtain ⟨W, hW, hb, hs, x0⟩ := boxes1 w #[.slice ar rs.length cr, .int .i64 p0, .int .i64 way, .int .i64 step, .slice ap ps.length cp] 25
  clear hs
  replace hR := hR.below hb (Nat.le_refl _); replace hP := hP.below hb (Nat.le_refl _)
  have c0 := x0.cell 0 rfl; have c1 := x0.cell 1 rfl; have c2 := x0.cell 2 rfl; have c3 := x0.cell 3 rfl; have c4 := x0.cell 4 rfl
  go_enter Try.func32, Try.ntmps32
  go_wp2_with fail
  refine (valid_any ar ap cr cp rs ps p0 way step W hR hP).mono ?_
  rintro e W1 ⟨rfl, hb1⟩
  rw [hv]
  replace hb := hb.trans (hb1.mono hb.size)
  clear hW x0 c0 c1 c2 c3 c4 hb1
  go_wp2
  go_ret2
  exact ⟨rfl, hb⟩

set_option maxRecDepth 100000 in
set_option maxHeartbeats 3000000 in
theorem Latest_arg (ar ap : Option Addr) (cr cp : Nat) (rs ps : List (Int × Int)) (p0 way step : Int) (x by' : Int) (w : World) (hR : Prs w ar rs) (hP : Prs w ap ps) (hv : trB rs ps p0 way step = true) (hx : (inR 0 x (2 * (rs.length : Int) - 1) && inR 0 by' 9999) = false) :
    Calls Try.prog 32 #[.agg #[.slice ar rs.length cr, .int .i64 p0, .int .i64 way, .int .i64 step, .slice ap ps.length cp], .int .i64 x, .int .i64 by'] w fun e w' => e = .returned (.tuple #[.int .i64 0, .int .i64 1]) ∧ Below w.heap.size w w' := by
  have hl := hR.1
  obtain ⟨W, hW, hb, hs, x0⟩ := boxes1 w #[.slice ar rs.length cr, .int .i64 p0, .int .i64 way, .int .i64 step, .slice ap ps.length cp] 25
  clear hs
  replace hR := hR.below hb (Nat.le_refl _); replace hP := hP.below hb (Nat.le_refl _)
  obtain ⟨q1, hq1⟩ : ∃ q1, q1 = inR 0 x (2 * (rs.length : Int) - 1) := ⟨_, rfl⟩
  have hsd := fun W => isSide_60 ar ap cr cp rs ps p0 way step x W hl
  rw [← hq1] at hsd hx
  clear hq1
  have c0 := x0.cell 0 rfl; have c1 := x0.cell 1 rfl; have c2 := x0.cell 2 rfl; have c3 := x0.cell 3 rfl; have c4 := x0.cell 4 rfl
  cases q1
  · go_enter Try.func32, Try.ntmps32
    go_wp2_with fail
    refine (valid_any ar ap cr cp rs ps p0 way step W hR hP).mono ?_
    rintro e W1 ⟨rfl, hb1⟩
    rw [hv]
    clear hW
    (try clear c0 c1 c2 c3 c4); replace x0 := x0.below hb1; have c0 := x0.cell 0 rfl; have c1 := x0.cell 1 rfl; have c2 := x0.cell 2 rfl; have c3 := x0.cell 3 rfl; have c4 := x0.cell 4 rfl; replace hb := hb.trans (hb1.mono hb.size); clear hb1
    go_wp2_with (first | (go_at_call 60; refine (hsd _).mono ?_; rintro e W2 ⟨rfl, hb2⟩))
    go_ret2
    exact ⟨rfl, hb.trans (hb2.mono hb.size)⟩
  · rw [Bool.true_and] at hx
    go_enter Try.func32, Try.ntmps32
    go_wp2_with fail
    refine (valid_any ar ap cr cp rs ps p0 way step W hR hP).mono ?_
    rintro e W1 ⟨rfl, hb1⟩
    rw [hv]
    clear hW
    (try clear c0 c1 c2 c3 c4); replace x0 := x0.below hb1; have c0 := x0.cell 0 rfl; have c1 := x0.cell 1 rfl; have c2 := x0.cell 2 rfl; have c3 := x0.cell 3 rfl; have c4 := x0.cell 4 rfl; replace hb := hb.trans (hb1.mono hb.size); clear hb1
    go_wp2_with (first | (go_at_call 60; refine (hsd _).mono ?_; rintro e W2 ⟨rfl, hb2⟩) | (go_at_call 57; refine (isTime_any _ _).mono ?_; rintro e w' ⟨rfl, rfl⟩))
    go_ret2
    exact ⟨rfl, hb.trans (hb2.mono hb.size)⟩

set_option maxRecDepth 100000 in
set_option maxHeartbeats 3000000 in
theorem Latest_ok (ar ap : Option Addr) (cr cp : Nat) (rs ps : List (Int × Int)) (p0 way step : Int) (x by' : Int) (w : World) (hR : Prs w ar rs) (hP : Prs w ap ps) (hv : trB rs ps p0 way step = true) (hx : inR 0 x (2 * (rs.length : Int) - 1) = true) (hy : inR 0 by' 9999 = true) (hlp : ps.length ≤ 12) (T : Tr) (hT : IsTr T rs ps p0 way step) :
    Calls Try.prog 32 #[.agg #[.slice ar rs.length cr, .int .i64 p0, .int .i64 way, .int .i64 step, .slice ap ps.length cp], .int .i64 x, .int .i64 by'] w fun e w' => ∃ k : Nat, e = .returned (if k = 0 then .tuple #[.int .i64 0, .int .i64 3] else .tuple #[.int .i64 ((k : Int) - 1), .int .i64 0]) ∧ (k : Int) ≤ by' + 1 ∧ (0 < k → lateP T x by' (k - 1) = false) ∧ ((k : Int) < by' + 1 → lateP T x by' k = true) ∧ Below w.heap.size w w' := by
  have hl := hR.1
  have hx2 := inR_iff.1 hx
  have hy2 := inR_iff.1 hy
  have hla := fun W h1 h2 => latest_any ar ap cr cp rs ps p0 way step x by' W h1 h2 (by omega) hy2 hlp T hT
  obtain ⟨W, hW, hb, hs, x0⟩ := boxes1 w #[.slice ar rs.length cr, .int .i64 p0, .int .i64 way, .int .i64 step, .slice ap ps.length cp] 25
  clear hs
  replace hR := hR.below hb (Nat.le_refl _); replace hP := hP.below hb (Nat.le_refl _)
  have hsd := fun W => isSide_60 ar ap cr cp rs ps p0 way step x W hl
  rw [hx] at hsd
  have c0 := x0.cell 0 rfl; have c1 := x0.cell 1 rfl; have c2 := x0.cell 2 rfl; have c3 := x0.cell 3 rfl; have c4 := x0.cell 4 rfl
  go_enter Try.func32, Try.ntmps32
  go_wp2_with fail
  refine (valid_any ar ap cr cp rs ps p0 way step W hR hP).mono ?_
  rintro e W1 ⟨rfl, hb1⟩
  rw [hv]
  clear hW
  replace hR := hR.below hb1 (Nat.le_refl _); replace hP := hP.below hb1 (Nat.le_refl _)
  (try clear c0 c1 c2 c3 c4); replace x0 := x0.below hb1; have c0 := x0.cell 0 rfl; have c1 := x0.cell 1 rfl; have c2 := x0.cell 2 rfl; have c3 := x0.cell 3 rfl; have c4 := x0.cell 4 rfl; replace hb := hb.trans (hb1.mono hb.size); clear hb1
  go_upto_region 5 with (first | (go_at_call 60; refine (hsd _).mono ?_; rintro e W2 ⟨rfl, hb2⟩) | (go_at_call 57; refine (isTime_any _ _).mono ?_; rintro e w' ⟨rfl, rfl⟩))
  replace hR := hR.below hb2 (Nat.le_refl _); replace hP := hP.below hb2 (Nat.le_refl _)
  (try clear c0 c1 c2 c3 c4); replace x0 := x0.below hb2; have c0 := x0.cell 0 rfl; have c1 := x0.cell 1 rfl; have c2 := x0.cell 2 rfl; have c3 := x0.cell 3 rfl; have c4 := x0.cell 4 rfl; replace hb := hb.trans (hb2.mono hb.size); clear hb2
  go_wp2_with fail
  refine (hla _ hR hP).mono ?_
  rintro e V ⟨k, rfl, hk, h1, h2, hb3⟩
  replace hb := hb.trans (hb3.mono hb.size)
  have H := hid (And.intro hk (And.intro h1 h2))
  clear hla hsd x0 c0 c1 c2 c3 c4 hk h1 h2 hb3 hR hP
  rcases Nat.eq_zero_or_pos k with h0 | h0
  · subst h0
    go_wp2
    go_ret2
    exact ⟨0, by rw [if_pos rfl]; rfl, H.out.1, H.out.2.1, H.out.2.2, hb⟩
  · have hkI : (0 : Int) < (k : Int) := by omega
    go_wp2
    go_ret2
    exact ⟨k, by rw [if_neg (by omega)]; rfl, H.out.1, H.out.2.1, H.out.2.2, hb⟩
end Go.Proofs.Ytknaljghpfeikaa
