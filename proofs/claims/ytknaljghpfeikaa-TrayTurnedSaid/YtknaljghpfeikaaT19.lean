import Derived.Test.YtknaljghpfeikaaT18
namespace Go.Proofs.Ytknaljghpfeikaa
open Go.RowKit

theorem Prs.one {w : World} {g : Nat} {x y : Int} (h : Bx w g #[.int .i64 x, .int .i64 y] 40) (hx : -9223372036854775808 ≤ x ∧ x ≤ 9223372036854775807) (hy : -9223372036854775808 ≤ y ∧ y ≤ 9223372036854775807) : Prs w (some ⟨g, 0, none⟩) [(x, y)] := by
  refine ⟨by simp, fun p hp => ?_, fun i hi => ?_⟩
  · rw [List.mem_singleton] at hp
    subst hp
    exact ⟨hx.1, hx.2, hy.1, hy.2⟩
  · obtain rfl : i = 0 := by simp at hi; omega
    exact ⟨g, 0, rfl, h.lt, h.cell 0 rfl, h.cell 1 rfl⟩

/-- When the play begins that serves a press. -/
def begF (T : Tr) (x y : Int) : Int := ((runM T maxI).plays.getD (servF x y (runM T maxI).plays 0).toNat (0, 0)).2

set_option maxRecDepth 100000 in
set_option maxHeartbeats 4000000 in
theorem begins_any (ar ap : Option Addr) (cr cp : Nat) (rs ps : List (Int × Int)) (p0 way step : Int) (x y : Int) (w : World) (hR : Prs w ar rs) (hP : Prs w ap ps) (T : Tr) (hT : IsTr T rs (ps ++ [(x, y)]) p0 way step) :
    Calls Try.prog 78 #[.agg #[.slice ar rs.length cr, .int .i64 p0, .int .i64 way, .int .i64 step, .slice ap ps.length cp], .agg #[.int .i64 x, .int .i64 y]] w fun e w' => e = .returned (.int .i64 (begF T x y)) ∧ Below w.heap.size w w' := by
  have hmem : (x, y) ∈ T.prs := by rw [hT.T2]; simp
  have hsd := all_served hT.hv (x, y) hmem
  have hpr := hT.hv.pr (x, y) hmem
  have hlp : ps.length ≤ 12 := by have := hT.hv.p13; rw [hT.T2] at this; simp at this; omega
  have hn6 := hT.hv.n6
  have hrg := (rng_run hT.hv (Int.le_refl maxI)).pb
  unfold begF
  obtain ⟨c, hc⟩ : ∃ c, c = runM T maxI := ⟨_, rfl⟩
  have hdo : ∀ (ap' : Option Addr) (cp' : Nat) W, Prs W ar rs → Prs W ap' (ps ++ [(x, y)]) → Calls Try.prog 53 #[.agg #[.slice ar rs.length cr, .int .i64 p0, .int .i64 way, .int .i64 step, .slice ap' (ps.length + 1) cp']] W fun e w' =>
      Below W.heap.size W w' ∧ ∃ (a : Option Addr) (cv : Nat), e = .returned (deedV c (.slice a c.plays.length cv)) ∧ Prs w' a c.plays := fun ap' cp' W h1 h2 => by
    have h := deedsOf_any ar ap' cr cp' rs (ps ++ [(x, y)]) p0 way step W h1 h2 T hT
    unfold DeedP at h
    rw [← hc, List.length_append] at h
    exact h
  rw [← hc] at hsd hrg ⊢
  clear hc
  have hsv : ∃ p ∈ c.plays, servB x y p = true := by
    obtain ⟨q, h1, h2, h3⟩ := hsd
    exact ⟨q, h1, by unfold servB; simp [h2, h3]⟩
  have hxb : 0 ≤ x ∧ x ≤ 11 := by have h1 := hpr.1; have h2 := hpr.2.1; dsimp only at h1 h2; omega
  have hyb : 0 ≤ y ∧ y ≤ 1000000000 := by have h1 := hpr.2.2; dsimp only at h1; omega
  have hpb : ∀ p ∈ c.plays, 0 ≤ p.2 ∧ p.2 ≤ 1000000000 := fun p hp => by have := hrg p hp; omega
  have hse := fun x0 x1 x2 a cv s f W h => service_any x0 x1 x2 a cv c.plays s f x y W h hpb hyb hsv
  obtain ⟨r1, hr1⟩ : ∃ r1, r1 = servF x y c.plays 0 := ⟨_, rfl⟩
  have hrb : 0 ≤ (c.plays.getD (servF x y c.plays 0).toNat (0, 0)).2 ∧ (c.plays.getD (servF x y c.plays 0).toNat (0, 0)).2 ≤ 1000000000 := by
    rw [List.getD_eq_getElem?_getD]
    cases h : c.plays[(servF x y c.plays 0).toNat]? with
    | none => simp
    | some q => exact hpb q (List.mem_of_getElem? h)
  obtain ⟨r2, hr2⟩ : ∃ r2, r2 = (c.plays.getD (servF x y c.plays 0).toNat (0, 0)).2 := ⟨_, rfl⟩
  rw [← hr2] at hse hrb ⊢
  rw [← hr1] at hse
  clear hr1 hr2 hsv hpb hpr hsd hrg hmem
  obtain ⟨W, hW, hb, hs, x0, x4⟩ := boxes2 w #[.slice ar rs.length cr, .int .i64 p0, .int .i64 way, .int .i64 step, .slice ap ps.length cp] 25 #[.int .i64 x, .int .i64 y] 40
  obtain ⟨W1, hW1, hb1, hs1, xq⟩ := boxes1 W #[.int .i64 x, .int .i64 y] 40
  rw [hs] at hs1 xq
  obtain ⟨W2, hW2, hb2, hs2, xr⟩ := boxes1 W1 #[.slice ap ps.length cp, .slice (some ⟨w.heap.size + 1 + 1, 0, none⟩) 1 1] 23
  rw [hs1] at hs2 xr
  have hbW2 := (hb.trans (hb1.mono hb.size)).trans (hb2.mono (hb.trans (hb1.mono hb.size)).size)
  have hq : Prs W2 (some ⟨w.heap.size + 1 + 1, 0, none⟩) [(x, y)] := Prs.one (xq.below hb2) (by omega) (by omega)
  have hcat : Calls Try.prog 91 #[.slice (some ⟨w.heap.size + 1 + 1 + 1, 0, none⟩) 2 2] W2 fun e w' => ∃ a cv, e = .returned (.slice a (ps.length + 1) cv) ∧ Prs w' a (ps ++ [(x, y)]) ∧ Below W2.heap.size W2 w' ∧ (∀ ad, a = some ad → W2.heap.size ≤ ad.block) :=
    concat_any _ 2 ap _ cp 1 ps [(x, y)] W2 (hP.below hbW2 (Nat.le_refl _)) hq (xr.cell 0 rfl) (xr.cell 1 rfl) (by simp; omega) (by simp)
  have x02 := (x0.below hb1).below hb2
  have x42 := (x4.below hb1).below hb2
  clear xq xr hq
  have c0 := x0.cell 0 rfl; have c1 := x0.cell 1 rfl; have c2 := x0.cell 2 rfl; have c3 := x0.cell 3 rfl; have c4 := x0.cell 4 rfl
  have d0 := x4.cell 0 rfl; have d1 := x4.cell 1 rfl
  go_enter Try.func78, Try.ntmps78
  go_wp2_with fail
  clear c0 c1 c2 c3 c4 d0 d1
  refine hcat.mono ?_
  rintro e W3 ⟨a, cv, rfl, hcp, hb3, hnew⟩
  clear hcat
  have x03 := x02.below hb3
  have x43 := x42.below hb3
  have hbW3 := hbW2.trans (hb3.mono hbW2.size)
  have fr := x03.free 4
  have k4 := x03.cell 4 rfl
  have x04 : Bx (W3.setCell ⟨w.heap.size, 4, none⟩ (.slice a (ps.length + 1) cv)) w.heap.size #[.slice ar rs.length cr, .int .i64 p0, .int .i64 way, .int .i64 step, .slice a (ps.length + 1) cv] 25 := x03.set 4 _
  have x44 := x43.other (a := ⟨w.heap.size, 4, none⟩) (by show w.heap.size + 1 ≠ w.heap.size; omega) (.slice a (ps.length + 1) cv)
  have hbW4 := hbW3.setCell (p := ⟨w.heap.size, 4, none⟩) (Nat.le_refl _) (.slice a (ps.length + 1) cv)
  have hcp4 := hcp.gro (gset W3 ⟨w.heap.size, 4, none⟩ (.slice a (ps.length + 1) cv)) (fun _ ad e e2 => by
    have h1 := hnew ad e
    injection e2 with e2
    have : w.heap.size = ad.block := e2
    omega)
  clear x0 x4 x02 x42 x03 x43 hcp hb1 hb2 hb3 hbW2 hbW3 hW hW1 hW2 hs hs1 hs2 hb hnew
  go_upto_region 2 with fail
  clear fr k4
  generalize W3.setCell ⟨w.heap.size, 4, none⟩ (.slice a (ps.length + 1) cv) = W4 at *
  have hbd := (Below.refl W4.heap.size W4).drew
  have hR4 := (hR.below hbW4 (Nat.le_refl _)).below hbd (Nat.le_refl _)
  replace hcp4 := hcp4.below hbd (Nat.le_refl _)
  have S0 := And.intro (x04.below hbd) (x44.below hbd)
  have hb := hbW4.trans (hbd.mono hbW4.size)
  clear hbd x04 x44 hbW4 hR hP
  refine wp_region_head 8 (fun w' => Bx w' w.heap.size #[.slice ar rs.length cr, .int .i64 p0, .int .i64 way, .int .i64 step, .slice a (ps.length + 1) cv] 25 ∧ Bx w' (w.heap.size + 1) #[.int .i64 x, .int .i64 y] 40) (by kernel_rfl) rfl ?_
  generalize W4.drew = Y0 at *
  refine HeadAt.take (i := 0) (.agg #[.slice ar rs.length cr, .int .i64 p0, .int .i64 way, .int .i64 step, .slice a (ps.length + 1) cv]) rfl (by kernel_rfl) (.inl ⟨rfl, fun w' z => ?_⟩) S0 ?_
  · (have z0 := z.1.cell 0 rfl; have z1 := z.1.cell 1 rfl; have z2 := z.1.cell 2 rfl; have z3 := z.1.cell 3 rfl; have z4 := z.1.cell 4 rfl; simp [go_sem, z0, z1, z2, z3, z4])
  refine HeadAt.take (i := 2) (.agg #[.int .i64 x, .int .i64 y]) rfl (by kernel_rfl) (.inl ⟨rfl, fun w' z => ?_⟩) S0 ?_
  · (have z0 := z.2.cell 0 rfl; have z1 := z.2.cell 1 rfl; simp [go_sem, z0, z1])
  refine HeadAt.one (i := 1) rfl (by kernel_rfl) ?_
  generalize hK : Upto _ _ = K0
  (try simp only [Act.put, List.getElem_toArray, List.getElem_cons_succ, List.getElem_cons_zero, List.setIfInBounds_toArray, List.set_cons_succ, List.set_cons_zero])
  go_wp2_with fail
  refine (hdo _ _ _ hR4 hcp4).mono ?_
  rintro e Y1 ⟨hb1, a9, cv9, rfl, hpr⟩
  replace S0 := And.intro (S0.1.below hb1) (S0.2.below hb1)
  replace hb := hb.trans (hb1.mono hb.size)
  clear hb1 hdo hR4 hcp4
  unfold deedV
  obtain ⟨d, hd⟩ : ∃ d : Int, d = if c.up then 1 else -1 := ⟨_, rfl⟩
  rw [← hd]
  clear hd
  go_wp2_with fail
  subst hK
  refine ⟨S0, ?_⟩
  refine HeadAt.one (i := 3) rfl (by kernel_rfl) ?_
  generalize hK : Upto _ _ = K0
  (try simp only [List.getElem_toArray, List.getElem_cons_succ, List.getElem_cons_zero])
  go_wp2_with fail
  refine (hse _ _ _ _ _ _ _ _ hpr).mono ?_
  rintro e Y2 ⟨rfl, hb1⟩
  replace S0 := And.intro (S0.1.below hb1) (S0.2.below hb1)
  replace hb := hb.trans (hb1.mono hb.size)
  clear hb1 hse hpr
  go_wp2_with fail
  subst hK
  refine ⟨S0, ?_⟩
  refine HeadAt.take (i := 4) (.tuple #[.int .i64 r1, .int .i64 (r2 - y)]) rfl (by kernel_rfl) (.inl ⟨rfl, fun _ _ => by simp [go_sem]⟩) S0 ?_
  refine HeadAt.take (i := 5) (.int .i64 r1) rfl (by kernel_rfl) (.inl ⟨rfl, fun _ _ => by simp [go_sem]⟩) S0 ?_
  refine HeadAt.take (i := 6) (.int .i64 (r2 - y)) rfl (by kernel_rfl) (.inl ⟨rfl, fun _ _ => by simp [go_sem]⟩) S0 ?_
  refine HeadAt.take (i := 7) (.int .i64 r1) rfl (by kernel_rfl) (.inl ⟨rfl, fun _ _ => by simp [go_sem]⟩) S0 ?_
  refine HeadAt.done (by kernel_rfl) ?_
  (try simp only [Act.put, List.drop_succ_cons, List.drop_zero, List.getElem_toArray, List.getElem_cons_succ, List.getElem_cons_zero])
  have k1 := S0.2.cell 1 rfl
  clear S0
  have ey : y + (r2 - y) = r2 := by omega
  go_wp2_with fail
  refine NoPanic.normal ?_
  go_wp2
  go_ret
  exact ⟨by simp, hb⟩
end Go.Proofs.Ytknaljghpfeikaa
