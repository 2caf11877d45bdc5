import Derived.Test.YtknaljghpfeikaaT8
namespace Go.Proofs.Ytknaljghpfeikaa
open Go.RowKit

theorem Bx.belowB {W W' : World} {b B : Nat} {vs : Array Value} {T : TypeId} (h : Bx W b vs T) (hb : Below B W W') (hlt : b < B) : Bx W' b vs T := by
  unfold Bx at *; rw [hb.block b hlt]; exact h
/-- What a carriage has done, as a value. -/
def deedV (c : Car) (v : Value) : Value := .agg #[.int .i64 (c.pos : Nat), .int .i64 (if c.up then 1 else -1), .int .i64 c.side, v, .int .i64 (c.steps : Nat), .int .i64 c.fin]
theorem rng_run {T : Tr} (hv : VT T) {b : Int} (hb : b ≤ maxI) : Rng T (runM T b) 2700 := by
  obtain ⟨K, hK⟩ := run_ex hv hb
  rw [runM_is hK]
  have h := hK.rng K (Nat.le_refl _)
  have hk := hK.kb
  refine ⟨h.inv, h.t0, ?_, Nat.le_trans h.pl hk, fun p hp => ?_, Nat.le_trans h.sb hk, ?_⟩
  · rcases h.tb with h | h
    · left; omega
    · right; exact h
  · have := h.pb p hp; omega
  · have := h.fb; omega
theorem gset6 (W : World) (g : Nat) (v0 v1 v2 v3 v4 v5 : Value) : W.grownBy ((((((W.setCell ⟨g, 0, none⟩ v0).setCell ⟨g, 1, none⟩ v1).setCell ⟨g, 2, none⟩ v2).setCell ⟨g, 3, none⟩ v3).setCell ⟨g, 4, none⟩ v4).setCell ⟨g, 5, none⟩ v5) (some g) :=
  gtr (gtr (gtr (gtr (gtr (gset W ⟨g, 0, none⟩ v0) (gset _ ⟨g, 1, none⟩ v1)) (gset _ ⟨g, 2, none⟩ v2)) (gset _ ⟨g, 3, none⟩ v3)) (gset _ ⟨g, 4, none⟩ v4)) (gset _ ⟨g, 5, none⟩ v5)

def DeedP (T : Tr) (b : Int) (w : World) (e : Ending) (w' : World) : Prop :=
  Below w.heap.size w w' ∧ ∃ (a : Option Addr) (cv : Nat), e = .returned (deedV (runM T b) (.slice a (runM T b).plays.length cv)) ∧ Prs w' a (runM T b).plays

set_option maxRecDepth 100000 in
set_option maxHeartbeats 4000000 in
theorem deedsOf_any (ar ap : Option Addr) (cr cp : Nat) (rs ps : List (Int × Int)) (p0 way step : Int) (w : World) (hR : Prs w ar rs) (hP : Prs w ap ps) (T : Tr) (hT : IsTr T rs ps p0 way step) : Calls Try.prog 53 #[.agg #[.slice ar rs.length cr, .int .i64 p0, .int .i64 way, .int .i64 step, .slice ap ps.length cp]] w (DeedP T maxI w) := by
  obtain ⟨c, hce⟩ : ∃ c, c = runM T maxI := ⟨_, rfl⟩
  have hgoal : ∀ e w', (Below w.heap.size w w' ∧ ∃ (a : Option Addr) (cv : Nat), e = .returned (deedV c (.slice a c.plays.length cv)) ∧ Prs w' a c.plays) → DeedP T maxI w e w' := fun e w' h => by unfold DeedP; rw [← hce]; exact h
  refine Calls.mono ?_ hgoal
  clear hgoal
  have hrg := rng_run hT.hv (Int.le_refl maxI)
  have hrun := fun g B w0 w a cv hc hown hne hB hR hP hb0 hB0 => run_any ar ap cr cp rs ps p0 way step g T hT B w0 w a cv hc hown hne hB hR hP hb0 hB0 maxI (Int.le_refl _)
  rw [← hce] at hrg hrun
  clear hce
  obtain ⟨Wb, hWb, hb, hs, x0, x1⟩ := boxes2 w #[.slice ar rs.length cr, .int .i64 p0, .int .i64 way, .int .i64 step, .slice ap ps.length cp] 25 #[.int .i64 0, .int .i64 0, .int .i64 0, .slice none 0 0, .int .i64 0, .int .i64 0] 68
  have hRb := hR.below hb (Nat.le_refl _); have hPb := hP.below hb (Nat.le_refl _)
  have c0 := x0.cell 0 rfl; have c1 := x0.cell 1 rfl; have c2 := x0.cell 2 rfl; have c3 := x0.cell 3 rfl; have c4 := x0.cell 4 rfl
  go_enter Try.func53, Try.ntmps53
  go_wp2_with fail
  refine (newCarriage_any ar ap cr cp rs ps p0 way step Wb T hT).mono ?_
  rintro e W1 ⟨hb1, g, rfl, hg, hc⟩
  have hn1 : W1.ownsRow Wb.heap.size 39 2 (.slice none 0 0) 0 [] := World.ownsRow_nil _ _ _ _
  have hrn := hrun g Wb.heap.size Wb W1 none 0 hc hn1 (by simp [Value.ownBlock]) hg hRb hPb hb1 (Nat.le_refl _)
  clear c0 c1 c2 c3 c4
  go_wp2_with fail
  refine hrn.mono ?_
  rintro e W2 ⟨rfl, hb2, a, cv, hc2, hown, hne⟩
  have x12 := Bx.belowB (x1.below hb1) hb2 (by omega)
  have hpl := hrg.pl
  obtain ⟨a', cv', hev, hprs⟩ := Prs.of_own hown (by omega) (fun p hp => by have := hrg.pb p hp; omega)
  simp only [Value.slice.injEq] at hev
  obtain ⟨rfl, -, rfl⟩ := hev
  have hb3 : Below w.heap.size w W2 := (hb.trans (hb1.mono hb.size)).trans (hb2.mono (by omega))
  have v0 := Bx.cell hc2 0 (v := .int .i64 (c.pos : Nat)) rfl
  obtain ⟨d, hd⟩ : ∃ d : Int, d = if c.up then 1 else -1 := ⟨_, rfl⟩
  have v1 := Bx.cell hc2 1 (v := .int .i64 d) (by rw [hd]; rfl)
  have v2 := Bx.cell hc2 2 (v := .int .i64 c.side) rfl
  have v3 := Bx.cell hc2 3 (v := .slice a c.plays.length cv) rfl
  have v4 := Bx.cell hc2 4 (v := .int .i64 (c.steps : Nat)) rfl
  have v5 := Bx.cell hc2 5 (v := .int .i64 c.fin) rfl
  have f0 := x12.free 0; have f1 := x12.free 1; have f2 := x12.free 2; have f3 := x12.free 3; have f4 := x12.free 4; have f5 := x12.free 5
  have z0 := x12.cell 0 rfl; have z1 := x12.cell 1 rfl; have z2 := x12.cell 2 rfl; have z3 := x12.cell 3 rfl; have z4 := x12.cell 4 rfl; have z5 := x12.cell 5 rfl
  have x13 := x12.set6 (.int .i64 (c.pos : Nat)) (.int .i64 d) (.int .i64 c.side) (.slice a c.plays.length cv) (.int .i64 (c.steps : Nat)) (.int .i64 c.fin)
  have hg6 := gset6 W2 (w.heap.size + 1) (.int .i64 (c.pos : Nat)) (.int .i64 d) (.int .i64 c.side) (.slice a c.plays.length cv) (.int .i64 (c.steps : Nat)) (.int .i64 c.fin)
  have k0 := x13.cell 0 rfl; have k1 := x13.cell 1 rfl; have k2 := x13.cell 2 rfl; have k3 := x13.cell 3 rfl; have k4 := x13.cell 4 rfl; have k5 := x13.cell 5 rfl
  have hsz2 := x12.lt
  have hbf := hb3.grown hg6 (by omega) (fun k hk => by cases hk; omega)
  have hpf := hprs.gro hg6 (fun hne2 ad e e2 => by
    have h1 := own_new2 hown ad e
    injection e2 with e2
    omega)
  have HD := hid hd
  have HB := hid (And.intro hbf hpf)
  clear hd hbf hpf hprs hown hg6 x13 hc2 hrn hc hrun
  go_wp2
  refine bodyPost_ret (v := deedV c (.slice a c.plays.length cv)) ?_ rfl ⟨HB.out.1, a, cv, rfl, HB.out.2⟩
  unfold deedV
  rw [← HD.out]
  simp [results, Try.results53, go_sem, k0, k1, k2, k3, k4, k5]
end Go.Proofs.Ytknaljghpfeikaa
namespace Go.Proofs.Ytknaljghpfeikaa
open Go.RowKit

theorem tr_of {rs ps : List (Int × Int)} {p0 way step : Int} (h : trB rs ps p0 way step = true) : ∃ T : Tr, IsTr T rs ps p0 way step ∧ ps.length ≤ 12 := by
  unfold trB at h
  simp only [Bool.and_eq_true, Bool.or_eq_true, decide_eq_true_eq, inR_iff, List.all_eq_true] at h
  obtain ⟨⟨h1, h2⟩, h3, h4, h5, h6, h7⟩ := h
  refine ⟨⟨rs, p0.toNat, decide (way = 1), step, ps⟩, ⟨rfl, rfl, rfl, by show ((p0.toNat : Nat) : Int) = p0; omega, ?_, ?_⟩, by omega⟩
  · show (if decide (way = 1) = true then (1 : Int) else -1) = way
    rcases h6 with h | h <;> simp [h]
  · refine ⟨?_, ?_, fun r hr => ?_, ?_, ?_, ?_, fun p hp => ?_⟩
    · show 1 ≤ rs.length; omega
    · show rs.length ≤ 6; omega
    · have := h3 r hr
      unfold recB at this
      simp only [Bool.and_eq_true, inR_iff] at this
      omega
    · show p0.toNat < rs.length; omega
    · show 0 ≤ step ∧ step ≤ 60; omega
    · show ps.length ≤ 13; omega
    · have := h4 p hp
      unfold preB at this
      simp only [Bool.and_eq_true, inR_iff] at this
      show 0 ≤ p.1 ∧ p.1 < 2 * (rs.length : Int) ∧ 0 ≤ p.2 ∧ p.2 ≤ 9999
      omega
theorem info28 : (Try.prog.info? 28).map (fun i => (i.zero, i.size, i.bytes)) = some (some (.slice none 0 0), 1, 24) := by kernel_rfl
theorem info3 : (Try.prog.info? 3).map (fun i => (i.zero, i.size, i.bytes)) = some (some (.int .i64 0), 1, 8) := by kernel_rfl
theorem under68 : (Try.prog.underlying 68).map (fun d => match d with | .struct fs => (fs[1]?.map (fun f => (f.type, f.offset)), fs[2]?.map (fun f => (f.type, f.offset)), fs[3]?.map (fun f => (f.type, f.offset))) | _ => (none, none, none)) = some (some (28, 3), some (3, 4), some (3, 5)) := by kernel_rfl
theorem deed_f (x0 x1 x2 : Value) (a : Option Addr) (n cv : Nat) (s f : Int) (W : World) :
    (Instr.field 68 (.agg #[x0, x1, x2, .slice a n cv, .int .i64 s, .int .i64 f]) 1).run Try.prog W = .ok (.slice a n cv) W ∧ (Instr.field 68 (.agg #[x0, x1, x2, .slice a n cv, .int .i64 s, .int .i64 f]) 2).run Try.prog W = .ok (.int .i64 s) W ∧
    (Instr.field 68 (.agg #[x0, x1, x2, .slice a n cv, .int .i64 s, .int .i64 f]) 3).run Try.prog W = .ok (.int .i64 f) W := by
  obtain ⟨i0, hi0, iz0, iz1, iz2⟩ := info_parts info28
  obtain ⟨j0, hj, jz0, jz1, jz2⟩ := info_parts info3
  have h := under68
  rcases hu : Try.prog.underlying 68 with _ | d
  · rw [hu] at h; cases h
  rw [hu] at h
  cases d with
  | struct fs =>
    simp only [Option.map_some, Option.some.injEq, Prod.mk.injEq] at h
    obtain ⟨h0, h1, h2⟩ := h
    rcases g0 : fs[1]? with _ | f0
    · rw [g0] at h0; cases h0
    rcases g1 : fs[2]? with _ | f1
    · rw [g1] at h1; cases h1
    rcases g2 : fs[3]? with _ | f2
    · rw [g2] at h2; cases h2
    rw [g0] at h0; rw [g1] at h1; rw [g2] at h2
    simp only [Option.map_some, Option.some.injEq, Prod.mk.injEq] at h0 h1 h2
    refine ⟨?_, ?_, ?_⟩
    · unfold Instr.field part
      simp [go_sem, run_underlying hu, g0, h0.1, h0.2, asAgg, sizeOf, typeInfo, hi0, iz1]
    · unfold Instr.field part
      simp [go_sem, run_underlying hu, g1, h1.1, h1.2, asAgg, sizeOf, typeInfo, hj, jz1]
    · unfold Instr.field part
      simp [go_sem, run_underlying hu, g2, h2.1, h2.2, asAgg, sizeOf, typeInfo, hj, jz1]
  | _ => simp at h

set_option maxRecDepth 100000 in
set_option maxHeartbeats 1000000 in
theorem Plays_bad (ar ap : Option Addr) (cr cp : Nat) (rs ps : List (Int × Int)) (p0 way step : Int) (w : World) (hR : Prs w ar rs) (hP : Prs w ap ps) (hv : trB rs ps p0 way step = false) :
    Calls Try.prog 18 #[.agg #[.slice ar rs.length cr, .int .i64 p0, .int .i64 way, .int .i64 step, .slice ap ps.length cp]] w fun e w' => e = .returned (.tuple #[.slice none 0 0, .int .i64 20]) ∧ Below w.heap.size w w' := by
  obtain ⟨W, hW, hb, hs, x0⟩ := boxes1 w #[.slice ar rs.length cr, .int .i64 p0, .int .i64 way, .int .i64 step, .slice ap ps.length cp] 25
  clear hs
  replace hR := hR.below hb (Nat.le_refl _); replace hP := hP.below hb (Nat.le_refl _)
  have c0 := x0.cell 0 rfl; have c1 := x0.cell 1 rfl; have c2 := x0.cell 2 rfl; have c3 := x0.cell 3 rfl; have c4 := x0.cell 4 rfl
  go_enter Try.func18, Try.ntmps18
  go_wp2_with fail
  refine (valid_any _ _ _ _ _ _ _ _ _ _ hR hP).mono ?_
  rintro e W1 ⟨rfl, hb1⟩
  rw [hv]
  replace hb := hb.trans (hb1.mono hb.size)
  clear hW x0 c0 c1 c2 c3 c4 hb1
  go_wp2
  go_ret2
  exact ⟨rfl, hb⟩
set_option maxRecDepth 100000 in
set_option maxHeartbeats 1000000 in
theorem Steps_bad (ar ap : Option Addr) (cr cp : Nat) (rs ps : List (Int × Int)) (p0 way step : Int) (w : World) (hR : Prs w ar rs) (hP : Prs w ap ps) (hv : trB rs ps p0 way step = false) :
    Calls Try.prog 26 #[.agg #[.slice ar rs.length cr, .int .i64 p0, .int .i64 way, .int .i64 step, .slice ap ps.length cp]] w fun e w' => e = .returned (.tuple #[.int .i64 0, .int .i64 20]) ∧ Below w.heap.size w w' := by
  obtain ⟨W, hW, hb, hs, x0⟩ := boxes1 w #[.slice ar rs.length cr, .int .i64 p0, .int .i64 way, .int .i64 step, .slice ap ps.length cp] 25
  clear hs
  replace hR := hR.below hb (Nat.le_refl _); replace hP := hP.below hb (Nat.le_refl _)
  have c0 := x0.cell 0 rfl; have c1 := x0.cell 1 rfl; have c2 := x0.cell 2 rfl; have c3 := x0.cell 3 rfl; have c4 := x0.cell 4 rfl
  go_enter Try.func26, Try.ntmps26
  go_wp2_with fail
  refine (valid_any _ _ _ _ _ _ _ _ _ _ hR hP).mono ?_
  rintro e W1 ⟨rfl, hb1⟩
  rw [hv]
  replace hb := hb.trans (hb1.mono hb.size)
  clear hW x0 c0 c1 c2 c3 c4 hb1
  go_wp2
  go_ret2
  exact ⟨rfl, hb⟩
def PlaysP (c : Car) (w : World) (e : Ending) (w' : World) : Prop := Below w.heap.size w w' ∧ ∃ (a : Option Addr) (cv : Nat), e = .returned (.tuple #[.slice a c.plays.length cv, .int .i64 0]) ∧ Prs w' a c.plays
def StepsP (c : Car) (w : World) (e : Ending) (w' : World) : Prop := Below w.heap.size w w' ∧ e = .returned (.tuple #[.int .i64 (c.steps : Nat), .int .i64 0])

set_option maxRecDepth 100000 in
set_option maxHeartbeats 1000000 in
theorem Plays_ok (ar ap : Option Addr) (cr cp : Nat) (rs ps : List (Int × Int)) (p0 way step : Int) (w : World) (hR : Prs w ar rs) (hP : Prs w ap ps) (hv : trB rs ps p0 way step = true) (T : Tr) (hT : IsTr T rs ps p0 way step) (c : Car) (hc : c = runM T maxI) :
    Calls Try.prog 18 #[.agg #[.slice ar rs.length cr, .int .i64 p0, .int .i64 way, .int .i64 step, .slice ap ps.length cp]] w (PlaysP c w) := by
  have hdo := fun W h1 h2 => deedsOf_any ar ap cr cp rs ps p0 way step W h1 h2 T hT
  unfold DeedP at hdo
  rw [← hc] at hdo
  clear hc
  obtain ⟨W, hW, hb, hs, x0⟩ := boxes1 w #[.slice ar rs.length cr, .int .i64 p0, .int .i64 way, .int .i64 step, .slice ap ps.length cp] 25
  clear hs
  replace hR := hR.below hb (Nat.le_refl _); replace hP := hP.below hb (Nat.le_refl _)
  have c0 := x0.cell 0 rfl; have c1 := x0.cell 1 rfl; have c2 := x0.cell 2 rfl; have c3 := x0.cell 3 rfl; have c4 := x0.cell 4 rfl
  go_enter Try.func18, Try.ntmps18
  go_wp2_with fail
  refine (valid_any _ _ _ _ _ _ _ _ _ _ hR hP).mono ?_
  rintro e W1 ⟨rfl, hb1⟩
  rw [hv]
  clear hW
  replace hR := hR.below hb1 (Nat.le_refl _); replace hP := hP.below hb1 (Nat.le_refl _)
  (try clear c0 c1 c2 c3 c4); replace x0 := x0.below hb1; have c0 := x0.cell 0 rfl; have c1 := x0.cell 1 rfl; have c2 := x0.cell 2 rfl; have c3 := x0.cell 3 rfl; have c4 := x0.cell 4 rfl; replace hb := hb.trans (hb1.mono hb.size); clear hb1
  go_wp2_with fail
  refine (hdo _ hR hP).mono ?_
  rintro e W2 ⟨hb1, a, cv, rfl, hpr⟩
  replace hb := hb.trans (hb1.mono hb.size)
  clear hdo x0 c0 c1 c2 c3 c4 hb1
  unfold deedV
  obtain ⟨d, hd⟩ : ∃ d : Int, d = if c.up then 1 else -1 := ⟨_, rfl⟩
  rw [← hd]
  have hF1 := fun W => (deed_f (.int .i64 (c.pos : Nat)) (.int .i64 d) (.int .i64 c.side) a c.plays.length cv (c.steps : Nat) c.fin W).1
  have hF2 := fun W => (deed_f (.int .i64 (c.pos : Nat)) (.int .i64 d) (.int .i64 c.side) a c.plays.length cv (c.steps : Nat) c.fin W).2.1
  clear hd
  go_wp2
  go_ret2
  first | exact ⟨hb, a, cv, rfl, hpr⟩ | exact ⟨hb, rfl⟩

set_option maxRecDepth 100000 in
set_option maxHeartbeats 1000000 in
theorem Steps_ok (ar ap : Option Addr) (cr cp : Nat) (rs ps : List (Int × Int)) (p0 way step : Int) (w : World) (hR : Prs w ar rs) (hP : Prs w ap ps) (hv : trB rs ps p0 way step = true) (T : Tr) (hT : IsTr T rs ps p0 way step) (c : Car) (hc : c = runM T maxI) :
    Calls Try.prog 26 #[.agg #[.slice ar rs.length cr, .int .i64 p0, .int .i64 way, .int .i64 step, .slice ap ps.length cp]] w (StepsP c w) := by
  have hdo := fun W h1 h2 => deedsOf_any ar ap cr cp rs ps p0 way step W h1 h2 T hT
  unfold DeedP at hdo
  rw [← hc] at hdo
  clear hc
  obtain ⟨W, hW, hb, hs, x0⟩ := boxes1 w #[.slice ar rs.length cr, .int .i64 p0, .int .i64 way, .int .i64 step, .slice ap ps.length cp] 25
  clear hs
  replace hR := hR.below hb (Nat.le_refl _); replace hP := hP.below hb (Nat.le_refl _)
  have c0 := x0.cell 0 rfl; have c1 := x0.cell 1 rfl; have c2 := x0.cell 2 rfl; have c3 := x0.cell 3 rfl; have c4 := x0.cell 4 rfl
  go_enter Try.func26, Try.ntmps26
  go_wp2_with fail
  refine (valid_any _ _ _ _ _ _ _ _ _ _ hR hP).mono ?_
  rintro e W1 ⟨rfl, hb1⟩
  rw [hv]
  clear hW
  replace hR := hR.below hb1 (Nat.le_refl _); replace hP := hP.below hb1 (Nat.le_refl _)
  (try clear c0 c1 c2 c3 c4); replace x0 := x0.below hb1; have c0 := x0.cell 0 rfl; have c1 := x0.cell 1 rfl; have c2 := x0.cell 2 rfl; have c3 := x0.cell 3 rfl; have c4 := x0.cell 4 rfl; replace hb := hb.trans (hb1.mono hb.size); clear hb1
  go_wp2_with fail
  refine (hdo _ hR hP).mono ?_
  rintro e W2 ⟨hb1, a, cv, rfl, hpr⟩
  replace hb := hb.trans (hb1.mono hb.size)
  clear hdo x0 c0 c1 c2 c3 c4 hb1
  unfold deedV
  obtain ⟨d, hd⟩ : ∃ d : Int, d = if c.up then 1 else -1 := ⟨_, rfl⟩
  rw [← hd]
  have hF1 := fun W => (deed_f (.int .i64 (c.pos : Nat)) (.int .i64 d) (.int .i64 c.side) a c.plays.length cv (c.steps : Nat) c.fin W).1
  have hF2 := fun W => (deed_f (.int .i64 (c.pos : Nat)) (.int .i64 d) (.int .i64 c.side) a c.plays.length cv (c.steps : Nat) c.fin W).2.1
  clear hd
  go_wp2
  go_ret2
  first | exact ⟨hb, a, cv, rfl, hpr⟩ | exact ⟨hb, rfl⟩

end Go.Proofs.Ytknaljghpfeikaa
namespace Go.Proofs.Ytknaljghpfeikaa
open Go.RowKit

set_option maxRecDepth 100000 in
set_option maxHeartbeats 1000000 in
theorem Stand_bad (ar ap : Option Addr) (cr cp : Nat) (rs ps : List (Int × Int)) (p0 way step : Int) (n : Int) (w : World) (hR : Prs w ar rs) (hP : Prs w ap ps) (hv : trB rs ps p0 way step = false) :
    Calls Try.prog 30 #[.agg #[.slice ar rs.length cr, .int .i64 p0, .int .i64 way, .int .i64 step, .slice ap ps.length cp], .int .i64 n] w fun e w' => e = .returned (.tuple #[.agg #[.int .i64 0, .int .i64 0, .int .i64 0], .int .i64 20]) ∧ Below w.heap.size w w' := by
  obtain ⟨W, hW, hb, hs, x0, x4⟩ := boxes2 w #[.slice ar rs.length cr, .int .i64 p0, .int .i64 way, .int .i64 step, .slice ap ps.length cp] 25 #[.int .i64 0, .int .i64 0, .int .i64 0] 50
  replace hR := hR.below hb (Nat.le_refl _); replace hP := hP.below hb (Nat.le_refl _)
  have c0 := x0.cell 0 rfl; have c1 := x0.cell 1 rfl; have c2 := x0.cell 2 rfl; have c3 := x0.cell 3 rfl; have c4 := x0.cell 4 rfl
  go_enter Try.func30, Try.ntmps30
  go_wp2_with fail
  refine (valid_any _ _ _ _ _ _ _ _ _ _ hR hP).mono ?_
  rintro e W1 ⟨rfl, hb1⟩
  rw [hv]
  replace hb := hb.trans (hb1.mono hb.size)
  replace x4 := x4.below hb1
  clear hW x0 c0 c1 c2 c3 c4 hb1
  have f0 := x4.free 0; have f1 := x4.free 1; have f2 := x4.free 2
  have z0 := x4.cell 0 rfl; have z1 := x4.cell 1 rfl; have z2 := x4.cell 2 rfl
  have x5 := x4.set3 (.int .i64 0) (.int .i64 0) (.int .i64 0)
  have k0 := x5.cell 0 rfl; have k1 := x5.cell 1 rfl; have k2 := x5.cell 2 rfl
  have hb2 := ((hb.setCell (p := ⟨w.heap.size + 1, 0, none⟩) (by show w.heap.size ≤ w.heap.size + 1; omega) (.int .i64 0)).setCell (p := ⟨w.heap.size + 1, 1, none⟩) (by show w.heap.size ≤ w.heap.size + 1; omega) (.int .i64 0)).setCell (p := ⟨w.heap.size + 1, 2, none⟩) (by show w.heap.size ≤ w.heap.size + 1; omega) (.int .i64 0)
  go_wp2
  refine bodyPost_ret (v := .tuple #[.agg #[.int .i64 0, .int .i64 0, .int .i64 0], .int .i64 20]) ?_ rfl ⟨rfl, hb2⟩
  simp [results, Try.results30, go_sem, k0, k1, k2]
set_option maxRecDepth 100000 in
set_option maxHeartbeats 1000000 in
theorem Stand_arg (ar ap : Option Addr) (cr cp : Nat) (rs ps : List (Int × Int)) (p0 way step : Int) (n : Int) (w : World) (hR : Prs w ar rs) (hP : Prs w ap ps) (hv : trB rs ps p0 way step = true) (hn : inR 0 n 9999 = false) :
    Calls Try.prog 30 #[.agg #[.slice ar rs.length cr, .int .i64 p0, .int .i64 way, .int .i64 step, .slice ap ps.length cp], .int .i64 n] w fun e w' => e = .returned (.tuple #[.agg #[.int .i64 0, .int .i64 0, .int .i64 0], .int .i64 1]) ∧ Below w.heap.size w w' := by
  obtain ⟨W, hW, hb, hs, x0, x4⟩ := boxes2 w #[.slice ar rs.length cr, .int .i64 p0, .int .i64 way, .int .i64 step, .slice ap ps.length cp] 25 #[.int .i64 0, .int .i64 0, .int .i64 0] 50
  replace hR := hR.below hb (Nat.le_refl _); replace hP := hP.below hb (Nat.le_refl _)
  have c0 := x0.cell 0 rfl; have c1 := x0.cell 1 rfl; have c2 := x0.cell 2 rfl; have c3 := x0.cell 3 rfl; have c4 := x0.cell 4 rfl
  go_enter Try.func30, Try.ntmps30
  go_wp2_with fail
  refine (valid_any _ _ _ _ _ _ _ _ _ _ hR hP).mono ?_
  rintro e W1 ⟨rfl, hb1⟩
  rw [hv]
  replace hb := hb.trans (hb1.mono hb.size)
  replace x4 := x4.below hb1
  clear hW x0 c0 c1 c2 c3 c4 hb1
  have f0 := x4.free 0; have f1 := x4.free 1; have f2 := x4.free 2
  have z0 := x4.cell 0 rfl; have z1 := x4.cell 1 rfl; have z2 := x4.cell 2 rfl
  have x5 := x4.set3 (.int .i64 0) (.int .i64 0) (.int .i64 0)
  have k0 := x5.cell 0 rfl; have k1 := x5.cell 1 rfl; have k2 := x5.cell 2 rfl
  have hb2 := ((hb.setCell (p := ⟨w.heap.size + 1, 0, none⟩) (by show w.heap.size ≤ w.heap.size + 1; omega) (.int .i64 0)).setCell (p := ⟨w.heap.size + 1, 1, none⟩) (by show w.heap.size ≤ w.heap.size + 1; omega) (.int .i64 0)).setCell (p := ⟨w.heap.size + 1, 2, none⟩) (by show w.heap.size ≤ w.heap.size + 1; omega) (.int .i64 0)
  go_wp2_with (first | (go_at_call 57; refine (isTime_any _ _).mono ?_; rintro e w' ⟨rfl, rfl⟩))
  refine bodyPost_ret (v := .tuple #[.agg #[.int .i64 0, .int .i64 0, .int .i64 0], .int .i64 1]) ?_ rfl ⟨rfl, hb2⟩
  simp [results, Try.results30, go_sem, k0, k1, k2]

def standV (c : Car) : Value := .agg #[.int .i64 (c.pos : Nat), .int .i64 (if c.up then 1 else -1), .int .i64 c.side]
set_option maxRecDepth 100000 in
set_option maxHeartbeats 3000000 in
theorem Stand_ok (ar ap : Option Addr) (cr cp : Nat) (rs ps : List (Int × Int)) (p0 way step : Int) (n : Int) (w : World) (hR : Prs w ar rs) (hP : Prs w ap ps) (hv : trB rs ps p0 way step = true) (hn : inR 0 n 9999 = true) (T : Tr) (hT : IsTr T rs ps p0 way step) (c : Car) (hce : c = runM T (n + 1)) :
    Calls Try.prog 30 #[.agg #[.slice ar rs.length cr, .int .i64 p0, .int .i64 way, .int .i64 step, .slice ap ps.length cp], .int .i64 n] w fun e w' => e = .returned (.tuple #[standV c, .int .i64 0]) ∧ Below w.heap.size w w' := by
  have hn2 := inR_iff.1 hn
  have hbm : n + 1 ≤ maxI := by unfold maxI; omega
  have hrun := fun g B w0 w a cv hc hown hne hB hR hP hb0 hB0 => run_any ar ap cr cp rs ps p0 way step g T hT B w0 w a cv hc hown hne hB hR hP hb0 hB0 (n + 1) hbm
  rw [← hce] at hrun
  clear hce hbm
  obtain ⟨Wb, hWb, hb, hs, x0, x1⟩ := boxes2 w #[.slice ar rs.length cr, .int .i64 p0, .int .i64 way, .int .i64 step, .slice ap ps.length cp] 25 #[.int .i64 0, .int .i64 0, .int .i64 0] 50
  have hRb := hR.below hb (Nat.le_refl _); have hPb := hP.below hb (Nat.le_refl _)
  have c0 := x0.cell 0 rfl; have c1 := x0.cell 1 rfl; have c2 := x0.cell 2 rfl; have c3 := x0.cell 3 rfl; have c4 := x0.cell 4 rfl
  go_enter Try.func30, Try.ntmps30
  go_wp2_with fail
  refine (valid_any _ _ _ _ _ _ _ _ _ _ hRb hPb).mono ?_
  rintro e V ⟨rfl, hb9⟩
  rw [hv]
  have hRv := hRb.below hb9 (Nat.le_refl _); have hPv := hPb.below hb9 (Nat.le_refl _)
  replace x1 := x1.below hb9
  have hbV := hb.trans (hb9.mono hb.size)
  replace x0 := x0.below hb9
  clear c0 c1 c2 c3 c4 hWb
  have c0 := x0.cell 0 rfl; have c1 := x0.cell 1 rfl; have c2 := x0.cell 2 rfl; have c3 := x0.cell 3 rfl; have c4 := x0.cell 4 rfl
  have hsV := hb9.size
  go_wp2_with (first | (go_at_call 57; refine (isTime_any _ _).mono ?_; rintro e w' ⟨rfl, rfl⟩) | (go_at_call 58; refine (newCarriage_any ar ap cr cp rs ps p0 way step V T hT).mono ?_; rintro e W1 ⟨hb1, g, rfl, hg, hc⟩))
  have hn1 : W1.ownsRow V.heap.size 39 2 (.slice none 0 0) 0 [] := World.ownsRow_nil _ _ _ _
  have hrn := hrun g V.heap.size V W1 none 0 hc hn1 (by simp [Value.ownBlock]) hg hRv hPv hb1 (Nat.le_refl _)
  clear c0 c1 c2 c3 c4
  refine hrn.mono ?_
  rintro e W2 ⟨rfl, hb2, a, cv, hc2, hown, hne⟩
  have x12 := Bx.belowB (x1.below hb1) hb2 (by have := x1.lt; omega)
  have hb3 : Below w.heap.size w W2 := (hbV.trans (hb1.mono hbV.size)).trans (hb2.mono hbV.size)
  have v0 := Bx.cell hc2 0 (v := .int .i64 (c.pos : Nat)) rfl
  obtain ⟨d, hd⟩ : ∃ d : Int, d = if c.up then 1 else -1 := ⟨_, rfl⟩
  have v1 := Bx.cell hc2 1 (v := .int .i64 d) (by rw [hd]; rfl)
  have v2 := Bx.cell hc2 2 (v := .int .i64 c.side) rfl
  have f0 := x12.free 0; have f1 := x12.free 1; have f2 := x12.free 2
  have z0 := x12.cell 0 rfl; have z1 := x12.cell 1 rfl; have z2 := x12.cell 2 rfl
  have x5 := x12.set3 (.int .i64 (c.pos : Nat)) (.int .i64 d) (.int .i64 c.side)
  have k0 := x5.cell 0 rfl; have k1 := x5.cell 1 rfl; have k2 := x5.cell 2 rfl
  have hb4 := ((hb3.setCell (p := ⟨w.heap.size + 1, 0, none⟩) (by show w.heap.size ≤ w.heap.size + 1; omega) (.int .i64 (c.pos : Nat))).setCell (p := ⟨w.heap.size + 1, 1, none⟩) (by show w.heap.size ≤ w.heap.size + 1; omega) (.int .i64 d)).setCell (p := ⟨w.heap.size + 1, 2, none⟩) (by show w.heap.size ≤ w.heap.size + 1; omega) (.int .i64 c.side)
  have HD := hid hd
  have HB := hid hb4
  clear hd hb4 hown x5 hc2 hrn hc hrun
  go_wp2
  refine bodyPost_ret (v := .tuple #[standV c, .int .i64 0]) ?_ rfl ⟨rfl, HB.out⟩
  unfold standV
  rw [← HD.out]
  simp [results, Try.results30, go_sem, k0, k1, k2]
end Go.Proofs.Ytknaljghpfeikaa
