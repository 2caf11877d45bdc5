import Derived.Test.YtknaljghpfeikaaT9
namespace Go.Proofs.Ytknaljghpfeikaa
open Go.RowKit

theorem tr_of {rs ps : List (Int × Int)} {p0 way step : Int} (h : trB rs ps p0 way step = true) : ∃ T : Tr, IsTr T rs ps p0 way step ∧ ps.length ≤ 12 := by
  unfold trB at h
  simp only [Bool.and_eq_true, Bool.or_eq_true, decide_eq_true_eq, inR_iff, List.all_eq_true] at h
  obtain ⟨⟨h1, h2⟩, h3, h4, h5, h6, h7⟩ := h
  refine ⟨⟨rs, p0.toNat, decide (way = 1), step, ps⟩, ⟨rfl, rfl, rfl, by show ((p0.toNat : Nat) : Int) = p0; omega, ?_, ?_⟩, by omega⟩
  · show (if decide (way = 1) = true then (1 : Int) else -1) = way
    rcases h6 with h | h <;> simp [h]
  · refine ⟨?_, ?_, fun r hr => ?_, ?_, ?_, ?_, fun p hp => ?_⟩
    · show 1 ≤ rs.length; omega
    · show rs.length ≤ 6; omega
    · have := h3 r hr
      unfold recB at this
      simp only [Bool.and_eq_true, inR_iff] at this
      omega
    · show p0.toNat < rs.length; omega
    · show 0 ≤ step ∧ step ≤ 60; omega
    · show ps.length ≤ 13; omega
    · have := h4 p hp
      unfold preB at this
      simp only [Bool.and_eq_true, inR_iff] at this
      show 0 ≤ p.1 ∧ p.1 < 2 * (rs.length : Int) ∧ 0 ≤ p.2 ∧ p.2 ≤ 9999
      omega
theorem info28 : (Try.prog.info? 28).map (fun i => (i.zero, i.size, i.bytes)) = some (some (.slice none 0 0), 1, 24) := by kernel_rfl
theorem info3 : (Try.prog.info? 3).map (fun i => (i.zero, i.size, i.bytes)) = some (some (.int .i64 0), 1, 8) := by kernel_rfl
theorem under68 : (Try.prog.underlying 68).map (fun d => match d with | .struct fs => (fs[1]?.map (fun f => (f.type, f.offset)), fs[2]?.map (fun f => (f.type, f.offset)), fs[3]?.map (fun f => (f.type, f.offset))) | _ => (none, none, none)) = some (some (28, 3), some (3, 4), some (3, 5)) := by kernel_rfl
theorem deed_f (x0 x1 x2 : Value) (a : Option Addr) (n cv : Nat) (s f : Int) (W : World) :
    (Instr.field 68 (.agg #[x0, x1, x2, .slice a n cv, .int .i64 s, .int .i64 f]) 1).run Try.prog W = .ok (.slice a n cv) W ∧ (Instr.field 68 (.agg #[x0, x1, x2, .slice a n cv, .int .i64 s, .int .i64 f]) 2).run Try.prog W = .ok (.int .i64 s) W ∧
    (Instr.field 68 (.agg #[x0, x1, x2, .slice a n cv, .int .i64 s, .int .i64 f]) 3).run Try.prog W = .ok (.int .i64 f) W := by
  obtain ⟨i0, hi0, iz0, iz1, iz2⟩ := info_parts info28
  obtain ⟨j0, hj, jz0, jz1, jz2⟩ := info_parts info3
  have h := under68
  rcases hu : Try.prog.underlying 68 with _ | d
  · rw [hu] at h; cases h
  rw [hu] at h
  cases d with
  | struct fs =>
    simp only [Option.map_some, Option.some.injEq, Prod.mk.injEq] at h
    obtain ⟨h0, h1, h2⟩ := h
    rcases g0 : fs[1]? with _ | f0
    · rw [g0] at h0; cases h0
    rcases g1 : fs[2]? with _ | f1
    · rw [g1] at h1; cases h1
    rcases g2 : fs[3]? with _ | f2
    · rw [g2] at h2; cases h2
    rw [g0] at h0; rw [g1] at h1; rw [g2] at h2
    simp only [Option.map_some, Option.some.injEq, Prod.mk.injEq] at h0 h1 h2
    refine ⟨?_, ?_, ?_⟩
    · unfold Instr.field part
      simp [go_sem, run_underlying hu, g0, h0.1, h0.2, asAgg, sizeOf, typeInfo, hi0, iz1]
    · unfold Instr.field part
      simp [go_sem, run_underlying hu, g1, h1.1, h1.2, asAgg, sizeOf, typeInfo, hj, jz1]
    · unfold Instr.field part
      simp [go_sem, run_underlying hu, g2, h2.1, h2.2, asAgg, sizeOf, typeInfo, hj, jz1]
  | _ => simp at h

set_option maxRecDepth 100000 in
set_option maxHeartbeats 1000000 in
theorem Plays_bad (ar ap : Option Addr) (cr cp : Nat) (rs ps : List (Int × Int)) (p0 way step : Int) (w : World) (hR : Prs w ar rs) (hP : Prs w ap ps) (hv : trB rs ps p0 way step = false) :
    Calls Try.prog 18 #[.agg #[.slice ar rs.length cr, .int .i64 p0, .int .i64 way, .int .i64 step, .slice ap ps.length cp]] w fun e w' => e = .returned (.tuple #[.slice none 0 0, .int .i64 20]) ∧ Below w.heap.size w w' := by
  obtain ⟨W, hW, hb, hs, x0⟩ := boxes1 w #[.slice ar rs.length cr, .int .i64 p0, .int .i64 way, .int .i64 step, .slice ap ps.length cp] 25
  clear hs
  replace hR := hR.below hb (Nat.le_refl _); replace hP := hP.below hb (Nat.le_refl _)
  have c0 := x0.cell 0 rfl; have c1 := x0.cell 1 rfl; have c2 := x0.cell 2 rfl; have c3 := x0.cell 3 rfl; have c4 := x0.cell 4 rfl
  go_enter Try.func18, Try.ntmps18
  go_wp2_with fail
  refine (valid_any _ _ _ _ _ _ _ _ _ _ hR hP).mono ?_
  rintro e W1 ⟨rfl, hb1⟩
  rw [hv]
  replace hb := hb.trans (hb1.mono hb.size)
  clear hW x0 c0 c1 c2 c3 c4 hb1
  go_wp2
  go_ret2
  exact ⟨rfl, hb⟩
set_option maxRecDepth 100000 in
set_option maxHeartbeats 1000000 in
theorem Steps_bad (ar ap : Option Addr) (cr cp : Nat) (rs ps : List (Int × Int)) (p0 way step : Int) (w : World) (hR : Prs w ar rs) (hP : Prs w ap ps) (hv : trB rs ps p0 way step = false) :
    Calls Try.prog 26 #[.agg #[.slice ar rs.length cr, .int .i64 p0, .int .i64 way, .int .i64 step, .slice ap ps.length cp]] w fun e w' => e = .returned (.tuple #[.int .i64 0, .int .i64 20]) ∧ Below w.heap.size w w' := by
  obtain ⟨W, hW, hb, hs, x0⟩ := boxes1 w #[.slice ar rs.length cr, .int .i64 p0, .int .i64 way, .int .i64 step, .slice ap ps.length cp] 25
  clear hs
  replace hR := hR.below hb (Nat.le_refl _); replace hP := hP.below hb (Nat.le_refl _)
  have c0 := x0.cell 0 rfl; have c1 := x0.cell 1 rfl; have c2 := x0.cell 2 rfl; have c3 := x0.cell 3 rfl; have c4 := x0.cell 4 rfl
  go_enter Try.func26, Try.ntmps26
  go_wp2_with fail
  refine (valid_any _ _ _ _ _ _ _ _ _ _ hR hP).mono ?_
  rintro e W1 ⟨rfl, hb1⟩
  rw [hv]
  replace hb := hb.trans (hb1.mono hb.size)
  clear hW x0 c0 c1 c2 c3 c4 hb1
  go_wp2
  go_ret2
  exact ⟨rfl, hb⟩
def PlaysP (c : Car) (w : World) (e : Ending) (w' : World) : Prop := Below w.heap.size w w' ∧ ∃ (a : Option Addr) (cv : Nat), e = .returned (.tuple #[.slice a c.plays.length cv, .int .i64 0]) ∧ Prs w' a c.plays
def StepsP (c : Car) (w : World) (e : Ending) (w' : World) : Prop := Below w.heap.size w w' ∧ e = .returned (.tuple #[.int .i64 (c.steps : Nat), .int .i64 0])

set_option maxRecDepth 100000 in
set_option maxHeartbeats 1000000 in
theorem Plays_ok (ar ap : Option Addr) (cr cp : Nat) (rs ps : List (Int × Int)) (p0 way step : Int) (w : World) (hR : Prs w ar rs) (hP : Prs w ap ps) (hv : trB rs ps p0 way step = true) (T : Tr) (hT : IsTr T rs ps p0 way step) (c : Car) (hc : c = runM T maxI) :
    Calls Try.prog 18 #[.agg #[.slice ar rs.length cr, .int .i64 p0, .int .i64 way, .int .i64 step, .slice ap ps.length cp]] w (PlaysP c w) := by
  have hdo := fun W h1 h2 => deedsOf_any ar ap cr cp rs ps p0 way step W h1 h2 T hT
  unfold DeedP at hdo
  rw [← hc] at hdo
  clear hc
  obtain ⟨W, hW, hb, hs, x0⟩ := boxes1 w #[.slice ar rs.length cr, .int .i64 p0, .int .i64 way, .int .i64 step, .slice ap ps.length cp] 25
  clear hs
  replace hR := hR.below hb (Nat.le_refl _); replace hP := hP.below hb (Nat.le_refl _)
  have c0 := x0.cell 0 rfl; have c1 := x0.cell 1 rfl; have c2 := x0.cell 2 rfl; have c3 := x0.cell 3 rfl; have c4 := x0.cell 4 rfl
  go_enter Try.func18, Try.ntmps18
  go_wp2_with fail
  refine (valid_any _ _ _ _ _ _ _ _ _ _ hR hP).mono ?_
  rintro e W1 ⟨rfl, hb1⟩
  rw [hv]
  clear hW
  replace hR := hR.below hb1 (Nat.le_refl _); replace hP := hP.below hb1 (Nat.le_refl _)
  (try clear c0 c1 c2 c3 c4); replace x0 := x0.below hb1; have c0 := x0.cell 0 rfl; have c1 := x0.cell 1 rfl; have c2 := x0.cell 2 rfl; have c3 := x0.cell 3 rfl; have c4 := x0.cell 4 rfl; replace hb := hb.trans (hb1.mono hb.size); clear hb1
  go_wp2_with fail
  refine (hdo _ hR hP).mono ?_
  rintro e W2 ⟨hb1, a, cv, rfl, hpr⟩
  replace hb := hb.trans (hb1.mono hb.size)
  clear hdo x0 c0 c1 c2 c3 c4 hb1
  unfold deedV
  obtain ⟨d, hd⟩ : ∃ d : Int, d = if c.up then 1 else -1 := ⟨_, rfl⟩
  rw [← hd]
  have hF1 := fun W => (deed_f (.int .i64 (c.pos : Nat)) (.int .i64 d) (.int .i64 c.side) a c.plays.length cv (c.steps : Nat) c.fin W).1
  have hF2 := fun W => (deed_f (.int .i64 (c.pos : Nat)) (.int .i64 d) (.int .i64 c.side) a c.plays.length cv (c.steps : Nat) c.fin W).2.1
  clear hd
  go_wp2
  go_ret2
  first | exact ⟨hb, a, cv, rfl, hpr⟩ | exact ⟨hb, rfl⟩

set_option maxRecDepth 100000 in
set_option maxHeartbeats 1000000 in
theorem Steps_ok (ar ap : Option Addr) (cr cp : Nat) (rs ps : List (Int × Int)) (p0 way step : Int) (w : World) (hR : Prs w ar rs) (hP : Prs w ap ps) (hv : trB rs ps p0 way step = true) (T : Tr) (hT : IsTr T rs ps p0 way step) (c : Car) (hc : c = runM T maxI) :
    Calls Try.prog 26 #[.agg #[.slice ar rs.length cr, .int .i64 p0, .int .i64 way, .int .i64 step, .slice ap ps.length cp]] w (StepsP c w) := by
  have hdo := fun W h1 h2 => deedsOf_any ar ap cr cp rs ps p0 way step W h1 h2 T hT
  unfold DeedP at hdo
  rw [← hc] at hdo
  clear hc
  obtain ⟨W, hW, hb, hs, x0⟩ := boxes1 w #[.slice ar rs.length cr, .int .i64 p0, .int .i64 way, .int .i64 step, .slice ap ps.length cp] 25
  clear hs
  replace hR := hR.below hb (Nat.le_refl _); replace hP := hP.below hb (Nat.le_refl _)
  have c0 := x0.cell 0 rfl; have c1 := x0.cell 1 rfl; have c2 := x0.cell 2 rfl; have c3 := x0.cell 3 rfl; have c4 := x0.cell 4 rfl
  go_enter Try.func26, Try.ntmps26
  go_wp2_with fail
  refine (valid_any _ _ _ _ _ _ _ _ _ _ hR hP).mono ?_
  rintro e W1 ⟨rfl, hb1⟩
  rw [hv]
  clear hW
  replace hR := hR.below hb1 (Nat.le_refl _); replace hP := hP.below hb1 (Nat.le_refl _)
  (try clear c0 c1 c2 c3 c4); replace x0 := x0.below hb1; have c0 := x0.cell 0 rfl; have c1 := x0.cell 1 rfl; have c2 := x0.cell 2 rfl; have c3 := x0.cell 3 rfl; have c4 := x0.cell 4 rfl; replace hb := hb.trans (hb1.mono hb.size); clear hb1
  go_wp2_with fail
  refine (hdo _ hR hP).mono ?_
  rintro e W2 ⟨hb1, a, cv, rfl, hpr⟩
  replace hb := hb.trans (hb1.mono hb.size)
  clear hdo x0 c0 c1 c2 c3 c4 hb1
  unfold deedV
  obtain ⟨d, hd⟩ : ∃ d : Int, d = if c.up then 1 else -1 := ⟨_, rfl⟩
  rw [← hd]
  have hF1 := fun W => (deed_f (.int .i64 (c.pos : Nat)) (.int .i64 d) (.int .i64 c.side) a c.plays.length cv (c.steps : Nat) c.fin W).1
  have hF2 := fun W => (deed_f (.int .i64 (c.pos : Nat)) (.int .i64 d) (.int .i64 c.side) a c.plays.length cv (c.steps : Nat) c.fin W).2.1
  clear hd
  go_wp2
  go_ret2
  first | exact ⟨hb, a, cv, rfl, hpr⟩ | exact ⟨hb, rfl⟩

end Go.Proofs.Ytknaljghpfeikaa
