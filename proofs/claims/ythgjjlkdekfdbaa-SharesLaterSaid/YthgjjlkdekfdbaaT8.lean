import Derived.Test.YthgjjlkdekfdbaaT7
import Derived.Test.YthgjjlkdekfdbaaT2
/-! The week behind all clauses; Week. -/
namespace Go.Proofs.Ythgjjlkdekfdbaa
set_option linter.unusedSimpArgs false
set_option linter.unusedVariables false
open Go Go.RowKit

theorem under70 : (Try.prog.underlying 70).map (fun d => match d with | .struct fs => (fs[0]?.map (fun f => (f.type, f.offset)), fs[1]?.map (fun f => (f.type, f.offset)), fs[2]?.map (fun f => (f.type, f.offset))) | _ => (none, none, none)) = some (some (33, 0), some (3, 3), some (3, 4)) := by kernel_rfl
theorem under33 : (Try.prog.underlying 33).map (fun d => match d with | .struct fs => (fs[0]?.map (fun f => (f.type, f.offset)), fs[1]?.map (fun f => (f.type, f.offset)), fs[2]?.map (fun f => (f.type, f.offset))) | _ => (none, none, none)) = some (some (3, 0), some (3, 1), some (3, 2)) := by kernel_rfl
theorem info33 : (Try.prog.info? 33).map (fun i => (i.size)) = some 3 := by kernel_rfl
theorem week_f (a b c d e : Int) (W : World) : (Instr.field 70 (.agg #[.int .i64 a, .int .i64 b, .int .i64 c, .int .i64 d, .int .i64 e]) 0).run Try.prog W = .ok (.agg #[.int .i64 a, .int .i64 b, .int .i64 c]) W ∧ (Instr.field 70 (.agg #[.int .i64 a, .int .i64 b, .int .i64 c, .int .i64 d, .int .i64 e]) 2).run Try.prog W = .ok (.int .i64 e) W := by
  rcases hi : Try.prog.info? 33 with _ | i
  · have h := info33; rw [hi] at h; cases h
  have hs : i.size = 3 := by have h := info33; rw [hi] at h; simpa using h
  have h := under70
  rcases hu : Try.prog.underlying 70 with _ | d
  · rw [hu] at h; cases h
  rw [hu] at h
  cases d with
  | struct fs =>
    simp only [Option.map_some, Option.some.injEq, Prod.mk.injEq] at h
    obtain ⟨h0, h1, h2⟩ := h
    rcases g0 : fs[0]? with _ | f0
    · rw [g0] at h0; cases h0
    rcases g2 : fs[2]? with _ | f2
    · rw [g2] at h2; cases h2
    rw [g0] at h0; rw [g2] at h2
    simp only [Option.map_some, Option.some.injEq, Prod.mk.injEq] at h0 h2
    constructor
    · unfold Instr.field
      simp [go_sem, run_underlying hu, g0, h0.1, h0.2, asAgg, part, sizeOf, typeInfo, hi, hs]
    · unfold Instr.field
      simp [go_sem, run_underlying hu, g2, h2.1, h2.2, asAgg, part]
  | _ => simp at h
theorem split_f (a b c : Int) (W : World) : (Instr.field 33 (.agg #[.int .i64 a, .int .i64 b, .int .i64 c]) 1).run Try.prog W = .ok (.int .i64 b) W := by
  have h := under33
  rcases hu : Try.prog.underlying 33 with _ | d
  · rw [hu] at h; cases h
  rw [hu] at h
  cases d with
  | struct fs =>
    simp only [Option.map_some, Option.some.injEq, Prod.mk.injEq] at h
    obtain ⟨h0, h1, h2⟩ := h
    rcases g1 : fs[1]? with _ | f1
    · rw [g1] at h1; cases h1
    rw [g1] at h1
    simp only [Option.map_some, Option.some.injEq, Prod.mk.injEq] at h1
    unfold Instr.field
    simp [go_sem, run_underlying hu, g1, h1.1, h1.2, asAgg, part]
  | _ => simp at h

/-- A contract that is valid, with takings that can be. -/
structure Ok (cs : List Cl) (L t : Int) : Prop where
  cs : ∀ x ∈ cs, x.ok
  L : 0 ≤ L ∧ L ≤ 1000000
  t : 0 ≤ t ∧ t ≤ 1000000
theorem Ok.inv {cs : List Cl} {L t : Int} (h : Ok cs L t) : Inv t L (behindW (beginW L t) cs) := (Inv.begin h.t.1 h.L.1).behind h.cs
theorem Ok.fin {cs : List Cl} {L t : Int} (h : Ok cs L t) : Inv t L (settledW L cs t) := h.inv.fin.1

set_option maxRecDepth 100000 in
set_option maxHeartbeats 2000000 in
theorem settled_any (ac : Option Addr) (cc : Nat) (cs : List Cl) (L : Int) (t : Int) (ho : Ok cs L t) (w : World) (hX : Clz w ac cs) (r : Wk) (hr : r = settledW L cs t) : Calls Try.prog 52 #[.agg #[.slice ac cs.length cc, .int .i64 L], .int .i64 t] w fun e w' => e = .returned (.agg #[.int .i64 r.op, .int .i64 r.ow, .int .i64 r.rp, .int .i64 r.rest, .int .i64 r.owed]) ∧ Below w.heap.size w w' := by
  obtain ⟨W, hW, hb, hs, x0, x1⟩ := boxes2 w #[.slice ac cs.length cc, .int .i64 L] 24 #[.int .i64 0, .int .i64 0, .int .i64 0, .int .i64 0, .int .i64 0] 70
  have hX1 := hX.below hb (Nat.le_refl _)
  obtain ⟨v, hv⟩ : ∃ v, v = behindW (beginW L t) cs := ⟨_, rfl⟩
  have h1 := fun (V : World) => begin_any ac cc cs.length L t V
  have h2 := fun (q : Ext W) => behind_any t L ho.t.2 ho.L.2 (beginW L t) (Inv.begin ho.t.1 ho.L.1) ac cc cs ho.cs q.w (hX1.below q.below (Nat.le_refl _)) v hv
  have h3 := fun (V : World) => end_any v (by rw [hv]; exact ho.inv.wb ho.t.2 ho.L.2) V r (by rw [hr, hv]; rfl)
  simp only [beginW] at h2
  have hszW : w.heap.size + 1 < W.heap.size := Bx.lt x1
  have c0 := x0.ext 0 rfl; have c1 := x0.ext 1 rfl
  clear hr hv hX hX1 ho x0 hs
  go_enter Try.func52, Try.ntmps52
  go_upto_region 1 with fail
  clear hW
  refine wp_region_ext_tail 7 (by kernel_rfl) (by kernel_rfl) ?_
  repeat (quiet_step (first | (go_at_call 55; exact quiet_ext (h1 _)) | (go_at_call 57; exact quiet_ext (h2 _)) | (go_at_call 58; exact quiet_ext (h3 _))))
  refine wpQuiet_nil ?_
  intro _ hw'
  obtain ⟨tt, rfl⟩ := hw'
  have hbt := tt.below
  clear c0 c1 h1 h2 h3
  replace x1 := x1.below hbt
  replace hb := hb.trans (hbt.mono hb.size)
  clear hbt
  generalize tt.w = V2 at *
  have c0 := x1.cell 0 rfl; have c1 := x1.cell 1 rfl; have c2 := x1.cell 2 rfl; have c3 := x1.cell 3 rfl; have c4 := x1.cell 4 rfl
  have f0 := x1.free 0; have f1 := x1.free 1; have f2 := x1.free 2; have f3 := x1.free 3; have f4 := x1.free 4
  have z1 := x1.set5 (.int .i64 r.op) (.int .i64 r.ow) (.int .i64 r.rp) (.int .i64 r.rest) (.int .i64 r.owed)
  have hb3 := below_put5 hb (b := w.heap.size + 1) (by omega) (.int .i64 r.op) (.int .i64 r.ow) (.int .i64 r.rp) (.int .i64 r.rest) (.int .i64 r.owed)
  have HZ := hid (And.intro z1 hb3)
  clear z1 hb3 x1 hb
  go_wp2_with fail
  obtain ⟨z1, hb3⟩ := HZ.out
  clear HZ
  generalize World.setCell _ _ _ = VV at *
  have k0 := z1.cell 0 rfl; have k1 := z1.cell 1 rfl; have k2 := z1.cell 2 rfl; have k3 := z1.cell 3 rfl; have k4 := z1.cell 4 rfl
  refine bodyPost_ret (v := .agg #[.int .i64 r.op, .int .i64 r.ow, .int .i64 r.rp, .int .i64 r.rest, .int .i64 r.owed]) ?_ rfl ⟨rfl, hb3⟩
  simp [results, Try.results52, go_sem, k0, k1, k2, k3, k4]

theorem askE_zero {cs : List Cl} {L : Int} {o : Bool} (h : askE cs L o = 0) : shB cs L = true ∧ o = true := by
  unfold askE at h
  cases hs : shB cs L
  · rw [hs] at h; simp at h
  · rw [hs] at h
    cases o
    · simp at h
    · exact ⟨rfl, rfl⟩
theorem cenB_iff {x : Int} : cenB x = true ↔ 0 ≤ x ∧ x ≤ 9999 := inI_iff
theorem Ok.of {cs : List Cl} {L t : Int} (h : shB cs L = true) (ht : cenB t = true) : Ok cs L t := by
  obtain ⟨_, h2, h3⟩ := shB_ok h
  rw [cenB_iff] at ht
  exact ⟨h2, by omega, by omega⟩
theorem below_put3 {B : Nat} {w W : World} (h : Below B w W) {b : Nat} (hp : B ≤ b) (v0 v1 v2 : Value) : Below B w (((W.setCell ⟨b, 0, none⟩ v0).setCell ⟨b, 1, none⟩ v1).setCell ⟨b, 2, none⟩ v2) := ((h.setCell (p := ⟨b, 0, none⟩) hp v0).setCell (p := ⟨b, 1, none⟩) hp v1).setCell (p := ⟨b, 2, none⟩) hp v2

set_option maxRecDepth 100000 in
set_option maxHeartbeats 2000000 in
theorem Week_bad (ac : Option Addr) (cc : Nat) (cs : List Cl) (L : Int) (t : Int) (w : World) (hX : Clz w ac cs) (r : Int) (hr : r = askE cs L (cenB t)) (h0 : r ≠ 0) : Calls Try.prog 19 #[.agg #[.slice ac cs.length cc, .int .i64 L], .int .i64 t] w fun e w' => e = .returned (.tuple #[.agg #[.int .i64 0, .int .i64 0, .int .i64 0], .int .i64 r]) ∧ Below w.heap.size w w' := by
  obtain ⟨W, hW, hb, hs, x0, x1⟩ := boxes2 w #[.slice ac cs.length cc, .int .i64 L] 24 #[.int .i64 0, .int .i64 0, .int .i64 0] 33
  have hX1 := hX.below hb (Nat.le_refl _)
  have h1 := fun (q : Ext W) => (isCents_any t q.w).mono (fun e w' h => And.intro h.1 (Below.of_eq (B := q.w.heap.size) h.2))
  have h2 := fun (q : Ext W) => check_any ac cc cs L (cenB t) q.w (hX1.below q.below (Nat.le_refl _))
  rw [← hr] at h2
  generalize cenB t = o at *
  have c0 := x0.ext 0 rfl; have c1 := x0.ext 1 rfl
  clear hr hX hX1 x0 hs
  go_enter Try.func19, Try.ntmps19
  go_upto_region 1 with fail
  clear hW
  refine wp_region_ext_lit (by kernel_rfl) (by kernel_rfl) ?_
  repeat (quiet_step (first | (go_at_call 51; exact quiet_ext (h1 _)) | (go_at_call 50; exact quiet_ext (h2 _))))
  refine wpQuiet_nil ?_
  intro _ hw'
  obtain ⟨tt, rfl⟩ := hw'
  have hbt := tt.below
  clear c0 c1 h1 h2
  replace x1 := x1.below hbt
  replace hb := hb.trans (hbt.mono hb.size)
  clear hbt
  generalize tt.w = V2 at *
  have c0 := x1.cell 0 rfl; have c1 := x1.cell 1 rfl; have c2 := x1.cell 2 rfl
  have f0 := x1.free 0; have f1 := x1.free 1; have f2 := x1.free 2
  have z1 := x1.set3 (.int .i64 0) (.int .i64 0) (.int .i64 0)
  have hb3 := below_put3 hb (b := w.heap.size + 1) (by omega) (.int .i64 0) (.int .i64 0) (.int .i64 0)
  have HZ := hid (And.intro z1 hb3)
  clear z1 hb3 x1 hb
  go_wp2_with fail
  obtain ⟨z1, hb3⟩ := HZ.out
  clear HZ
  generalize World.setCell _ _ _ = VV at *
  have k0 := z1.cell 0 rfl; have k1 := z1.cell 1 rfl; have k2 := z1.cell 2 rfl
  refine bodyPost_ret (v := .tuple #[.agg #[.int .i64 0, .int .i64 0, .int .i64 0], .int .i64 r]) ?_ rfl ⟨rfl, hb3⟩
  simp [results, Try.results19, go_sem, k0, k1, k2]
set_option maxRecDepth 100000 in
set_option maxHeartbeats 2000000 in
theorem Week_ok (ac : Option Addr) (cc : Nat) (cs : List Cl) (L : Int) (t : Int) (w : World) (hX : Clz w ac cs) (h : shB cs L = true) (ht : cenB t = true) (r : Wk) (hr : r = settledW L cs t) : Calls Try.prog 19 #[.agg #[.slice ac cs.length cc, .int .i64 L], .int .i64 t] w fun e w' => e = .returned (.tuple #[.agg #[.int .i64 r.op, .int .i64 r.ow, .int .i64 r.rp], .int .i64 0]) ∧ Below w.heap.size w w' := by
  obtain ⟨W, hW, hb, hs, x0, x1⟩ := boxes2 w #[.slice ac cs.length cc, .int .i64 L] 24 #[.int .i64 0, .int .i64 0, .int .i64 0] 33
  have hX1 := hX.below hb (Nat.le_refl _)
  have h1 := fun (q : Ext W) => (isCents_any t q.w).mono (fun e w' h => And.intro h.1 (Below.of_eq (B := q.w.heap.size) h.2))
  have h2 := fun (q : Ext W) => check_any ac cc cs L (cenB t) q.w (hX1.below q.below (Nat.le_refl _))
  have h3 := fun (V : World) hh => settled_any ac cc cs L t (Ok.of h ht) V hh r hr
  have ha : askE cs L (cenB t) = 0 := by unfold askE; rw [h, ht]; rfl
  rw [ha] at h2
  generalize cenB t = o at *
  have hwf := week_f r.op r.ow r.rp r.rest r.owed
  have c0 := x0.ext 0 rfl; have c1 := x0.ext 1 rfl
  clear hr hX h ht hs ha
  go_enter Try.func19, Try.ntmps19
  go_upto_region 1 with fail
  clear hW
  refine wp_region_ext_lit (by kernel_rfl) (by kernel_rfl) ?_
  repeat (quiet_step (first | (go_at_call 51; exact quiet_ext (h1 _)) | (go_at_call 50; exact quiet_ext (h2 _))))
  refine wpQuiet_nil ?_
  intro _ hw'
  obtain ⟨tt, rfl⟩ := hw'
  have hbt := tt.below
  clear c0 c1 h1 h2
  replace x1 := x1.below hbt
  replace x0 := x0.below hbt
  replace hb := hb.trans (hbt.mono hb.size)
  have h4 := h3 _ (hX1.below hbt (Nat.le_refl _))
  clear hbt h3 hX1
  generalize tt.w = V2 at *
  have c0 := x0.cell 0 rfl; have c1 := x0.cell 1 rfl
  go_wp2_with fail
  refine h4.mono ?_
  rintro e V3 ⟨rfl, hb1⟩
  replace x1 := x1.below hb1
  replace hb := hb.trans (hb1.mono hb.size)
  have hf0 := fun W => (hwf W).1
  clear hb1 h4 c0 c1 x0 hwf
  have c0 := x1.cell 0 rfl; have c1 := x1.cell 1 rfl; have c2 := x1.cell 2 rfl
  have f0 := x1.free 0; have f1 := x1.free 1; have f2 := x1.free 2
  have z1 := x1.set3 (.int .i64 r.op) (.int .i64 r.ow) (.int .i64 r.rp)
  have hb3 := below_put3 hb (b := w.heap.size + 1) (by omega) (.int .i64 r.op) (.int .i64 r.ow) (.int .i64 r.rp)
  have HZ := hid (And.intro z1 hb3)
  clear z1 hb3 x1 hb
  go_wp2_with fail
  obtain ⟨z1, hb3⟩ := HZ.out
  clear HZ
  generalize World.setCell _ _ _ = VV at *
  have k0 := z1.cell 0 rfl; have k1 := z1.cell 1 rfl; have k2 := z1.cell 2 rfl
  refine bodyPost_ret (v := .tuple #[.agg #[.int .i64 r.op, .int .i64 r.ow, .int .i64 r.rp], .int .i64 0]) ?_ rfl ⟨rfl, hb3⟩
  simp [results, Try.results19, go_sem, k0, k1, k2]
end Go.Proofs.Ythgjjlkdekfdbaa
