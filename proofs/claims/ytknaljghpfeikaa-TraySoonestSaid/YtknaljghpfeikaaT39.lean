import Derived.Test.YtknaljghpfeikaaT38
import Derived.Test.YtknaljghpfeikaaRows
import Derived.ProofKit
import Derived.Lib.SmallJoins
import Derived.Deep.SlicePairs
namespace Go.Proofs.Ytknaljghpfeikaa
open Go.ChangeShapes Go.WideShapes Go.ChangeAt Go.RowKit Go.Joins

theorem jown : ownKnob Try.prog.godebug = none := by kernel_rfl
theorem jlaid : laidOutB Try.prog = true := by kernel_rfl
theorem jcells3 : Try.prog.cellsOf 3 = 1 := by kernel_rfl
theorem jcells25 : Try.prog.cellsOf 25 = 5 := by kernel_rfl
theorem jcells34 : Try.prog.cellsOf 34 = 2 := by kernel_rfl
theorem jcells40 : Try.prog.cellsOf 40 = 2 := by kernel_rfl
theorem jcells22 : Try.prog.cellsOf 22 = 1 := by kernel_rfl
theorem jcells23 : Try.prog.cellsOf 23 = 1 := by kernel_rfl

set_option maxRecDepth 100000 in
/-- A slice of pairs that came in. -/
theorem prs_open22 {H : Type} {enc : TypeId × Value → H} {W : World} {n : Nat} {v : Value} {y : DataW H × List MemPlace} (h : DataW.trod enc Try.prog W 0 (fun _ => true) true n 22 [v] = some y) :
    ∃ (a : Option Addr) (c : Nat) (xs : List (Int × Int)), v = .slice a xs.length c ∧ xs.length ≤ 9223372036854775807 ∧ (xs.length ≤ 1000 → Prs W a xs) := by
  rcases Go.Deep.open_slice_pairs (cs := [v]) Try.underlying22 Try.underlying34 jcells34 rfl rfl jcells3 jcells3 h with ⟨hcs, _⟩ | ⟨ad, len, cap, m, n', V0, V1, D0, D1, P0, P1, hcs, _, hl, hm, hmm, _, hi⟩
  · simp at hcs
    exact ⟨none, 0, [], by rw [hcs]; rfl, by simp, fun _ => ⟨by simp, by simp, fun i hi => by simp at hi⟩⟩
  · simp at hcs
    subst hcs
    simp only [if_true] at hmm
    subst hmm
    have each : ∀ i, i < m → ∃ x y : Int, V0 i = .int .i64 x ∧ V1 i = .int .i64 y ∧ (Lit.int .i64 x).wf = true ∧ (Lit.int .i64 y).wf = true := fun i h => by
      obtain ⟨_, _, h2, h3⟩ := hi i h
      obtain ⟨x, e0, _, wx⟩ := DataW.trod_int Try.underlying3 h2
      obtain ⟨y, e1, _, wy⟩ := DataW.trod_int Try.underlying3 h3
      simp at e0 e1
      exact ⟨x, y, e0, e1, wx, wy⟩
    let f : Nat → Int × Int := fun i => (intOf (V0 i), intOf (V1 i))
    have hlen : ((List.range len).map f).length = len := by simp
    unfold maxLen at hm
    refine ⟨some ad, m, (List.range len).map f, by rw [hlen], by rw [hlen]; omega, fun _ => ⟨by rw [hlen] at *; omega, fun x hx => ?_, fun i hi' => ?_⟩⟩
    · obtain ⟨i, hi', rfl⟩ := List.mem_map.1 hx
      obtain ⟨x, y, e0, e1, wx, wy⟩ := each i (by have := List.mem_range.1 hi'; omega)
      have h1 : IntKind.i64.min = -9223372036854775808 := rfl
      have h2 : IntKind.i64.max = 9223372036854775807 := rfl
      simp only [Lit.wf, Bool.and_eq_true, decide_eq_true_eq, h1, h2] at wx wy
      show _ ≤ intOf (V0 i) ∧ intOf (V0 i) ≤ _ ∧ _ ≤ intOf (V1 i) ∧ intOf (V1 i) ≤ _
      rw [e0, e1]
      simp only [intOf]
      omega
    · rw [hlen] at hi'
      obtain ⟨x, y, e0, e1, wx, wy⟩ := each i (by omega)
      obtain ⟨h0, h1, _⟩ := hi i (by omega)
      obtain ⟨b, off, spot⟩ := ad
      have hspot : spot = none := by
        have := World.cell?_spot (hi 0 (by omega)).1
        simpa [Addr.add] using this
      subst hspot
      rw [add_plain] at h0 h1
      have hlt := cell_lt h0
      refine ⟨b, off, rfl, hlt, ?_, ?_⟩
      · rw [h0]
        simp [List.getD, hi', f, e0, intOf]
      · rw [Nat.add_assoc, h1]
        simp [List.getD, hi', f, e1, intOf]

set_option maxRecDepth 100000 in
/-- A slice of pairs that came in. -/
theorem prs_open23 {H : Type} {enc : TypeId × Value → H} {W : World} {n : Nat} {v : Value} {y : DataW H × List MemPlace} (h : DataW.trod enc Try.prog W 0 (fun _ => true) true n 23 [v] = some y) :
    ∃ (a : Option Addr) (c : Nat) (xs : List (Int × Int)), v = .slice a xs.length c ∧ xs.length ≤ 9223372036854775807 ∧ (xs.length ≤ 1000 → Prs W a xs) := by
  rcases Go.Deep.open_slice_pairs (cs := [v]) Try.underlying23 Try.underlying40 jcells40 rfl rfl jcells3 jcells3 h with ⟨hcs, _⟩ | ⟨ad, len, cap, m, n', V0, V1, D0, D1, P0, P1, hcs, _, hl, hm, hmm, _, hi⟩
  · simp at hcs
    exact ⟨none, 0, [], by rw [hcs]; rfl, by simp, fun _ => ⟨by simp, by simp, fun i hi => by simp at hi⟩⟩
  · simp at hcs
    subst hcs
    simp only [if_true] at hmm
    subst hmm
    have each : ∀ i, i < m → ∃ x y : Int, V0 i = .int .i64 x ∧ V1 i = .int .i64 y ∧ (Lit.int .i64 x).wf = true ∧ (Lit.int .i64 y).wf = true := fun i h => by
      obtain ⟨_, _, h2, h3⟩ := hi i h
      obtain ⟨x, e0, _, wx⟩ := DataW.trod_int Try.underlying3 h2
      obtain ⟨y, e1, _, wy⟩ := DataW.trod_int Try.underlying3 h3
      simp at e0 e1
      exact ⟨x, y, e0, e1, wx, wy⟩
    let f : Nat → Int × Int := fun i => (intOf (V0 i), intOf (V1 i))
    have hlen : ((List.range len).map f).length = len := by simp
    unfold maxLen at hm
    refine ⟨some ad, m, (List.range len).map f, by rw [hlen], by rw [hlen]; omega, fun _ => ⟨by rw [hlen] at *; omega, fun x hx => ?_, fun i hi' => ?_⟩⟩
    · obtain ⟨i, hi', rfl⟩ := List.mem_map.1 hx
      obtain ⟨x, y, e0, e1, wx, wy⟩ := each i (by have := List.mem_range.1 hi'; omega)
      have h1 : IntKind.i64.min = -9223372036854775808 := rfl
      have h2 : IntKind.i64.max = 9223372036854775807 := rfl
      simp only [Lit.wf, Bool.and_eq_true, decide_eq_true_eq, h1, h2] at wx wy
      show _ ≤ intOf (V0 i) ∧ intOf (V0 i) ≤ _ ∧ _ ≤ intOf (V1 i) ∧ intOf (V1 i) ≤ _
      rw [e0, e1]
      simp only [intOf]
      omega
    · rw [hlen] at hi'
      obtain ⟨x, y, e0, e1, wx, wy⟩ := each i (by omega)
      obtain ⟨h0, h1, _⟩ := hi i (by omega)
      obtain ⟨b, off, spot⟩ := ad
      have hspot : spot = none := by
        have := World.cell?_spot (hi 0 (by omega)).1
        simpa [Addr.add] using this
      subst hspot
      rw [add_plain] at h0 h1
      have hlt := cell_lt h0
      refine ⟨b, off, rfl, hlt, ?_, ?_⟩
      · rw [h0]
        simp [List.getD, hi', f, e0, intOf]
      · rw [Nat.add_assoc, h1]
        simp [List.getD, hi', f, e1, intOf]

set_option maxRecDepth 100000 in
/-- A tray that came in. -/
theorem tray_open {H : Type} {enc : TypeId × Value → H} {W : World} {b0 : Nat} {v : Value} {d : DataW H} {p : List MemPlace} (hv : Value.okWide Try.prog W .any b0 25 v)
    (h : DataW.Trod enc Try.prog W 0 (fun _ => true) true 25 v d p) : ∃ (ar ap : Option Addr) (cr cp : Nat) (rs ps : List (Int × Int)) (p0 way step : Int), v = .agg #[.slice ar rs.length cr, .int .i64 p0, .int .i64 way, .int .i64 step, .slice ap ps.length cp] ∧
      rs.length ≤ 9223372036854775807 ∧ ps.length ≤ 9223372036854775807 ∧ (rs.length ≤ 1000 → Prs W ar rs) ∧ (ps.length ≤ 1000 → Prs W ap ps) := by
  obtain ⟨cs, rfl, hsz⟩ := okWide_struct Try.underlying25 hv
  obtain ⟨fuel, hf⟩ := h
  obtain ⟨ys, n, _, -, _, hlen, hg⟩ := DataW.trod_struct Try.underlying25 hf
  obtain ⟨l⟩ := cs
  have hl5 : l.length = 5 := hsz.trans jcells25
  match l, hl5, ys, hlen with
  | [u0, u1, u2, u3, u4], _, [y0, y1, y2, y3, y4], _ =>
    have t0 := hg 0 _ rfl
    have t1 := hg 1 _ rfl
    have t2 := hg 2 _ rfl
    have t3 := hg 3 _ rfl
    have t4 := hg 4 _ rfl
    simp [Value.cells, jcells22] at t0
    simp [Value.cells, jcells3] at t1
    simp [Value.cells, jcells3] at t2
    simp [Value.cells, jcells3] at t3
    simp [Value.cells, jcells23] at t4
    obtain ⟨ar, cr, rs, rfl, hr1, hr2⟩ := prs_open22 t0
    obtain ⟨x1, e1, _, _⟩ := DataW.trod_int Try.underlying3 t1
    obtain ⟨x2, e2, _, _⟩ := DataW.trod_int Try.underlying3 t2
    obtain ⟨x3, e3, _, _⟩ := DataW.trod_int Try.underlying3 t3
    obtain ⟨ap, cp, ps, rfl, hp1, hp2⟩ := prs_open23 t4
    simp at e1 e2 e3
    subst e1
    subst e2
    subst e3
    exact ⟨ar, ap, cr, cp, rs, ps, x1, x2, x3, rfl, hr1, hp1, hr2, hp2⟩
end Go.Proofs.Ytknaljghpfeikaa
