import Derived.Test.YteianfbdhakhpaaT3
import Derived.Test.YteianfbdhakhpaaR1
import Derived.Test.YteianfbdhakhpaaRows
import Derived.ProofKit
import Derived.Lib.SmallJoins
import Derived.Deep.SlicePairs
/-! A train that came in. -/
namespace Go.Proofs.Yteianfbdhakhpaa
set_option linter.unusedSimpArgs false
set_option linter.unusedVariables false
open Go.ChangeShapes Go.WideShapes Go.ChangeAt Go.RowKit Go.Joins

theorem jown : ownKnob Try.prog.godebug = none := by kernel_rfl
theorem jlaid : laidOutB Try.prog = true := by kernel_rfl
theorem jcells3 : Try.prog.cellsOf 3 = 1 := by kernel_rfl
theorem jcells22 : Try.prog.cellsOf 22 = 1 := by kernel_rfl
theorem jcells24 : Try.prog.cellsOf 24 = 8 := by kernel_rfl

theorem int_rng {x : Int} (h : (Lit.int .i64 x).wf = true) : -9223372036854775808 ≤ x ∧ x ≤ 9223372036854775807 := by
  have h1 : IntKind.i64.min = -9223372036854775808 := rfl
  have h2 : IntKind.i64.max = 9223372036854775807 := rfl
  simp only [Lit.wf, Bool.and_eq_true, decide_eq_true_eq, h1, h2] at h
  exact h
set_option maxRecDepth 100000 in
/-- A slice of ints that came in. -/
theorem ints_open0 {H : Type} {enc : TypeId × Value → H} {W : World} {n : Nat} {v : Value} {y : DataW H × List MemPlace} (h : DataW.trod enc Try.prog W 0 (fun _ => true) true n 22 [v] = some y) : ∃ a c xs, v = .slice a xs.length c ∧ Ints W a xs := by
  rcases open_ints Try.underlying22 Try.underlying3 jcells3 h with ⟨hcs, _⟩ | ⟨a, len, cap, zs, hcs, _, hl, hm, hz, _, hcell, hw⟩
  · simp at hcs
    exact ⟨none, 0, [], by rw [hcs]; rfl, by simp, by simp, fun i hi => by simp at hi⟩
  · simp at hcs
    simp only [if_true] at hz
    have hlen : (zs.take len).length = len := by simp; omega
    unfold maxLen at hm
    refine ⟨some a, cap, zs.take len, by rw [hlen, hcs], by omega, fun x hx => ?_, fun i hi => ?_⟩
    · have := hw x (List.mem_of_mem_take hx)
      exact int_rng this
    · obtain ⟨b, off, spot⟩ := a
      have hi' : i < zs.length := by simp at hi; omega
      have hspot : spot = none := by simpa [Addr.add] using World.cell?_spot (hcell 0 (by omega))
      subst hspot
      have hc := hcell i hi'
      rw [add_plain] at hc
      have hlt := cell_lt hc
      refine ⟨b, off, rfl, hlt, ?_⟩
      rw [hc]
      simp [List.getD, show i < len by simp at hi; omega]
set_option maxRecDepth 100000 in
theorem ints_open22 {H : Type} {enc : TypeId × Value → H} {W : World} {b0 : Nat} {v : Value} {d : DataW H} {p : List MemPlace} (hv : Value.okWide Try.prog W .any b0 22 v)
    (h : DataW.Trod enc Try.prog W 0 (fun _ => true) true 22 v d p) : ∃ a c xs, v = .slice a xs.length c ∧ Ints W a xs := by
  obtain ⟨a, n, c, rfl⟩ := okWide_slice Try.underlying22 hv
  obtain ⟨_, h⟩ := h
  exact ints_open0 (v := .slice a n c) (y := (d, p)) h
set_option maxRecDepth 100000 in
/-- A train that came in. -/
theorem pulse_open {H : Type} {enc : TypeId × Value → H} {W : World} {b0 : Nat} {v : Value} {d : DataW H} {p : List MemPlace} (hv : Value.okWide Try.prog W .any b0 24 v)
    (h : DataW.Trod enc Try.prog W 0 (fun _ => true) true 24 v d p) : ∃ (aT : Option Addr) (cT : Nat) (X : Pu), v = .agg #[.int .i64 X.l, .int .i64 X.n, .int .i64 X.pi, .int .i64 X.sl, .int .i64 X.ga, .int .i64 X.pa, .int .i64 X.sp, .slice aT X.ts.length cT] ∧ Ints W aT X.ts := by
  obtain ⟨cs, rfl, hsz⟩ := okWide_struct Try.underlying24 hv
  obtain ⟨fuel, hf⟩ := h
  obtain ⟨ys, n, _, -, _, hlen, hg⟩ := DataW.trod_struct Try.underlying24 hf
  obtain ⟨l⟩ := cs
  have hl2 : l.length = 8 := hsz.trans jcells24
  match l, hl2, ys, hlen with
  | [u0, u1, u2, u3, u4, u5, u6, u7], _, [y0, y1, y2, y3, y4, y5, y6, y7], _ =>
    have t0 := hg 0 _ rfl
    have t1 := hg 1 _ rfl
    have t2 := hg 2 _ rfl
    have t3 := hg 3 _ rfl
    have t4 := hg 4 _ rfl
    have t5 := hg 5 _ rfl
    have t6 := hg 6 _ rfl
    have t7 := hg 7 _ rfl
    simp [Value.cells, jcells3, jcells22] at t0 t1 t2 t3 t4 t5 t6 t7
    obtain ⟨x0, e0, _, _⟩ := DataW.trod_int Try.underlying3 t0
    obtain ⟨x1, e1, _, _⟩ := DataW.trod_int Try.underlying3 t1
    obtain ⟨x2, e2, _, _⟩ := DataW.trod_int Try.underlying3 t2
    obtain ⟨x3, e3, _, _⟩ := DataW.trod_int Try.underlying3 t3
    obtain ⟨x4, e4, _, _⟩ := DataW.trod_int Try.underlying3 t4
    obtain ⟨x5, e5, _, _⟩ := DataW.trod_int Try.underlying3 t5
    obtain ⟨x6, e6, _, _⟩ := DataW.trod_int Try.underlying3 t6
    obtain ⟨aT, cT, ts, rfl, hI⟩ := ints_open0 t7
    simp at e0 e1 e2 e3 e4 e5 e6
    subst e0 e1 e2 e3 e4 e5 e6
    exact ⟨aT, cT, ⟨x0, x1, x2, x3, x4, x5, x6, ts⟩, rfl, hI⟩
end Go.Proofs.Yteianfbdhakhpaa
