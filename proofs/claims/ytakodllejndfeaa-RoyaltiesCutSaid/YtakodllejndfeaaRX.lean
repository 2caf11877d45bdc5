import Derived.Test.YtakodllejndfeaaRA
/-! A struct of a royal and three ints that came in. -/
namespace Go.Proofs.Ytakodllejndfeaa
set_option linter.unusedSimpArgs false
set_option linter.unusedVariables false
open Go.ChangeShapes Go.WideShapes Go.ChangeAt Go.RowKit Go.Joins

set_option maxRecDepth 100000 in
theorem cut_open {H : Type} {enc : TypeId × Value → H} {W : World} {b0 : Nat} {v : Value} {d : DataW H} {p : List MemPlace} (hv : Value.okWide Try.prog W .any b0 36 v)
    (h : DataW.Trod enc Try.prog W 0 (fun _ => true) true 36 v d p) : ∃ (p0 : Int) (aS aO : Option Addr) (cS cO : Nat) (S : List Sd) (O : List Int) (x y z : Int), v = .agg #[.int .i64 p0, .slice aS S.length cS, .slice aO O.length cO, .int .i64 x, .int .i64 y, .int .i64 z] ∧ RyIn W aS aO p0 S O := by
  obtain ⟨cs, rfl, hsz⟩ := okWide_struct Try.underlying36 hv
  obtain ⟨fuel, hf⟩ := h
  obtain ⟨ys, n, _, -, _, hlen, hg⟩ := DataW.trod_struct Try.underlying36 hf
  obtain ⟨l⟩ := cs
  have hl2 : l.length = 6 := hsz.trans jcells36
  match l, hl2, ys, hlen with
  | [u0, u1, u2, u3, u4, u5], _, [y0, y1, y2, y3], _ =>
    have t0 := hg 0 _ rfl
    have t1 := hg 1 _ rfl
    have t2 := hg 2 _ rfl
    have t3 := hg 3 _ rfl
    simp [Value.cells, jcells3, jcells25] at t0 t1 t2 t3
    obtain ⟨x1, e1, _, _⟩ := DataW.trod_int Try.underlying3 t1
    obtain ⟨x2, e2, _, _⟩ := DataW.trod_int Try.underlying3 t2
    obtain ⟨x3, e3, _, _⟩ := DataW.trod_int Try.underlying3 t3
    simp at e1 e2 e3
    subst e1 e2 e3
    obtain ⟨ys', n', _, -, _, hlen', hg'⟩ := DataW.trod_struct Try.underlying25 t0
    match ys', hlen' with
    | [z0, z1, z2], _ =>
      have s0 := hg' 0 _ rfl
      have s1 := hg' 1 _ rfl
      have s2 := hg' 2 _ rfl
      simp [Value.cells, jcells3, jcells22, jcells23] at s0 s1 s2
      obtain ⟨x0, e0, _, w0⟩ := DataW.trod_int Try.underlying3 s0
      simp at e0
      subst e0
      obtain ⟨aS, cS, S, rfl, hb, hc⟩ := sds_open22 s1
      obtain ⟨aO, cO, O, rfl, hO⟩ := ints_open23 s2
      exact ⟨x0, aS, aO, cS, cO, S, O, x1, x2, x3, rfl, hb, hc, hO, int_rng w0⟩
end Go.Proofs.Ytakodllejndfeaa
