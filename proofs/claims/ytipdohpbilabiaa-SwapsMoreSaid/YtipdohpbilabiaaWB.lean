import Derived.Test.YtipdohpbilabiaaWA
/-! SwapsMore: any visit, more and goal. -/
namespace Go.Proofs.Ytipdohpbilabiaa
set_option linter.unusedSimpArgs false
set_option linter.unusedVariables false
open Go Go.RowKit Go.ChangeShapes Go.WideShapes Go.ChangeAt Go.Joins

theorem jcells58 : Try.prog.cellsOf 58 = 6 := by kernel_rfl
set_option maxRecDepth 100000 in
/-- Six numbers that came in. -/
theorem more_open58 {H : Type} {enc : TypeId × Value → H} {W : World} {b0 : Nat} {v : Value} {d : DataW H} {p : List MemPlace} (hv : Value.okWide Try.prog W .any b0 58 v)
    (h : DataW.Trod enc Try.prog W 0 (fun _ => true) true 58 v d p) : ∃ x0 x1 x2 x3 x4 x5 : Int, v = .agg #[.int .i64 x0, .int .i64 x1, .int .i64 x2, .int .i64 x3, .int .i64 x4, .int .i64 x5] := by
  obtain ⟨cs, rfl, hsz⟩ := okWide_struct Try.underlying58 hv
  obtain ⟨fuel, hf⟩ := h
  obtain ⟨ys, n, _, -, _, hlen, hg⟩ := DataW.trod_struct Try.underlying58 hf
  obtain ⟨l⟩ := cs
  have hl6 : l.length = 6 := hsz.trans jcells58
  match l, hl6, ys, hlen with
  | [u0, u1, u2, u3, u4, u5], _, [y0, y1, y2, y3, y4, y5], _ =>
    have t0 := hg 0 _ rfl
    have t1 := hg 1 _ rfl
    have t2 := hg 2 _ rfl
    have t3 := hg 3 _ rfl
    have t4 := hg 4 _ rfl
    have t5 := hg 5 _ rfl
    simp [Value.cells, jcells3] at t0
    simp [Value.cells, jcells3] at t1
    simp [Value.cells, jcells3] at t2
    simp [Value.cells, jcells3] at t3
    simp [Value.cells, jcells3] at t4
    simp [Value.cells, jcells3] at t5
    obtain ⟨x0, e0, _, _⟩ := DataW.trod_int Try.underlying3 t0
    obtain ⟨x1, e1, _, _⟩ := DataW.trod_int Try.underlying3 t1
    obtain ⟨x2, e2, _, _⟩ := DataW.trod_int Try.underlying3 t2
    obtain ⟨x3, e3, _, _⟩ := DataW.trod_int Try.underlying3 t3
    obtain ⟨x4, e4, _, _⟩ := DataW.trod_int Try.underlying3 t4
    obtain ⟨x5, e5, _, _⟩ := DataW.trod_int Try.underlying3 t5
    simp at e0 e1 e2 e3 e4 e5
    subst e0 e1 e2 e3 e4 e5
    exact ⟨x0, x1, x2, x3, x4, x5, rfl⟩

theorem swapsMore_row (ab ast ae ak : Option Addr) (cb cs ce ck : Nat) (X : Sw) (yt yc yb ye yh yk goal : Int) (w : World) (hX : SwIn w ab ast ae ak X) : Calls Try.prog 8 #[.agg #[.slice ab X.bs.length cb, .slice ast X.st.length cs, .slice ae X.er.length ce, .slice ak X.ks.length ck, .int .i64 X.ch], .agg #[.int .i64 yt, .int .i64 yc, .int .i64 yb, .int .i64 ye, .int .i64 yh, .int .i64 yk], .int .i64 goal] w fun e w' => e = .returned (.bool true) ∧ Below w.heap.size w w' := by
  by_cases hk : X.ks.length ≤ 1000
  · have hs := hX.swp hk
    by_cases h : rdB X = true ∧ 0 ≤ min (min (min yc ye) yh) yk ∧ max (max (max yc ye) yh) yk ≤ 999 ∧ 0 ≤ goal ∧ goal ≤ 99999
    · exact swapsMore_any ab ast ae ak cb cs ce ck X yt yc yb ye yh yk goal w hs h.1 _ _ rfl rfl h.2.1 h.2.2.1 h.2.2.2.1 h.2.2.2.2
    · exact More_bad ab ast ae ak cb cs ce ck X yt yc yb ye yh yk goal w _ _ rfl rfl (rdB X) (fun V hV => ready_any ab ast ae ak cb cs ce ck X V (hs.below hV (Nat.le_refl _))) h
  · exact More_bad ab ast ae ak cb cs ce ck X yt yc yb ye yh yk goal w _ _ rfl rfl false (fun V hV => ready_huge ab ast ae ak cb cs ce ck X V (hX.below hV (Nat.le_refl _)) (by omega)) (fun h => by cases h.1)
end Go.Proofs.Ytipdohpbilabiaa
