import Derived.Test.YtipdohpbilabiaaW1
import Derived.Test.YtipdohpbilabiaaRows
import Derived.ProofKit
import Derived.Lib.SmallJoins
import Derived.Deep.SlicePairs
/-! A visit that came in. -/
namespace Go.Proofs.Ytipdohpbilabiaa
set_option linter.unusedSimpArgs false
set_option linter.unusedVariables false
open Go.ChangeShapes Go.WideShapes Go.ChangeAt Go.RowKit Go.Joins

theorem jown : ownKnob Try.prog.godebug = none := by kernel_rfl
theorem jlaid : laidOutB Try.prog = true := by kernel_rfl
theorem jcells3 : Try.prog.cellsOf 3 = 1 := by kernel_rfl
theorem jcells26 : Try.prog.cellsOf 26 = 5 := by kernel_rfl
theorem jcells55 : Try.prog.cellsOf 55 = 2 := by kernel_rfl
theorem jcells22 : Try.prog.cellsOf 22 = 1 := by kernel_rfl
theorem jcells23 : Try.prog.cellsOf 23 = 1 := by kernel_rfl
theorem jcells24 : Try.prog.cellsOf 24 = 1 := by kernel_rfl

set_option maxRecDepth 100000 in
/-- A slice of pairs that came in. -/
theorem prs_open24 {H : Type} {enc : TypeId × Value → H} {W : World} {n : Nat} {v : Value} {y : DataW H × List MemPlace} (h : DataW.trod enc Try.prog W 0 (fun _ => true) true n 24 [v] = some y) :
    ∃ (a : Option Addr) (c : Nat) (xs : List (Int × Int)), v = .slice a xs.length c ∧ xs.length ≤ 9223372036854775807 ∧ (xs.length ≤ 1000 → Prs W a xs) := by
  rcases Go.Deep.open_slice_pairs (cs := [v]) Try.underlying24 Try.underlying55 jcells55 rfl rfl jcells3 jcells3 h with ⟨hcs, _⟩ | ⟨ad, len, cap, m, n', V0, V1, D0, D1, P0, P1, hcs, _, hl, hm, hmm, _, hi⟩
  · simp at hcs
    exact ⟨none, 0, [], by rw [hcs]; rfl, by simp, fun _ => ⟨by simp, by simp, fun i hi => by simp at hi⟩⟩
  · simp at hcs
    subst hcs
    simp only [if_true] at hmm
    subst hmm
    have each : ∀ i, i < m → ∃ x y : Int, V0 i = .int .i64 x ∧ V1 i = .int .i64 y ∧ (Lit.int .i64 x).wf = true ∧ (Lit.int .i64 y).wf = true := fun i h => by
      obtain ⟨_, _, h2, h3⟩ := hi i h
      obtain ⟨x, e0, _, wx⟩ := DataW.trod_int Try.underlying3 h2
      obtain ⟨y, e1, _, wy⟩ := DataW.trod_int Try.underlying3 h3
      simp at e0 e1
      exact ⟨x, y, e0, e1, wx, wy⟩
    let f : Nat → Int × Int := fun i => (intOf (V0 i), intOf (V1 i))
    have hlen : ((List.range len).map f).length = len := by simp
    unfold maxLen at hm
    refine ⟨some ad, m, (List.range len).map f, by rw [hlen], by rw [hlen]; omega, fun _ => ⟨by rw [hlen] at *; omega, fun x hx => ?_, fun i hi' => ?_⟩⟩
    · obtain ⟨i, hi', rfl⟩ := List.mem_map.1 hx
      obtain ⟨x, y, e0, e1, wx, wy⟩ := each i (by have := List.mem_range.1 hi'; omega)
      have h1 : IntKind.i64.min = -9223372036854775808 := rfl
      have h2 : IntKind.i64.max = 9223372036854775807 := rfl
      simp only [Lit.wf, Bool.and_eq_true, decide_eq_true_eq, h1, h2] at wx wy
      show _ ≤ intOf (V0 i) ∧ intOf (V0 i) ≤ _ ∧ _ ≤ intOf (V1 i) ∧ intOf (V1 i) ≤ _
      rw [e0, e1]
      simp only [intOf]
      omega
    · rw [hlen] at hi'
      obtain ⟨x, y, e0, e1, wx, wy⟩ := each i (by omega)
      obtain ⟨h0, h1, _⟩ := hi i (by omega)
      obtain ⟨b, off, spot⟩ := ad
      have hspot : spot = none := by
        have := World.cell?_spot (hi 0 (by omega)).1
        simpa [Addr.add] using this
      subst hspot
      rw [add_plain] at h0 h1
      have hlt := cell_lt h0
      refine ⟨b, off, rfl, hlt, ?_, ?_⟩
      · rw [h0]
        simp [List.getD, hi', f, e0, intOf]
      · rw [Nat.add_assoc, h1]
        simp [List.getD, hi', f, e1, intOf]

set_option maxRecDepth 100000 in
/-- A slice of ints that came in. -/
theorem ints_open23 {H : Type} {enc : TypeId × Value → H} {W : World} {n : Nat} {v : Value} {y : DataW H × List MemPlace} (h : DataW.trod enc Try.prog W 0 (fun _ => true) true n 23 [v] = some y) : ∃ a c xs, v = .slice a xs.length c ∧ Ints W a xs := by
  rcases open_ints Try.underlying23 Try.underlying3 jcells3 h with ⟨hcs, _⟩ | ⟨a, len, cap, zs, hcs, _, hl, hm, hz, _, hcell, hw⟩
  · simp at hcs
    exact ⟨none, 0, [], by rw [hcs]; rfl, by simp, by simp, fun i hi => by simp at hi⟩
  · simp at hcs
    simp only [if_true] at hz
    have hlen : (zs.take len).length = len := by simp; omega
    unfold maxLen at hm
    refine ⟨some a, cap, zs.take len, by rw [hlen, hcs], by omega, fun x hx => ?_, fun i hi => ?_⟩
    · have := hw x (List.mem_of_mem_take hx)
      have h1 : IntKind.i64.min = -9223372036854775808 := rfl
      have h2 : IntKind.i64.max = 9223372036854775807 := rfl
      simp only [Lit.wf, Bool.and_eq_true, decide_eq_true_eq, h1, h2] at this
      omega
    · obtain ⟨b, off, spot⟩ := a
      have hi' : i < zs.length := by simp at hi; omega
      have hspot : spot = none := by simpa [Addr.add] using World.cell?_spot (hcell 0 (by omega))
      subst hspot
      have hc := hcell i hi'
      rw [add_plain] at hc
      have hlt := cell_lt hc
      refine ⟨b, off, rfl, hlt, ?_⟩
      rw [hc]
      simp [List.getD, show i < len by simp at hi; omega]

set_option maxRecDepth 100000 in
/-- Rows of lists that came in. -/
theorem lss_open22 {H : Type} {enc : TypeId × Value → H} {W : World} {n : Nat} {v : Value} {y : DataW H × List MemPlace} (h : DataW.trod enc Try.prog W 0 (fun _ => true) true n 22 [v] = some y) : ∃ a c LL, v = .slice a LL.length c ∧ Lss W a LL := by
  rcases Go.Deep.open_slice1 (cs := [v]) Try.underlying22 jcells23 h with ⟨hcs, _⟩ | ⟨ad, len, cap, m, n', V, D, Pl, hcs, _, hl, hm, hmm, _, hi⟩
  · simp at hcs
    exact ⟨none, 0, [], by rw [hcs]; rfl, by simp, fun i ks hi => by simp at hi⟩
  · simp at hcs
    subst hcs
    simp only [if_true] at hmm
    subst hmm
    unfold maxLen at hm
    have each : ∀ i, i < m → ∃ q : Option Addr × Nat × List Int, V i = .slice q.1 q.2.2.length q.2.1 ∧ Ints W q.1 q.2.2 := fun i h => by
      obtain ⟨a, c, xs, e, hI⟩ := ints_open23 (hi i h).2
      exact ⟨(a, c, xs), e, hI⟩
    have ech : ∃ f : Nat → Option Addr × Nat × List Int, ∀ i, i < m → V i = .slice (f i).1 (f i).2.2.length (f i).2.1 ∧ Ints W (f i).1 (f i).2.2 :=
      ⟨fun i => if h : i < m then (each i h).choose else (none, 0, []), fun i h => by simp only [dif_pos h]; exact (each i h).choose_spec⟩
    obtain ⟨f, hf⟩ := ech
    have hlen : ((List.range len).map fun i => (f i).2.2).length = len := by simp
    refine ⟨some ad, m, (List.range len).map fun i => (f i).2.2, by rw [hlen], by rw [hlen]; omega, fun i ks hk => ?_⟩
    have hil : i < len := by
      have := (List.getElem?_eq_some_iff.1 hk).1
      simpa using this
    have hke : (f i).2.2 = ks := by simpa [hil] using hk
    obtain ⟨hv, hI⟩ := hf i (by omega)
    obtain ⟨h0, _⟩ := hi i (by omega)
    obtain ⟨b, off, spot⟩ := ad
    have hspot : spot = none := by
      have := World.cell?_spot (hi 0 (by omega)).1
      simpa [Addr.add] using this
    subst hspot
    rw [add_plain] at h0
    have hlt := cell_lt h0
    subst hke
    exact ⟨b, off, (f i).1, (f i).2.1, rfl, hlt, by rw [h0, hv], hI⟩

/-- A visit in memory, whose keeps are read where they are not far too many. -/
structure SwIn (w : World) (ab ast ae ak : Option Addr) (X : Sw) : Prop where
  b : Lss w ab X.bs
  s : Ints w ast X.st
  e : Lss w ae X.er
  kl : X.ks.length ≤ 9223372036854775807
  k : X.ks.length ≤ 1000 → Prs w ak X.ks

set_option maxRecDepth 100000 in
/-- A visit that came in. -/
theorem swap_open {H : Type} {enc : TypeId × Value → H} {W : World} {b0 : Nat} {v : Value} {d : DataW H} {p : List MemPlace} (hv : Value.okWide Try.prog W .any b0 26 v)
    (h : DataW.Trod enc Try.prog W 0 (fun _ => true) true 26 v d p) : ∃ (ab ast ae ak : Option Addr) (cb cs ce ck : Nat) (X : Sw), v = .agg #[.slice ab X.bs.length cb, .slice ast X.st.length cs, .slice ae X.er.length ce, .slice ak X.ks.length ck, .int .i64 X.ch] ∧ SwIn W ab ast ae ak X := by
  obtain ⟨cs, rfl, hsz⟩ := okWide_struct Try.underlying26 hv
  obtain ⟨fuel, hf⟩ := h
  obtain ⟨ys, n, _, -, _, hlen, hg⟩ := DataW.trod_struct Try.underlying26 hf
  obtain ⟨l⟩ := cs
  have hl5 : l.length = 5 := hsz.trans jcells26
  match l, hl5, ys, hlen with
  | [u0, u1, u2, u3, u4], _, [y0, y1, y2, y3, y4], _ =>
    have t0 := hg 0 _ rfl
    have t1 := hg 1 _ rfl
    have t2 := hg 2 _ rfl
    have t3 := hg 3 _ rfl
    have t4 := hg 4 _ rfl
    simp [Value.cells, jcells22] at t0
    simp [Value.cells, jcells23] at t1
    simp [Value.cells, jcells22] at t2
    simp [Value.cells, jcells24] at t3
    simp [Value.cells, jcells3] at t4
    obtain ⟨ab, cb, bs, rfl, hb⟩ := lss_open22 t0
    obtain ⟨ast, cs, st, rfl, hs⟩ := ints_open23 t1
    obtain ⟨ae, ce, er, rfl, he⟩ := lss_open22 t2
    obtain ⟨ak, ck, ks, rfl, hk1, hk2⟩ := prs_open24 t3
    obtain ⟨x4, e4, _, _⟩ := DataW.trod_int Try.underlying3 t4
    simp at e4
    subst e4
    exact ⟨ab, ast, ae, ak, cb, cs, ce, ck, ⟨bs, st, er, ks, x4⟩, rfl, hb, hs, he, hk1, hk2⟩
theorem SwIn.swp {w : World} {ab ast ae ak : Option Addr} {X : Sw} (h : SwIn w ab ast ae ak X) (hk : X.ks.length ≤ 1000) : Swp w ab ast ae ak X := ⟨h.b, h.s, h.e, h.k hk⟩
theorem SwIn.below {w w' : World} {ab ast ae ak : Option Addr} {X : Sw} (h : SwIn w ab ast ae ak X) {B : Nat} (hb : Below B w w') (hB : w.heap.size ≤ B) : SwIn w' ab ast ae ak X :=
  ⟨h.b.below hb hB, h.s.below hb hB, h.e.below hb hB, h.kl, fun hk => (h.k hk).below hb hB⟩

set_option maxRecDepth 100000 in
set_option maxHeartbeats 2000000 in
theorem Far_huge (ab ast ae ak : Option Addr) (cb cs ce ck : Nat) (X : Sw) (w : World) (hX : SwIn w ab ast ae ak X) (hk : 40 < X.ks.length) : Calls Try.prog 26 #[.agg #[.slice ab X.bs.length cb, .slice ast X.st.length cs, .slice ae X.er.length ce, .slice ak X.ks.length ck, .int .i64 X.ch]] w fun e w' => e = .returned (.bool true) ∧ Below w.heap.size w w' := by
  obtain ⟨W, hW, hb, _, x0⟩ := boxes1 w #[.slice ab X.bs.length cb, .slice ast X.st.length cs, .slice ae X.er.length ce, .slice ak X.ks.length ck, .int .i64 X.ch] 26
  have hX1 := hX.below hb (Nat.le_refl _)
  have hf1 := farLists_any ab cb X.bs W hX1.b
  have hf2 := farLists_any ae ce X.er W hX1.e
  have hl1 := hX.s.len
  have hl3 := hX.kl
  have h4I : (40 : Int) < (X.ks.length : Int) := by omega
  have c0 := x0.cell 0 rfl; have c1 := x0.cell 1 rfl; have c2 := x0.cell 2 rfl; have c3 := x0.cell 3 rfl; have c4 := x0.cell 4 rfl
  clear hX hX1 hk
  cases h1 : farL X.bs
  · rw [h1] at hf1
    cases h2 : farL X.er
    · rw [h2] at hf2
      by_cases h3 : 40 < X.st.length
      · have h3I : (40 : Int) < (X.st.length : Int) := by omega
        clear h1 h2 h3 hl1 hl3 h4I
        go_enter Try.func26, Try.ntmps26
        go_wp2_with fail
        refine hf1.mono ?_
        rintro e Vn ⟨rfl, rfl⟩
        go_wp2_with fail
        refine hf2.mono ?_
        rintro e Vn ⟨rfl, rfl⟩
        go_wp2
        go_ret
        exact ⟨rfl, hb⟩
      · have h3I : (X.st.length : Int) ≤ 40 := by omega
        clear h1 h2 h3 hl1 hl3
        go_enter Try.func26, Try.ntmps26
        go_wp2_with fail
        refine hf1.mono ?_
        rintro e Vn ⟨rfl, rfl⟩
        go_wp2_with fail
        refine hf2.mono ?_
        rintro e Vn ⟨rfl, rfl⟩
        go_wp2
        go_ret
        exact ⟨rfl, hb⟩
    · rw [h2] at hf2
      clear h1 h2 hl1 hl3 h4I
      go_enter Try.func26, Try.ntmps26
      go_wp2_with fail
      refine hf1.mono ?_
      rintro e Vn ⟨rfl, rfl⟩
      go_wp2_with fail
      refine hf2.mono ?_
      rintro e Vn ⟨rfl, rfl⟩
      go_wp2
      go_ret
      exact ⟨rfl, hb⟩
  · rw [h1] at hf1
    clear h1 hl1 hl3 h4I hf2
    go_enter Try.func26, Try.ntmps26
    go_wp2_with fail
    refine hf1.mono ?_
    rintro e Vn ⟨rfl, rfl⟩
    go_wp2
    go_ret
    exact ⟨rfl, hb⟩
set_option maxRecDepth 100000 in
set_option maxHeartbeats 2000000 in
theorem ready_huge (ab ast ae ak : Option Addr) (cb cs ce ck : Nat) (X : Sw) (w : World) (hX : SwIn w ab ast ae ak X) (hk : 40 < X.ks.length) : Calls Try.prog 44 #[.agg #[.slice ab X.bs.length cb, .slice ast X.st.length cs, .slice ae X.er.length ce, .slice ak X.ks.length ck, .int .i64 X.ch]] w fun e w' => e = .returned (.bool false) ∧ Below w.heap.size w w' := by
  obtain ⟨W, hW, hb, _, x0⟩ := boxes1 w #[.slice ab X.bs.length cb, .slice ast X.st.length cs, .slice ae X.er.length ce, .slice ak X.ks.length ck, .int .i64 X.ch] 26
  have hfa := Far_huge ab ast ae ak cb cs ce ck X W (hX.below hb (Nat.le_refl _)) hk
  have c0 := x0.cell 0 rfl; have c1 := x0.cell 1 rfl; have c2 := x0.cell 2 rfl; have c3 := x0.cell 3 rfl; have c4 := x0.cell 4 rfl
  clear hX hk
  go_enter Try.func44, Try.ntmps44
  go_wp2_with fail
  refine hfa.mono ?_
  rintro e V1 ⟨rfl, hb1⟩
  replace hb := hb.trans (hb1.mono hb.size)
  clear c0 c1 c2 c3 c4
  go_wp2
  go_ret
  exact ⟨rfl, hb⟩
theorem swapsGoal_row (ab ast ae ak : Option Addr) (cb cs ce ck : Nat) (X : Sw) (goal more : Int) (w : World) (hX : SwIn w ab ast ae ak X) : Calls Try.prog 11 #[.agg #[.slice ab X.bs.length cb, .slice ast X.st.length cs, .slice ae X.er.length ce, .slice ak X.ks.length ck, .int .i64 X.ch], .int .i64 goal, .int .i64 more] w fun e w' => e = .returned (.bool true) ∧ Below w.heap.size w w' := by
  by_cases hk : X.ks.length ≤ 1000
  · exact swapsGoal_any ab ast ae ak cb cs ce ck X goal more w (hX.swp hk)
  · exact Goal_bad ab ast ae ak cb cs ce ck X goal more w false (fun V hV => ready_huge ab ast ae ak cb cs ce ck X V (hX.below hV (Nat.le_refl _)) (by omega)) (fun h => by cases h.1)
end Go.Proofs.Ytipdohpbilabiaa
