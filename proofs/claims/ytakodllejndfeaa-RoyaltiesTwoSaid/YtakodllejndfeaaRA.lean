import Derived.Test.YtakodllejndfeaaT17
import Derived.Test.YtakodllejndfeaaRows
import Derived.ProofKit
import Derived.Lib.SmallJoins
import Derived.Deep.SlicePairs
/-! A royal that came in. -/
namespace Go.Proofs.Ytakodllejndfeaa
set_option linter.unusedSimpArgs false
set_option linter.unusedVariables false
open Go.ChangeShapes Go.WideShapes Go.ChangeAt Go.RowKit Go.Joins

theorem jown : ownKnob Try.prog.godebug = none := by kernel_rfl
theorem jlaid : laidOutB Try.prog = true := by kernel_rfl
theorem jcells3 : Try.prog.cellsOf 3 = 1 := by kernel_rfl
theorem jcells22 : Try.prog.cellsOf 22 = 1 := by kernel_rfl
theorem jcells23 : Try.prog.cellsOf 23 = 1 := by kernel_rfl
theorem jcells25 : Try.prog.cellsOf 25 = 3 := by kernel_rfl
theorem jcells36 : Try.prog.cellsOf 36 = 6 := by kernel_rfl
theorem jcells37 : Try.prog.cellsOf 37 = 1 := by kernel_rfl
theorem jcells39 : Try.prog.cellsOf 39 = 2 := by kernel_rfl
theorem jcells53 : Try.prog.cellsOf 53 = 2 := by kernel_rfl
theorem jcells56 : Try.prog.cellsOf 56 = 3 := by kernel_rfl

theorem int_rng {x : Int} (h : (Lit.int .i64 x).wf = true) : -9223372036854775808 ≤ x ∧ x ≤ 9223372036854775807 := by
  have h1 : IntKind.i64.min = -9223372036854775808 := rfl
  have h2 : IntKind.i64.max = 9223372036854775807 := rfl
  simp only [Lit.wf, Bool.and_eq_true, decide_eq_true_eq, h1, h2] at h
  exact h

set_option maxRecDepth 100000 in
/-- A slice of parts that came in. -/
theorem prs_open37 {H : Type} {enc : TypeId × Value → H} {W : World} {n : Nat} {v : Value} {y : DataW H × List MemPlace} (h : DataW.trod enc Try.prog W 0 (fun _ => true) true n 37 [v] = some y) :
    ∃ (a : Option Addr) (c : Nat) (xs : List (Int × Int)), v = .slice a xs.length c ∧ xs.length ≤ 9223372036854775807 ∧ (xs.length ≤ 1000 → Prs W a xs) := by
  rcases Go.Deep.open_slice_pairs (cs := [v]) Try.underlying37 Try.underlying53 jcells53 rfl rfl jcells3 jcells3 h with ⟨hcs, _⟩ | ⟨ad, len, cap, m, n', V0, V1, D0, D1, P0, P1, hcs, _, hl, hm, hmm, _, hi⟩
  · simp at hcs
    exact ⟨none, 0, [], by rw [hcs]; rfl, by simp, fun _ => ⟨by simp, by simp, fun i hi => by simp at hi⟩⟩
  · simp at hcs
    subst hcs
    simp only [if_true] at hmm
    subst hmm
    have each : ∀ i, i < m → ∃ x y : Int, V0 i = .int .i64 x ∧ V1 i = .int .i64 y ∧ (Lit.int .i64 x).wf = true ∧ (Lit.int .i64 y).wf = true := fun i h => by
      obtain ⟨_, _, h2, h3⟩ := hi i h
      obtain ⟨x, e0, _, wx⟩ := DataW.trod_int Try.underlying3 h2
      obtain ⟨y, e1, _, wy⟩ := DataW.trod_int Try.underlying3 h3
      simp at e0 e1
      exact ⟨x, y, e0, e1, wx, wy⟩
    let f : Nat → Int × Int := fun i => (intOf (V0 i), intOf (V1 i))
    have hlen : ((List.range len).map f).length = len := by simp
    unfold maxLen at hm
    refine ⟨some ad, m, (List.range len).map f, by rw [hlen], by rw [hlen]; omega, fun _ => ⟨by rw [hlen] at *; omega, fun x hx => ?_, fun i hi' => ?_⟩⟩
    · obtain ⟨i, hi', rfl⟩ := List.mem_map.1 hx
      obtain ⟨x, y, e0, e1, wx, wy⟩ := each i (by have := List.mem_range.1 hi'; omega)
      have h1 := int_rng wx; have h2 := int_rng wy
      show _ ≤ intOf (V0 i) ∧ intOf (V0 i) ≤ _ ∧ _ ≤ intOf (V1 i) ∧ intOf (V1 i) ≤ _
      rw [e0, e1]
      simp only [intOf]
      omega
    · rw [hlen] at hi'
      obtain ⟨x, y, e0, e1, wx, wy⟩ := each i (by omega)
      obtain ⟨h0, h1, _⟩ := hi i (by omega)
      obtain ⟨b, off, spot⟩ := ad
      have hspot : spot = none := by
        have := World.cell?_spot (hi 0 (by omega)).1
        simpa [Addr.add] using this
      subst hspot
      rw [add_plain] at h0 h1
      have hlt := cell_lt h0
      refine ⟨b, off, rfl, hlt, ?_, ?_⟩
      · rw [h0]
        simp [List.getD, hi', f, e0, intOf]
      · rw [Nat.add_assoc, h1]
        simp [List.getD, hi', f, e1, intOf]

set_option maxRecDepth 100000 in
/-- A slice of ints that came in. -/
theorem ints_open23 {H : Type} {enc : TypeId × Value → H} {W : World} {n : Nat} {v : Value} {y : DataW H × List MemPlace} (h : DataW.trod enc Try.prog W 0 (fun _ => true) true n 23 [v] = some y) : ∃ a c xs, v = .slice a xs.length c ∧ Ints W a xs := by
  rcases open_ints Try.underlying23 Try.underlying3 jcells3 h with ⟨hcs, _⟩ | ⟨a, len, cap, zs, hcs, _, hl, hm, hz, _, hcell, hw⟩
  · simp at hcs
    exact ⟨none, 0, [], by rw [hcs]; rfl, by simp, by simp, fun i hi => by simp at hi⟩
  · simp at hcs
    simp only [if_true] at hz
    have hlen : (zs.take len).length = len := by simp; omega
    unfold maxLen at hm
    refine ⟨some a, cap, zs.take len, by rw [hlen, hcs], by omega, fun x hx => ?_, fun i hi => ?_⟩
    · have := hw x (List.mem_of_mem_take hx)
      exact int_rng this
    · obtain ⟨b, off, spot⟩ := a
      have hi' : i < zs.length := by simp at hi; omega
      have hspot : spot = none := by simpa [Addr.add] using World.cell?_spot (hcell 0 (by omega))
      subst hspot
      have hc := hcell i hi'
      rw [add_plain] at hc
      have hlt := cell_lt hc
      refine ⟨b, off, rfl, hlt, ?_⟩
      rw [hc]
      simp [List.getD, show i < len by simp at hi; omega]

set_option maxRecDepth 100000 in
/-- A slice of sides that came in. -/
theorem sds_open22 {H : Type} {enc : TypeId × Value → H} {W : World} {n : Nat} {v : Value} {y : DataW H × List MemPlace} (h : DataW.trod enc Try.prog W 0 (fun _ => true) true n 22 [v] = some y) :
    ∃ (a : Option Addr) (c : Nat) (S : List Sd), v = .slice a S.length c ∧ S.length ≤ 9223372036854775807 ∧ (S.length ≤ 1000 → ∀ i, i < S.length → ∃ b off, a = some ⟨b, off, none⟩ ∧ b < W.heap.size ∧ SdIn W b (off + i * 2) (S.getD i sd0)) := by
  rcases Go.Deep.open_slice_pairs (cs := [v]) Try.underlying22 Try.underlying39 jcells39 rfl rfl jcells3 jcells37 h with ⟨hcs, _⟩ | ⟨ad, len, cap, m, n', V0, V1, D0, D1, P0, P1, hcs, _, hl, hm, hmm, _, hi⟩
  · simp at hcs
    exact ⟨none, 0, [], by rw [hcs]; rfl, by simp, fun _ i hi => by simp at hi⟩
  · simp at hcs
    subst hcs
    simp only [if_true] at hmm
    subst hmm
    unfold maxLen at hm
    have each : ∀ i, i < m → ∃ (s : Sd) (a' : Option Addr) (c : Nat), V0 i = .int .i64 s.pl ∧ V1 i = .slice a' s.ps.length c ∧ s.ps.length ≤ 9223372036854775807 ∧ (s.ps.length ≤ 1000 → Prs W a' s.ps) ∧ i64R s.pl := fun i h => by
      obtain ⟨_, _, h2, h3⟩ := hi i h
      obtain ⟨x, e0, _, wx⟩ := DataW.trod_int Try.underlying3 h2
      obtain ⟨a', c, ps, e1, hl1, hP⟩ := prs_open37 h3
      simp at e0
      exact ⟨⟨x, ps⟩, a', c, e0, e1, hl1, hP, int_rng wx⟩
    have ech : ∃ f : Nat → Sd, ∀ i, i < m → ∃ (a' : Option Addr) (c : Nat), V0 i = .int .i64 (f i).pl ∧ V1 i = .slice a' (f i).ps.length c ∧ (f i).ps.length ≤ 9223372036854775807 ∧ ((f i).ps.length ≤ 1000 → Prs W a' (f i).ps) ∧ i64R (f i).pl :=
      ⟨fun i => if h : i < m then (each i h).choose else sd0, fun i h => by simp only [dif_pos h]; exact (each i h).choose_spec⟩
    obtain ⟨f, hf⟩ := ech
    have hlen : ((List.range len).map f).length = len := by simp
    refine ⟨some ad, m, (List.range len).map f, by rw [hlen], by rw [hlen]; omega, fun _ i hil => ?_⟩
    rw [hlen] at hil
    obtain ⟨a', c, e0, e1, hl1, hP, hr⟩ := hf i (by omega)
    obtain ⟨h0, h1, _⟩ := hi i (by omega)
    obtain ⟨b, off, spot⟩ := ad
    have hspot : spot = none := by
      have := World.cell?_spot (hi 0 (by omega)).1
      simpa [Addr.add] using this
    subst hspot
    rw [add_plain] at h0 h1
    have hlt := cell_lt h0
    have hg : ((List.range len).map f).getD i sd0 = f i := by simp [List.getD, hil]
    rw [hg]
    exact ⟨b, off, rfl, hlt, a', c, by rw [h0, e0], by rw [Nat.add_assoc, h1, e1], hl1, hP, hr⟩

set_option maxRecDepth 100000 in
/-- A royal that came in. -/
theorem royal_open {H : Type} {enc : TypeId × Value → H} {W : World} {b0 : Nat} {v : Value} {d : DataW H} {p : List MemPlace} (hv : Value.okWide Try.prog W .any b0 25 v)
    (h : DataW.Trod enc Try.prog W 0 (fun _ => true) true 25 v d p) : ∃ (p0 : Int) (aS aO : Option Addr) (cS cO : Nat) (S : List Sd) (O : List Int), v = .agg #[.int .i64 p0, .slice aS S.length cS, .slice aO O.length cO] ∧ RyIn W aS aO p0 S O := by
  obtain ⟨cs, rfl, hsz⟩ := okWide_struct Try.underlying25 hv
  obtain ⟨fuel, hf⟩ := h
  obtain ⟨ys, n, _, -, _, hlen, hg⟩ := DataW.trod_struct Try.underlying25 hf
  obtain ⟨l⟩ := cs
  have hl2 : l.length = 3 := hsz.trans jcells25
  match l, hl2, ys, hlen with
  | [u0, u1, u2], _, [y0, y1, y2], _ =>
    have t0 := hg 0 _ rfl
    have t1 := hg 1 _ rfl
    have t2 := hg 2 _ rfl
    simp [Value.cells, jcells3, jcells22, jcells23] at t0 t1 t2
    obtain ⟨x0, e0, _, w0⟩ := DataW.trod_int Try.underlying3 t0
    simp at e0
    subst e0
    obtain ⟨aS, cS, S, rfl, hb, hc⟩ := sds_open22 t1
    obtain ⟨aO, cO, O, rfl, hO⟩ := ints_open23 t2
    exact ⟨x0, aS, aO, cS, cO, S, O, rfl, hb, hc, hO, int_rng w0⟩
set_option maxRecDepth 100000 in
theorem ask_open56 {H : Type} {enc : TypeId × Value → H} {W : World} {b0 : Nat} {v : Value} {d : DataW H} {p : List MemPlace} (hv : Value.okWide Try.prog W .any b0 56 v)
    (h : DataW.Trod enc Try.prog W 0 (fun _ => true) true 56 v d p) : ∃ x0 x1 x2 : Int, v = .agg #[.int .i64 x0, .int .i64 x1, .int .i64 x2] := by
  obtain ⟨cs, rfl, hsz⟩ := okWide_struct Try.underlying56 hv
  obtain ⟨fuel, hf⟩ := h
  obtain ⟨ys, n, _, -, _, hlen, hg⟩ := DataW.trod_struct Try.underlying56 hf
  obtain ⟨l⟩ := cs
  have hl2 : l.length = 3 := hsz.trans jcells56
  match l, hl2, ys, hlen with
  | [u0, u1, u2], _, [y0, y1, y2], _ =>
    have t0 := hg 0 _ rfl
    have t1 := hg 1 _ rfl
    have t2 := hg 2 _ rfl
    simp [Value.cells, jcells3] at t0 t1 t2
    obtain ⟨x0, e0, _, _⟩ := DataW.trod_int Try.underlying3 t0
    obtain ⟨x1, e1, _, _⟩ := DataW.trod_int Try.underlying3 t1
    obtain ⟨x2, e2, _, _⟩ := DataW.trod_int Try.underlying3 t2
    simp at e0 e1 e2
    subst e0 e1 e2
    exact ⟨x0, x1, x2, rfl⟩
end Go.Proofs.Ytakodllejndfeaa
