import Derived.Test.YtmpihcencnkpbaaG3
import Derived.Test.YtmpihcencnkpbaaT4
import Derived.Test.YtmpihcencnkpbaaRows
import Derived.ProofKit
import Derived.Lib.SmallJoins
import Derived.Deep.SlicePairs
/-! A box that came in. -/
namespace Go.Proofs.Ytmpihcencnkpbaa
set_option linter.unusedSimpArgs false
set_option linter.unusedVariables false
open Go.ChangeShapes Go.WideShapes Go.ChangeAt Go.RowKit Go.Joins

theorem jown : ownKnob Try.prog.godebug = none := by kernel_rfl
theorem jlaid : laidOutB Try.prog = true := by kernel_rfl
theorem jcells3 : Try.prog.cellsOf 3 = 1 := by kernel_rfl
theorem jcells22 : Try.prog.cellsOf 22 = 1 := by kernel_rfl
theorem jcells25 : Try.prog.cellsOf 25 = 1 := by kernel_rfl
theorem jcells24 : Try.prog.cellsOf 24 = 4 := by kernel_rfl
theorem jcells27 : Try.prog.cellsOf 27 = 2 := by kernel_rfl
theorem jcells58 : Try.prog.cellsOf 58 = 3 := by kernel_rfl
theorem jcells63 : Try.prog.cellsOf 63 = 3 := by kernel_rfl

theorem int_rng {x : Int} (h : (Lit.int .i64 x).wf = true) : -9223372036854775808 ≤ x ∧ x ≤ 9223372036854775807 := by
  have h1 : IntKind.i64.min = -9223372036854775808 := rfl
  have h2 : IntKind.i64.max = 9223372036854775807 := rfl
  simp only [Lit.wf, Bool.and_eq_true, decide_eq_true_eq, h1, h2] at h
  exact h

set_option maxRecDepth 100000 in
/-- A slice that came in. -/
theorem fz_open22 {H : Type} {enc : TypeId × Value → H} {W : World} {n : Nat} {v : Value} {y : DataW H × List MemPlace} (h : DataW.trod enc Try.prog W 0 (fun _ => true) true n 22 [v] = some y) :
    ∃ (a : Option Addr) (c : Nat) (xs : List F3), v = .slice a xs.length c ∧ xs.length ≤ 9223372036854775807 ∧ xs.length ≤ c ∧ (xs.length ≤ 1000 → Fz W a xs) := by
  rcases Go.Deep.open_slice Try.underlying22 h with ⟨hcs, _⟩ | ⟨ad, len, cap, m, n', D, Pl, hcs, _, hl, hm, hmm, _, hi⟩
  · simp at hcs
    exact ⟨none, 0, [], by rw [hcs]; rfl, by simp, by simp, fun _ => Fz.nil _ _⟩
  · simp at hcs
    subst hcs
    simp only [if_true] at hmm
    subst hmm
    have each : ∀ i, i < m → ∃ x : F3, x.i64 ∧ W.cell? (ad.add (i * 3)) = some (.int .i64 x.k) ∧ W.cell? ((ad.add (i * 3)).add 1) = some (.int .i64 x.a) ∧ W.cell? ((ad.add (i * 3)).add 2) = some (.int .i64 x.b) := fun i h => by
      obtain ⟨cs', h1, h2⟩ := hi i h
      rw [jcells58] at h1
      obtain ⟨_, hlen, hcell⟩ := World.cells?_some h1
      obtain ⟨xs, k, _, _, _, hxl, hf⟩ := DataW.trod_struct Try.underlying58 h2
      match xs, hxl, cs', hlen with
      | [y0, y1, y2], _, [v0, v1, v2], _ =>
        have g0 := hf 0 _ rfl
        have g1 := hf 1 _ rfl
        have g2 := hf 2 _ rfl
        simp [jcells3] at g0 g1 g2
        obtain ⟨x0, e0, _, w0⟩ := DataW.trod_int Try.underlying3 g0
        obtain ⟨x1, e1, _, w1⟩ := DataW.trod_int Try.underlying3 g1
        obtain ⟨x2, e2, _, w2⟩ := DataW.trod_int Try.underlying3 g2
        simp at e0 e1 e2
        subst e0 e1 e2
        have q0 := hcell 0 (by omega)
        have q1 := hcell 1 (by omega)
        have q2 := hcell 2 (by omega)
        have ea : ∀ a : Addr, a.add 0 = a := fun a => by unfold Addr.add; split <;> simp_all
        rw [ea] at q0
        exact ⟨⟨x0, x1, x2⟩, ⟨int_rng w0, int_rng w1, int_rng w2⟩, by simpa using q0, by simpa using q1, by simpa using q2⟩
    have ech : ∃ f : Nat → F3, ∀ i, i < m → (f i).i64 ∧ W.cell? (ad.add (i * 3)) = some (.int .i64 (f i).k) ∧ W.cell? ((ad.add (i * 3)).add 1) = some (.int .i64 (f i).a) ∧ W.cell? ((ad.add (i * 3)).add 2) = some (.int .i64 (f i).b) :=
      ⟨fun i => if h : i < m then (each i h).choose else f30, fun i h => by simp only [dif_pos h]; exact (each i h).choose_spec⟩
    obtain ⟨f, hf⟩ := ech
    have hlen : ((List.range len).map f).length = len := by simp
    unfold maxLen at hm
    refine ⟨some ad, m, (List.range len).map f, by rw [hlen], by rw [hlen]; omega, by rw [hlen]; omega, fun h1000 => ⟨h1000, fun x hx => ?_, fun i hi' => ?_⟩⟩
    · obtain ⟨i, hi', rfl⟩ := List.mem_map.1 hx
      exact (hf i (by have := List.mem_range.1 hi'; omega)).1
    · rw [hlen] at hi'
      obtain ⟨_, h0, h1, h2⟩ := hf i (by omega)
      obtain ⟨b, off, spot⟩ := ad
      have hspot : spot = none := by
        have := World.cell?_spot (hf 0 (by omega)).2.1
        simpa [Addr.add] using this
      subst hspot
      rw [add_plain] at h0 h1 h2
      rw [add_plain] at h1 h2
      have hlt := cell_lt h0
      have hg : ((List.range len).map f).getD i f30 = f i := by simp [List.getD, hi']
      exact ⟨b, off, rfl, hlt, by rw [hg]; exact ⟨h0, h1, h2⟩⟩

set_option maxRecDepth 100000 in
/-- A slice that came in. -/
theorem fz_open25 {H : Type} {enc : TypeId × Value → H} {W : World} {n : Nat} {v : Value} {y : DataW H × List MemPlace} (h : DataW.trod enc Try.prog W 0 (fun _ => true) true n 25 [v] = some y) :
    ∃ (a : Option Addr) (c : Nat) (xs : List F3), v = .slice a xs.length c ∧ xs.length ≤ 9223372036854775807 ∧ xs.length ≤ c ∧ (xs.length ≤ 1000 → Fz W a xs) := by
  rcases Go.Deep.open_slice Try.underlying25 h with ⟨hcs, _⟩ | ⟨ad, len, cap, m, n', D, Pl, hcs, _, hl, hm, hmm, _, hi⟩
  · simp at hcs
    exact ⟨none, 0, [], by rw [hcs]; rfl, by simp, by simp, fun _ => Fz.nil _ _⟩
  · simp at hcs
    subst hcs
    simp only [if_true] at hmm
    subst hmm
    have each : ∀ i, i < m → ∃ x : F3, x.i64 ∧ W.cell? (ad.add (i * 3)) = some (.int .i64 x.k) ∧ W.cell? ((ad.add (i * 3)).add 1) = some (.int .i64 x.a) ∧ W.cell? ((ad.add (i * 3)).add 2) = some (.int .i64 x.b) := fun i h => by
      obtain ⟨cs', h1, h2⟩ := hi i h
      rw [jcells63] at h1
      obtain ⟨_, hlen, hcell⟩ := World.cells?_some h1
      obtain ⟨xs, k, _, _, _, hxl, hf⟩ := DataW.trod_struct Try.underlying63 h2
      match xs, hxl, cs', hlen with
      | [y0, y1, y2], _, [v0, v1, v2], _ =>
        have g0 := hf 0 _ rfl
        have g1 := hf 1 _ rfl
        have g2 := hf 2 _ rfl
        simp [jcells3] at g0 g1 g2
        obtain ⟨x0, e0, _, w0⟩ := DataW.trod_int Try.underlying3 g0
        obtain ⟨x1, e1, _, w1⟩ := DataW.trod_int Try.underlying3 g1
        obtain ⟨x2, e2, _, w2⟩ := DataW.trod_int Try.underlying3 g2
        simp at e0 e1 e2
        subst e0 e1 e2
        have q0 := hcell 0 (by omega)
        have q1 := hcell 1 (by omega)
        have q2 := hcell 2 (by omega)
        have ea : ∀ a : Addr, a.add 0 = a := fun a => by unfold Addr.add; split <;> simp_all
        rw [ea] at q0
        exact ⟨⟨x0, x1, x2⟩, ⟨int_rng w0, int_rng w1, int_rng w2⟩, by simpa using q0, by simpa using q1, by simpa using q2⟩
    have ech : ∃ f : Nat → F3, ∀ i, i < m → (f i).i64 ∧ W.cell? (ad.add (i * 3)) = some (.int .i64 (f i).k) ∧ W.cell? ((ad.add (i * 3)).add 1) = some (.int .i64 (f i).a) ∧ W.cell? ((ad.add (i * 3)).add 2) = some (.int .i64 (f i).b) :=
      ⟨fun i => if h : i < m then (each i h).choose else f30, fun i h => by simp only [dif_pos h]; exact (each i h).choose_spec⟩
    obtain ⟨f, hf⟩ := ech
    have hlen : ((List.range len).map f).length = len := by simp
    unfold maxLen at hm
    refine ⟨some ad, m, (List.range len).map f, by rw [hlen], by rw [hlen]; omega, by rw [hlen]; omega, fun h1000 => ⟨h1000, fun x hx => ?_, fun i hi' => ?_⟩⟩
    · obtain ⟨i, hi', rfl⟩ := List.mem_map.1 hx
      exact (hf i (by have := List.mem_range.1 hi'; omega)).1
    · rw [hlen] at hi'
      obtain ⟨_, h0, h1, h2⟩ := hf i (by omega)
      obtain ⟨b, off, spot⟩ := ad
      have hspot : spot = none := by
        have := World.cell?_spot (hf 0 (by omega)).2.1
        simpa [Addr.add] using this
      subst hspot
      rw [add_plain] at h0 h1 h2
      rw [add_plain] at h1 h2
      have hlt := cell_lt h0
      have hg : ((List.range len).map f).getD i f30 = f i := by simp [List.getD, hi']
      exact ⟨b, off, rfl, hlt, by rw [hg]; exact ⟨h0, h1, h2⟩⟩

/-- A box in memory, whose presses are read where they are not far too many. -/
structure WiIn (w : World) (a : Option Addr) (c : Nat) (P : List F3) : Prop where
  pz : Pz w a P
  cap : P.length ≤ c
theorem WiIn.below {w w' : World} {a : Option Addr} {c : Nat} {P : List F3} (h : WiIn w a c P) {B : Nat} (hb : Below B w w') (hB : w.heap.size ≤ B) : WiIn w' a c P := ⟨h.pz.below hb hB, h.cap⟩

set_option maxRecDepth 100000 in
/-- A box that came in. -/
theorem wire_open {H : Type} {enc : TypeId × Value → H} {W : World} {b0 : Nat} {v : Value} {d : DataW H} {p : List MemPlace} (hv : Value.okWide Try.prog W .any b0 24 v)
    (h : DataW.Trod enc Try.prog W 0 (fun _ => true) true 24 v d p) : ∃ (L N : Int) (aP : Option Addr) (cP : Nat) (P : List F3) (F : Int), v = .agg #[.int .i64 L, .int .i64 N, .slice aP P.length cP, .int .i64 F] ∧ WiIn W aP cP P := by
  obtain ⟨cs, rfl, hsz⟩ := okWide_struct Try.underlying24 hv
  obtain ⟨fuel, hf⟩ := h
  obtain ⟨ys, n, _, -, _, hlen, hg⟩ := DataW.trod_struct Try.underlying24 hf
  obtain ⟨l⟩ := cs
  have hl2 : l.length = 4 := hsz.trans jcells24
  match l, hl2, ys, hlen with
  | [u0, u1, u2, u3], _, [y0, y1, y2, y3], _ =>
    have t0 := hg 0 _ rfl
    have t1 := hg 1 _ rfl
    have t2 := hg 2 _ rfl
    have t3 := hg 3 _ rfl
    simp [Value.cells, jcells3, jcells22] at t0 t1 t2 t3
    obtain ⟨x0, e0, _, _⟩ := DataW.trod_int Try.underlying3 t0
    obtain ⟨x1, e1, _, _⟩ := DataW.trod_int Try.underlying3 t1
    obtain ⟨ac, cc, cs, rfl, hb, hcap, hc⟩ := fz_open22 t2
    obtain ⟨x3, e3, _, _⟩ := DataW.trod_int Try.underlying3 t3
    simp at e0 e1 e3
    subst e0 e1 e3
    exact ⟨x0, x1, ac, cc, cs, x3, rfl, ⟨hb, hc⟩, hcap⟩
set_option maxRecDepth 100000 in
theorem ask_open27 {H : Type} {enc : TypeId × Value → H} {W : World} {b0 : Nat} {v : Value} {d : DataW H} {p : List MemPlace} (hv : Value.okWide Try.prog W .any b0 27 v)
    (h : DataW.Trod enc Try.prog W 0 (fun _ => true) true 27 v d p) : ∃ x0 x1 : Int, v = .agg #[.int .i64 x0, .int .i64 x1] := by
  obtain ⟨cs, rfl, hsz⟩ := okWide_struct Try.underlying27 hv
  obtain ⟨fuel, hf⟩ := h
  obtain ⟨ys, n, _, -, _, hlen, hg⟩ := DataW.trod_struct Try.underlying27 hf
  obtain ⟨l⟩ := cs
  have hl2 : l.length = 2 := hsz.trans jcells27
  match l, hl2, ys, hlen with
  | [u0, u1], _, [y0, y1], _ =>
    have t0 := hg 0 _ rfl
    have t1 := hg 1 _ rfl
    simp [Value.cells, jcells3] at t0 t1
    obtain ⟨x0, e0, _, _⟩ := DataW.trod_int Try.underlying3 t0
    obtain ⟨x1, e1, _, _⟩ := DataW.trod_int Try.underlying3 t1
    simp at e0 e1
    subst e0 e1
    exact ⟨x0, x1, rfl⟩
set_option maxRecDepth 100000 in
theorem flts_open25 {H : Type} {enc : TypeId × Value → H} {W : World} {b0 : Nat} {v : Value} {d : DataW H} {p : List MemPlace} (hv : Value.okWide Try.prog W .any b0 25 v)
    (h : DataW.Trod enc Try.prog W 0 (fun _ => true) true 25 v d p) : ∃ (a : Option Addr) (c : Nat) (xs : List F3), v = .slice a xs.length c ∧ WiIn W a c xs := by
  obtain ⟨a, n, c, rfl⟩ := okWide_slice Try.underlying25 hv
  obtain ⟨_, h⟩ := h
  obtain ⟨a', c', xs, e, h1, h2, h3⟩ := fz_open25 (v := .slice a n c) (y := (d, p)) h
  exact ⟨a', c', xs, e, ⟨h1, h3⟩, h2⟩
end Go.Proofs.Ytmpihcencnkpbaa
