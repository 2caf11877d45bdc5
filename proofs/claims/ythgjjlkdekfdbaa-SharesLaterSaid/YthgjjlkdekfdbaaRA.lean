import Derived.Test.YthgjjlkdekfdbaaT16
import Derived.Test.YthgjjlkdekfdbaaT17
import Derived.Test.YthgjjlkdekfdbaaRows
import Derived.ProofKit
import Derived.Lib.SmallJoins
import Derived.Deep.SlicePairs
/-! A contract that came in. -/
namespace Go.Proofs.Ythgjjlkdekfdbaa
set_option linter.unusedSimpArgs false
set_option linter.unusedVariables false
open Go.ChangeShapes Go.WideShapes Go.ChangeAt Go.RowKit Go.Joins

theorem jown : ownKnob Try.prog.godebug = none := by kernel_rfl
theorem jlaid : laidOutB Try.prog = true := by kernel_rfl
theorem jcells3 : Try.prog.cellsOf 3 = 1 := by kernel_rfl
theorem jcells22 : Try.prog.cellsOf 22 = 1 := by kernel_rfl
theorem jcells24 : Try.prog.cellsOf 24 = 2 := by kernel_rfl
theorem jcells26 : Try.prog.cellsOf 26 = 3 := by kernel_rfl
theorem jcells56 : Try.prog.cellsOf 56 = 4 := by kernel_rfl
theorem jcells60 : Try.prog.cellsOf 60 = 2 := by kernel_rfl

theorem int_rng {x : Int} (h : (Lit.int .i64 x).wf = true) : -9223372036854775808 ≤ x ∧ x ≤ 9223372036854775807 := by
  have h1 : IntKind.i64.min = -9223372036854775808 := rfl
  have h2 : IntKind.i64.max = 9223372036854775807 := rfl
  simp only [Lit.wf, Bool.and_eq_true, decide_eq_true_eq, h1, h2] at h
  exact h

set_option maxRecDepth 100000 in
/-- A slice of clauses that came in. -/
theorem clz_open22 {H : Type} {enc : TypeId × Value → H} {W : World} {n : Nat} {v : Value} {y : DataW H × List MemPlace} (h : DataW.trod enc Try.prog W 0 (fun _ => true) true n 22 [v] = some y) :
    ∃ (a : Option Addr) (c : Nat) (xs : List Cl), v = .slice a xs.length c ∧ xs.length ≤ 9223372036854775807 ∧ xs.length ≤ c ∧ (xs.length ≤ 1000 → Clz W a xs) := by
  rcases Go.Deep.open_slice Try.underlying22 h with ⟨hcs, _⟩ | ⟨ad, len, cap, m, n', D, Pl, hcs, _, hl, hm, hmm, _, hi⟩
  · simp at hcs
    exact ⟨none, 0, [], by rw [hcs]; rfl, by simp, by simp, fun _ => Clz.nil _ _⟩
  · simp at hcs
    subst hcs
    simp only [if_true] at hmm
    subst hmm
    have each : ∀ i, i < m → ∃ x : Cl, x.i64 ∧ W.cell? (ad.add (i * 4)) = some (.int .i64 x.k) ∧ W.cell? ((ad.add (i * 4)).add 1) = some (.int .i64 x.c) ∧ W.cell? ((ad.add (i * 4)).add 2) = some (.int .i64 x.p) ∧ W.cell? ((ad.add (i * 4)).add 3) = some (.int .i64 x.m) := fun i h => by
      obtain ⟨cs', h1, h2⟩ := hi i h
      rw [jcells56] at h1
      obtain ⟨_, hlen, hcell⟩ := World.cells?_some h1
      obtain ⟨xs, k, _, _, _, hxl, hf⟩ := DataW.trod_struct Try.underlying56 h2
      match xs, hxl, cs', hlen with
      | [y0, y1, y2, y3], _, [v0, v1, v2, v3], _ =>
        have g0 := hf 0 _ rfl
        have g1 := hf 1 _ rfl
        have g2 := hf 2 _ rfl
        have g3 := hf 3 _ rfl
        simp [jcells3] at g0 g1 g2 g3
        obtain ⟨x0, e0, _, w0⟩ := DataW.trod_int Try.underlying3 g0
        obtain ⟨x1, e1, _, w1⟩ := DataW.trod_int Try.underlying3 g1
        obtain ⟨x2, e2, _, w2⟩ := DataW.trod_int Try.underlying3 g2
        obtain ⟨x3, e3, _, w3⟩ := DataW.trod_int Try.underlying3 g3
        simp at e0 e1 e2 e3
        subst e0 e1 e2 e3
        have q0 := hcell 0 (by omega)
        have q1 := hcell 1 (by omega)
        have q2 := hcell 2 (by omega)
        have q3 := hcell 3 (by omega)
        have ea : ∀ a : Addr, a.add 0 = a := fun a => by unfold Addr.add; split <;> simp_all
        rw [ea] at q0
        exact ⟨⟨x0, x1, x2, x3⟩, ⟨int_rng w0, int_rng w1, int_rng w2, int_rng w3⟩, by simpa using q0, by simpa using q1, by simpa using q2, by simpa using q3⟩
    have ech : ∃ f : Nat → Cl, ∀ i, i < m → (f i).i64 ∧ W.cell? (ad.add (i * 4)) = some (.int .i64 (f i).k) ∧ W.cell? ((ad.add (i * 4)).add 1) = some (.int .i64 (f i).c) ∧ W.cell? ((ad.add (i * 4)).add 2) = some (.int .i64 (f i).p) ∧ W.cell? ((ad.add (i * 4)).add 3) = some (.int .i64 (f i).m) :=
      ⟨fun i => if h : i < m then (each i h).choose else cl0, fun i h => by simp only [dif_pos h]; exact (each i h).choose_spec⟩
    obtain ⟨f, hf⟩ := ech
    have hlen : ((List.range len).map f).length = len := by simp
    unfold maxLen at hm
    refine ⟨some ad, m, (List.range len).map f, by rw [hlen], by rw [hlen]; omega, by rw [hlen]; omega, fun h1000 => ⟨h1000, fun x hx => ?_, fun i hi' => ?_⟩⟩
    · obtain ⟨i, hi', rfl⟩ := List.mem_map.1 hx
      exact (hf i (by have := List.mem_range.1 hi'; omega)).1
    · rw [hlen] at hi'
      obtain ⟨_, h0, h1, h2, h3⟩ := hf i (by omega)
      obtain ⟨b, off, spot⟩ := ad
      have hspot : spot = none := by
        have := World.cell?_spot (hf 0 (by omega)).2.1
        simpa [Addr.add] using this
      subst hspot
      rw [add_plain] at h0 h1 h2 h3
      rw [add_plain] at h1 h2 h3
      have hlt := cell_lt h0
      have hg : ((List.range len).map f).getD i cl0 = f i := by simp [List.getD, hi']
      exact ⟨b, off, rfl, hlt, by rw [hg]; exact ⟨h0, h1, h2, h3⟩⟩

/-- A contract in memory, whose clauses are read where they are not far too many. -/
structure ShIn (w : World) (a : Option Addr) (c : Nat) (cs : List Cl) : Prop where
  l : cs.length ≤ 9223372036854775807
  cap : cs.length ≤ c
  cl : cs.length ≤ 1000 → Clz w a cs
theorem ShIn.below {w w' : World} {a : Option Addr} {c : Nat} {xs : List Cl} (h : ShIn w a c xs) {B : Nat} (hb : Below B w w') (hB : w.heap.size ≤ B) : ShIn w' a c xs := ⟨h.l, h.cap, fun hk => (h.cl hk).below hb hB⟩

set_option maxRecDepth 100000 in
/-- A contract that came in. -/
theorem share_open {H : Type} {enc : TypeId × Value → H} {W : World} {b0 : Nat} {v : Value} {d : DataW H} {p : List MemPlace} (hv : Value.okWide Try.prog W .any b0 24 v)
    (h : DataW.Trod enc Try.prog W 0 (fun _ => true) true 24 v d p) : ∃ (ac : Option Addr) (cc : Nat) (cs : List Cl) (L : Int), v = .agg #[.slice ac cs.length cc, .int .i64 L] ∧ ShIn W ac cc cs := by
  obtain ⟨cs, rfl, hsz⟩ := okWide_struct Try.underlying24 hv
  obtain ⟨fuel, hf⟩ := h
  obtain ⟨ys, n, _, -, _, hlen, hg⟩ := DataW.trod_struct Try.underlying24 hf
  obtain ⟨l⟩ := cs
  have hl2 : l.length = 2 := hsz.trans jcells24
  match l, hl2, ys, hlen with
  | [u0, u1], _, [y0, y1], _ =>
    have t0 := hg 0 _ rfl
    have t1 := hg 1 _ rfl
    simp [Value.cells, jcells22] at t0
    simp [Value.cells, jcells3] at t1
    obtain ⟨ac, cc, cs, rfl, hb, hcap, hc⟩ := clz_open22 t0
    obtain ⟨x1, e1, _, _⟩ := DataW.trod_int Try.underlying3 t1
    simp at e1
    subst e1
    exact ⟨ac, cc, cs, x1, rfl, hb, hcap, hc⟩
set_option maxRecDepth 100000 in
theorem ask_open26 {H : Type} {enc : TypeId × Value → H} {W : World} {b0 : Nat} {v : Value} {d : DataW H} {p : List MemPlace} (hv : Value.okWide Try.prog W .any b0 26 v)
    (h : DataW.Trod enc Try.prog W 0 (fun _ => true) true 26 v d p) : ∃ x0 x1 x2 : Int, v = .agg #[.int .i64 x0, .int .i64 x1, .int .i64 x2] := by
  obtain ⟨cs, rfl, hsz⟩ := okWide_struct Try.underlying26 hv
  obtain ⟨fuel, hf⟩ := h
  obtain ⟨ys, n, _, -, _, hlen, hg⟩ := DataW.trod_struct Try.underlying26 hf
  obtain ⟨l⟩ := cs
  have hl2 : l.length = 3 := hsz.trans jcells26
  match l, hl2, ys, hlen with
  | [u0, u1, u2], _, [y0, y1, y2], _ =>
    have t0 := hg 0 _ rfl
    have t1 := hg 1 _ rfl
    have t2 := hg 2 _ rfl
    simp [Value.cells, jcells3] at t0 t1 t2
    obtain ⟨x0, e0, _, _⟩ := DataW.trod_int Try.underlying3 t0
    obtain ⟨x1, e1, _, _⟩ := DataW.trod_int Try.underlying3 t1
    obtain ⟨x2, e2, _, _⟩ := DataW.trod_int Try.underlying3 t2
    simp at e0 e1 e2
    subst e0 e1 e2
    exact ⟨x0, x1, x2, rfl⟩
set_option maxRecDepth 100000 in
theorem more_open60 {H : Type} {enc : TypeId × Value → H} {W : World} {b0 : Nat} {v : Value} {d : DataW H} {p : List MemPlace} (hv : Value.okWide Try.prog W .any b0 60 v)
    (h : DataW.Trod enc Try.prog W 0 (fun _ => true) true 60 v d p) : ∃ x0 x1 : Int, v = .agg #[.int .i64 x0, .int .i64 x1] := by
  obtain ⟨cs, rfl, hsz⟩ := okWide_struct Try.underlying60 hv
  obtain ⟨fuel, hf⟩ := h
  obtain ⟨ys, n, _, -, _, hlen, hg⟩ := DataW.trod_struct Try.underlying60 hf
  obtain ⟨l⟩ := cs
  have hl2 : l.length = 2 := hsz.trans jcells60
  match l, hl2, ys, hlen with
  | [u0, u1], _, [y0, y1], _ =>
    have t0 := hg 0 _ rfl
    have t1 := hg 1 _ rfl
    simp [Value.cells, jcells3] at t0 t1
    obtain ⟨x0, e0, _, _⟩ := DataW.trod_int Try.underlying3 t0
    obtain ⟨x1, e1, _, _⟩ := DataW.trod_int Try.underlying3 t1
    simp at e0 e1
    subst e0 e1
    exact ⟨x0, x1, rfl⟩
set_option maxRecDepth 100000 in
/-- A slice of ints that came in. -/
theorem ints_open0 {H : Type} {enc : TypeId × Value → H} {W : World} {n : Nat} {v : Value} {y : DataW H × List MemPlace} (h : DataW.trod enc Try.prog W 0 (fun _ => true) true n 41 [v] = some y) : ∃ a c xs, v = .slice a xs.length c ∧ Ints W a xs := by
  rcases open_ints Try.underlying41 Try.underlying3 jcells3 h with ⟨hcs, _⟩ | ⟨a, len, cap, zs, hcs, _, hl, hm, hz, _, hcell, hw⟩
  · simp at hcs
    exact ⟨none, 0, [], by rw [hcs]; rfl, by simp, by simp, fun i hi => by simp at hi⟩
  · simp at hcs
    simp only [if_true] at hz
    have hlen : (zs.take len).length = len := by simp; omega
    unfold maxLen at hm
    refine ⟨some a, cap, zs.take len, by rw [hlen, hcs], by omega, fun x hx => ?_, fun i hi => ?_⟩
    · have := hw x (List.mem_of_mem_take hx)
      have h1 : IntKind.i64.min = -9223372036854775808 := rfl
      have h2 : IntKind.i64.max = 9223372036854775807 := rfl
      simp only [Lit.wf, Bool.and_eq_true, decide_eq_true_eq, h1, h2] at this
      omega
    · obtain ⟨b, off, spot⟩ := a
      have hi' : i < zs.length := by simp at hi; omega
      have hspot : spot = none := by simpa [Addr.add] using World.cell?_spot (hcell 0 (by omega))
      subst hspot
      have hc := hcell i hi'
      rw [add_plain] at hc
      have hlt := cell_lt hc
      refine ⟨b, off, rfl, hlt, ?_⟩
      rw [hc]
      simp [List.getD, show i < len by simp at hi; omega]

theorem ints_open41 {H : Type} {enc : TypeId × Value → H} {W : World} {b0 : Nat} {v : Value} {d : DataW H} {p : List MemPlace} (hv : Value.okWide Try.prog W .any b0 41 v)
    (h : DataW.Trod enc Try.prog W 0 (fun _ => true) true 41 v d p) : ∃ a c xs, v = .slice a xs.length c ∧ Ints W a xs := by
  obtain ⟨a, n, c, rfl⟩ := okWide_slice Try.underlying41 hv
  obtain ⟨_, h⟩ := h
  exact ints_open0 (v := .slice a n c) (y := (d, p)) h
end Go.Proofs.Ythgjjlkdekfdbaa
