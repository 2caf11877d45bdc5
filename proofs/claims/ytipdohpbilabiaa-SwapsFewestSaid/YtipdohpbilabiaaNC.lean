import Derived.Test.YtipdohpbilabiaaNB
/-! A copy that is changed in some places. -/
namespace Go.Proofs.Ytipdohpbilabiaa
set_option linter.unusedSimpArgs false
set_option linter.unusedVariables false
open Go Go.RowKit

/-- A cell of an own row is set. -/
theorem own_set {w : World} {base : Nat} {e : TypeId} {size n c g j : Nat} {xs : List Value} {v : Value} (h : w.ownsRow base e size (.slice (some ⟨g, 0, none⟩) n c) n xs) (hj : j < n * size) : (w.setCell ⟨g, j, none⟩ v).ownsRow base e size (.slice (some ⟨g, 0, none⟩) n c) n (xs.set j v) := by
  refine ⟨by rw [List.length_set]; exact h.1, ?_⟩
  rcases h.2 with ⟨h', _⟩ | ⟨g', cap, cur, h1, h2, h3, h4, h5, h6, h7⟩
  · simp at h'
  · simp only [Value.slice.injEq, Option.some.injEq, Addr.mk.injEq, and_true, true_and] at h1
    obtain ⟨rfl, rfl⟩ := h1
    refine .inr ⟨g, c, cur.setIfInBounds j v, rfl, h2, ?_, h4, h5, by rw [Array.size_setIfInBounds]; exact h6, ?_⟩
    · have hb : Bx w g cur e := h3
      exact hb.set j v
    · rw [← h7, Array.toList_setIfInBounds, List.take_set]
theorem own_free {w : World} {base : Nat} {e : TypeId} {size n c g : Nat} {xs : List Value} (h : w.ownsRow base e size (.slice (some ⟨g, 0, none⟩) n c) n xs) (j : Nat) : w.frozen? ⟨g, j, none⟩ = false := by
  rcases h.2 with ⟨h', _⟩ | ⟨g', cap, cur, h1, h2, h3, h4⟩
  · simp at h'
  · simp only [Value.slice.injEq, Option.some.injEq, Addr.mk.injEq, and_true, true_and] at h1
    obtain ⟨rfl, rfl⟩ := h1
    have hb : Bx w g cur e := h3
    exact hb.free j
theorem own_cell {w : World} {base : Nat} {e : TypeId} {size n c g : Nat} {xs : List Value} (h : w.ownsRow base e size (.slice (some ⟨g, 0, none⟩) n c) n xs) (j : Nat) {v : Value} (hj : xs[j]? = some v) : w.cell? ⟨g, j, none⟩ = some v := by
  have hl : j < xs.length := (List.getElem?_eq_some_iff.1 hj).1
  have := h.cellAt j (by rw [← h.1]; exact hl)
  rw [this]; exact hj
theorem map_set_int (xs : List Int) (j : Nat) (x : Int) : (xs.map (Value.int .i64)).set j (.int .i64 x) = (xs.set j x).map (Value.int .i64) := by rw [List.map_set]
/-- A number of a row in a row of rows is set. -/
theorem Rc.setAt {w : World} {own : Option Nat} {j : Nat} {x : Int} (hx : -9223372036854775808 ≤ x ∧ x ≤ 9223372036854775807) : ∀ {vs : List Value} {LL : List (List Int)} {B T : Nat} (_ : Rc w own B T vs LL) (t : Nat) (ks : List Int), LL[t]? = some ks → j < ks.length → ks.length ≤ 1000 →
    ∃ g c, vs[t]? = some (.slice (some ⟨g, 0, none⟩) ks.length c) ∧ B ≤ g ∧ g < T ∧ g < w.heap.size ∧ own ≠ some g ∧ w.cell? ⟨g, j, none⟩ = some (.int .i64 (ks.getD j 0)) ∧ w.frozen? ⟨g, j, none⟩ = false ∧ (∃ cur, w.heap[g]? = some (.cells cur 3 (0, 0))) ∧ Rc (w.setCell ⟨g, j, none⟩ (.int .i64 x)) own B T vs (LL.set t (ks.set j x))
  | [], [], _, _, _, t, ks, hi, _, _ => by simp at hi
  | v :: vs, k0 :: LL, B, T, ⟨M, hm, h1, h2⟩, 0, ks, hi, hj, hl => by
    simp at hi; subst hi
    obtain ⟨h0, a, c, rfl, hI, hb⟩ := h1
    obtain ⟨g, cap, e⟩ := Go.Joins.ownsRow_form h0 (by omega)
    simp only [Value.slice.injEq] at e
    obtain ⟨rfl, _, rfl⟩ := e
    obtain ⟨b1, b2, b3, b4⟩ := hb _ rfl
    have hML := h2.le
    refine ⟨g, c, rfl, b1, by show g < T; have : g < M := b2; omega, b3, b4, own_cell h0 j (by rw [List.getElem?_map, List.getElem?_eq_getElem hj]; simp [List.getD, hj]), own_free h0 j, own_cells h0 g rfl, M, hm, ⟨?_, some ⟨g, 0, none⟩, c, by rw [List.length_set], ?_, fun ad e => ?_⟩, ?_⟩
    · have := own_set (v := .int .i64 x) h0 (j := j) (by omega)
      rw [map_set_int] at this
      rw [List.length_set]; exact this
    · have hr := own_set (v := .int .i64 x) h0 (j := j) (by omega)
      rw [map_set_int] at hr
      have hr' : (w.setCell ⟨g, j, none⟩ (.int .i64 x)).ownsRow B 3 1 (.slice (some ⟨g, 0, none⟩) k0.length c) (k0.set j x).length ((k0.set j x).map (Value.int .i64)) := by rw [List.length_set]; exact hr
      obtain ⟨a', c', e', hI'⟩ := Ints.of_own hr' (by rw [List.length_set]; omega) (fun y hy => by
        rcases List.mem_or_eq_of_mem_set hy with h | h
        · exact hI.rng y h
        · rw [h]; exact hx)
      simp only [Value.slice.injEq] at e'
      obtain ⟨rfl, _, rfl⟩ := e'
      exact hI'
    · cases e
      exact ⟨b1, b2, by simpa [World.setCell] using b3, b4⟩
    · exact h2.out (gset _ _ _) (.inl b2)
  | v :: vs, k0 :: LL, B, T, ⟨M, hm, h1, h2⟩, t + 1, ks, hi, hj, hl => by
    obtain ⟨g, c, e1, e2, e3, e4, e5, e6, e7, e8, e9⟩ := Rc.setAt hx h2 t ks (by simpa using hi) hj hl
    refine ⟨g, c, by simpa using e1, Nat.le_trans hm e2, e3, e4, e5, e6, e7, e8, M, hm, h1.out (.inr e2) (gset _ _ _), by simpa using e9⟩
  | [], _ :: _, _, _, h, _, _, _, _, _ => h.elim
  | _ :: _, [], _, _, h, _, _, _, _, _ => h.elim

/-- The stock of a copy is set. -/
theorem CMem.setStock {w : World} {B : Nat} {v2 v9 v13 : Value} {a6 : Option Addr} {c6 : Nat} {X : Sw} (h : CMem w B v2 (.slice a6 X.st.length c6) v9 v13 X) {t : Nat} (ht : t < X.st.length) (x : Int) :
    ∃ g, a6 = some ⟨g, 0, none⟩ ∧ B ≤ g ∧ g < w.heap.size ∧ w.cell? ⟨g, t, none⟩ = some (.int .i64 (X.st.getD t 0)) ∧ w.frozen? ⟨g, t, none⟩ = false ∧ (∃ cur, w.heap[g]? = some (.cells cur 3 (0, 0))) ∧ CMem (w.setCell ⟨g, t, none⟩ (.int .i64 x)) B v2 (.slice a6 X.st.length c6) v9 v13 { X with st := X.st.set t x } := by
  obtain ⟨T6, T9, ⟨T2, q1, q2, q3, q4, q5⟩, g9, g13, h13, hB⟩ := h.ex
  obtain ⟨g, cap, e⟩ := Go.Joins.ownsRow_form q4 (by omega)
  simp only [Value.slice.injEq] at e
  obtain ⟨rfl, _, rfl⟩ := e
  obtain ⟨p1, p2⟩ := q5 (by omega) g rfl
  have hgB := own_ge2 q4 g rfl
  have hgs := (q4.lt g rfl).2
  have hr := own_set (v := .int .i64 x) q4 (j := t) (by omega)
  rw [map_set_int] at hr
  refine ⟨g, rfl, hgB, hgs, own_cell q4 t (by rw [List.getElem?_map, List.getElem?_eq_getElem ht]; simp [List.getD, ht]), own_free q4 t, own_cells q4 g rfl, ⟨T6, T9, ⟨T2, q1, by simpa [World.setCell] using q2, q3.out (.inr p1) (gset _ _ _), ?_, ?_⟩, g9.out (.inl p2) (gset _ _ _), ?_, h13, hB⟩⟩
  · show World.ownsRow _ _ _ _ _ (X.st.set t x).length _
    rw [List.length_set]; exact hr
  · intro _ q hq; exact q5 (by omega) q hq
  · rcases Nat.eq_zero_or_pos X.ks.length with h0 | h0
    · refine own_keep g13 (gset _ _ _) (fun q hq e => ?_)
      have e' : g = q := by simpa using e
      subst e'
      obtain ⟨cur1, z1⟩ := own_cells q4 g rfl
      obtain ⟨cur2, z2⟩ := own_cells g13 g hq
      rw [z1] at z2; cases z2
    · refine own_keep g13 (gset _ _ _) (fun q hq e => ?_)
      have e' : g = q := by simpa using e
      have h1 := h13 h0 q hq
      have h2 : T6 ≤ T9 := by obtain ⟨_, _, _, vs, _, _, _, h3⟩ := g9; exact h3.le
      omega
/-- An earning of a copy is set. -/
theorem CMem.setEarn {w : World} {B : Nat} {v2 v6 v13 : Value} {a9 : Option Addr} {c9 : Nat} {X : Sw} (h : CMem w B v2 v6 (.slice a9 X.er.length c9) v13 X) {t j : Nat} {ks : List Int} (ht : X.er[t]? = some ks) (hj : j < ks.length) (hl : ks.length ≤ 1000) (x : Int) (hx : -9223372036854775808 ≤ x ∧ x ≤ 9223372036854775807) :
    ∃ g0 g c, a9 = some ⟨g0, 0, none⟩ ∧ w.cell? ⟨g0, t, none⟩ = some (.slice (some ⟨g, 0, none⟩) ks.length c) ∧ B ≤ g ∧ g < w.heap.size ∧ w.cell? ⟨g, j, none⟩ = some (.int .i64 (ks.getD j 0)) ∧ w.frozen? ⟨g, j, none⟩ = false ∧ (∃ cur, w.heap[g]? = some (.cells cur 3 (0, 0))) ∧ CMem (w.setCell ⟨g, j, none⟩ (.int .i64 x)) B v2 v6 (.slice a9 X.er.length c9) v13 { X with er := X.er.set t (ks.set j x) } := by
  obtain ⟨T6, T9, h2, ⟨w1, a, c, vs, e, w2, w3, w4⟩, g13, h13, hB⟩ := h.ex
  cases e
  have htl : t < X.er.length := (List.getElem?_eq_some_iff.1 ht).1
  obtain ⟨g0, cap, e0⟩ := Go.Joins.ownsRow_form w2 (by omega)
  simp only [Value.slice.injEq] at e0
  obtain ⟨rfl, _, rfl⟩ := e0
  obtain ⟨g, c', e1, e2, e3, e4, e5, e6, e7, e8, e9⟩ := Rc.setAt hx w4 t ks ht hj hl
  obtain ⟨T2, q1, q2, q3, q4, q5⟩ := h2.ex
  refine ⟨g0, g, c', rfl, own_cell w2 t e1, by omega, e4, e6, e7, e8, ⟨T6, T9, ⟨T2, q1, by simpa [World.setCell] using q2, q3.out (.inr (by show T2 ≤ g; omega)) (gset _ _ _), ?_, q5⟩, ⟨by simpa [World.setCell] using w1, some ⟨g0, 0, none⟩, c9, vs, by show _ = Value.slice _ (X.er.set t (ks.set j x)).length _; rw [List.length_set], ?_, w3, e9⟩, ?_, h13, hB⟩⟩
  · rcases Nat.eq_zero_or_pos X.st.length with h0 | h0
    · rw [h0] at q4 ⊢
      have : X.st = [] := List.eq_nil_of_length_eq_zero h0
      rw [this] at q4 ⊢
      refine ⟨rfl, ?_⟩
      rcases q4.2 with h' | ⟨g', cap', cur, h1, h2', h3, h4, h5, h6, h7⟩
      · exact .inl h'
      · by_cases eg : g' = g
        · subst eg
          have hb : Bx w g' cur 3 := h3
          exact .inr ⟨g', cap', cur.setIfInBounds j (.int .i64 x), h1, h2', hb.set j _, h4, h5, by rw [Array.size_setIfInBounds]; exact h6, by simp⟩
        · have hb : Bx w g' cur 3 := h3
          exact .inr ⟨g', cap', cur, h1, h2', hb.other (by exact eg) _, h4, h5, h6, h7⟩
    · refine own_keep q4 (gset _ _ _) (fun q hq e => ?_)
      have e' : g = q := by simpa using e
      have := q5 h0 q hq
      omega
  · show World.ownsRow _ _ _ _ _ (X.er.set t (ks.set j x)).length _
    rw [List.length_set]
    exact own_keep w2 (gset _ _ _) (fun q hq e => by
      have e' : g = q := by simpa using e
      exact e5 (by rw [e']; exact hq))
  · refine own_keep g13 (gset _ _ _) (fun q hq e => ?_)
    have e' : g = q := by simpa using e
    subst e'
    rcases Nat.eq_zero_or_pos X.ks.length with h0 | h0
    · obtain ⟨cur2, z2⟩ := own_cells g13 g hq
      have z1 : ∃ cur, w.heap[g]? = some (.cells cur 3 (0, 0)) := by
        obtain ⟨x', B', T', hx', hls, _⟩ := w4.at t ks ht
        rw [e1] at hx'
        cases hx'
        exact own_cells hls.1 g rfl
      obtain ⟨cur1, z1⟩ := z1
      rw [z1] at z2; cases z2
    · have := h13 h0 g hq
      omega
/-- Fewer keeps. -/
theorem CMem.takeKeeps {w : World} {B : Nat} {v2 v6 v9 : Value} {a13 : Option Addr} {c13 : Nat} {X : Sw} (h : CMem w B v2 v6 v9 (.slice a13 X.ks.length c13) X) {m : Nat} (hm : m ≤ X.ks.length) : CMem w B v2 v6 v9 (.slice a13 m c13) { X with ks := X.ks.take m } := by
  obtain ⟨T6, T9, h2, g9, g13, h13, hB⟩ := h.ex
  obtain ⟨T2, q1, q2, q3, q4, q5⟩ := h2.ex
  refine ⟨T6, T9, ⟨T2, q1, q2, q3, q4, q5⟩, g9, ?_, fun h0 q hq => h13 (by have : 0 < (X.ks.take m).length := h0; rw [List.length_take] at this; omega) q (by
    cases a13 with
    | none => simp [Value.ownBlock] at hq
    | some ad => exact hq), hB⟩
  have e : (X.ks.take m).length = m := by rw [List.length_take]; omega
  show World.ownsRow _ _ _ _ _ (X.ks.take m).length (pcells (X.ks.take m))
  rw [e]
  refine ⟨by rw [pcells_len, e], ?_⟩
  rcases g13.2 with ⟨h', h0⟩ | ⟨g', cap', cur, h1, h2', h3, h4, h5, h6, h7⟩
  · simp only [Value.slice.injEq] at h'
    obtain ⟨rfl, _, rfl⟩ := h'
    exact .inl ⟨by rw [show m = 0 by omega], by omega⟩
  · simp only [Value.slice.injEq] at h1
    obtain ⟨rfl, _, rfl⟩ := h1
    refine .inr ⟨g', c13, cur, rfl, h2', h3, by omega, h5, h6, ?_⟩
    have e2 : pcells X.ks = pcells (X.ks.take m) ++ pcells (X.ks.drop m) := by rw [← pcells_app, List.take_append_drop]
    have e3 : cur.toList.take (m * 2) = (cur.toList.take (X.ks.length * 2)).take (m * 2) := by rw [List.take_take, Nat.min_eq_left (by omega)]
    rw [e3, h7, e2]
    have hl : (pcells (X.ks.take m)).length = m * 2 := by rw [pcells_len, e]
    rw [← hl, List.take_left]
/-- More changes (no memory). -/
theorem CMem.ch {w : World} {B : Nat} {v2 v6 v9 v13 : Value} {X : Sw} (h : CMem w B v2 v6 v9 v13 X) (y : Int) : CMem w B v2 v6 v9 v13 { X with ch := y } := by
  obtain ⟨T6, T9, ⟨T2, q1, q2, q3, q4, q5⟩, g9, g13, h13, hB⟩ := h.ex
  exact ⟨T6, T9, ⟨T2, q1, q2, q3, q4, q5⟩, g9, g13, h13, hB⟩
end Go.Proofs.Ytipdohpbilabiaa
