import Derived.Test.YtmpihcencnkpbaaM1
/-! Rows of lists of faults: lists that lie in rows of faults are never met by a store into a row of lists. -/
namespace Go.Proofs.Ytmpihcencnkpbaa
set_option linter.unusedSimpArgs false
set_option linter.unusedVariables false
open Go Go.RowKit

theorem own_keep {w w' : World} {base size : Nat} {e : TypeId} {v : Value} {n : Nat} {xs : List Value} {r : Option Nat} (h : w.ownsRow base e size v n xs) (hg : w.grownBy w' r) (hne : ∀ k, v.ownBlock = some k → r ≠ some k) : w'.ownsRow base e size v n xs := by
  refine h.kept hg ?_
  cases hv : v.ownBlock with
  | none => exact .inl rfl
  | some k => exact .inr fun e => hne k hv e.symm
theorem own_ty {w : World} {base size : Nat} {e : TypeId} {v : Value} {n : Nat} {xs : List Value} (h : w.ownsRow base e size v n xs) : ∀ b, v.ownBlock = some b → ∃ vs z, w.heap[b]? = some (.cells vs e z) := by
  intro b hb
  rcases h.2 with ⟨h', _⟩ | ⟨g, cap, cur, h', _, hg, _⟩
  · rw [h'] at hb; simp [Value.ownBlock] at hb
  · rw [h'] at hb; simp [Value.ownBlock] at hb; subst hb; exact ⟨_, _, hg⟩
theorem own_cap {w : World} {base size : Nat} {e : TypeId} {a : Option Addr} {c n : Nat} {xs : List Value} (h : w.ownsRow base e size (.slice a n c) n xs) : n ≤ c := by
  rcases h.2 with ⟨h', h0⟩ | ⟨g, cap, cur, h', _, _, h1, _⟩
  · omega
  · simp only [Value.slice.injEq] at h'; omega
theorem Cls.gro {w w' : World} {r : Option Nat} {a : Option Addr} {vs : List Value} (h : Cls w a vs) (hg : w.grownBy w' r) (hne : ∀ ad, a = some ad → r ≠ some ad.block) : Cls w' a vs := fun j u hj => by
  obtain ⟨b, off, ha, hb, hc⟩ := h j u hj
  refine ⟨b, off, ha, Nat.lt_of_lt_of_le hb hg.size, ?_⟩
  have hk := hg.block b hb (fun e => hne _ ha (by first | exact e | exact e.symm))
  rw [← hc]
  unfold World.cell?
  simp only [hk]
theorem Cls.of_own2 {w : World} {base : Nat} {t : TypeId} {a : Option Addr} {n c : Nat} {xs : List Value} (h : w.ownsRow base t 1 (.slice a n c) n xs) : Cls w a xs := fun j u hj => by
  have hlen : xs.length = n * 1 := h.1
  have hj2 : j < xs.length := by
    rcases Nat.lt_or_ge j xs.length with hl | hl
    · exact hl
    · rw [List.getElem?_eq_none hl] at hj; cases hj
  obtain ⟨g, cap, e⟩ := Go.Joins.ownsRow_form h (by omega)
  simp only [Value.slice.injEq] at e
  obtain ⟨rfl, _, rfl⟩ := e
  have hc := h.cellAt j (by omega)
  exact ⟨g, 0, rfl, (h.lt g rfl).2, by rw [Nat.zero_add, hc]; exact hj⟩

/-- A slice that reads as faults, in a row of faults. -/
def Fy (w : World) (a : Option Addr) (s : List F3) : Prop := Fz w a s ∧ ∀ ad, a = some ad → ∃ vs z, w.heap[ad.block]? = some (.cells vs 63 z)
theorem Fy.nil (w : World) : Fy w none [] := ⟨Fz.nil _ _, fun ad e => by cases e⟩
theorem heap_lt {w : World} {b : Nat} {o : Obj} (h : w.heap[b]? = some o) : b < w.heap.size := (Array.getElem?_eq_some_iff.1 h).1
theorem Fy.below {w w' : World} {a : Option Addr} {s : List F3} (h : Fy w a s) {B : Nat} (hb : Below B w w') (hB : w.heap.size ≤ B) : Fy w' a s :=
  ⟨h.1.below hb hB, fun ad e => by
    obtain ⟨vs, z, hh⟩ := h.2 ad e
    exact ⟨vs, z, by rw [hb.block _ (Nat.lt_of_lt_of_le (heap_lt hh) hB)]; exact hh⟩⟩
/-- What is written is new, or no row of faults. -/
def Oth (w : World) (r : Option Nat) : Prop := ∀ b, r = some b → w.heap.size ≤ b ∨ ∃ vs z, w.heap[b]? = some (.cells vs 25 z)
theorem Oth.of_own {w : World} {base n : Nat} {v : Value} {xs : List Value} (h : w.ownsRow base 25 1 v n xs) : Oth w v.ownBlock := fun b hb => .inr (own_ty h b hb)
theorem Oth.back {w w1 : World} {r : Option Nat} (h : Oth w1 r) (hb : Below w.heap.size w w1) : Oth w r := fun b e => by
  rcases h b e with h' | ⟨vs, z, h'⟩
  · exact .inl (by have := hb.size; omega)
  · rcases Nat.lt_or_ge b w.heap.size with hl | hl
    · exact .inr ⟨vs, z, by rw [← hb.block b hl]; exact h'⟩
    · exact .inl hl
theorem Fy.gro {w w' : World} {r : Option Nat} {a : Option Addr} {s : List F3} (h : Fy w a s) (hg : w.grownBy w' r) (ho : Oth w r) : Fy w' a s := by
  have hne : ∀ ad, a = some ad → r ≠ some ad.block := fun ad e e2 => by
    obtain ⟨vs, z, hh⟩ := h.2 ad e
    rcases ho _ e2 with h' | ⟨vs', z', h'⟩
    · have := heap_lt hh; omega
    · rw [h'] at hh; simp at hh
  exact ⟨h.1.gro hg hne, fun ad e => by
    obtain ⟨vs, z, hh⟩ := h.2 ad e
    exact ⟨vs, z, by rw [hg.block _ (heap_lt hh) (fun e2 => hne ad e (by first | exact e2 | exact e2.symm))]; exact hh⟩⟩
theorem Fy.of_own {w : World} {base : Nat} {a : Option Addr} {c : Nat} {xs : List F3} (h : w.ownsRow base 63 3 (.slice a xs.length c) xs.length (fcells xs)) (h1 : xs.length ≤ 1000) (h2 : ∀ x ∈ xs, x.i64) : Fy w a xs := by
  obtain ⟨a', c', e, hf, _⟩ := Fz.of_own h h1 h2
  simp only [Value.slice.injEq, true_and] at e
  obtain ⟨rfl, rfl⟩ := e
  refine ⟨hf, fun ad e => ?_⟩
  subst e
  exact own_ty h ad.block (by simp [Value.ownBlock])
/-- Cells that read as lists of faults. -/
def Rws (w : World) (vs : List Value) (SS : List (List F3)) : Prop :=
  vs.length = SS.length ∧ ∀ (i : Nat) (s : List F3), SS[i]? = some s → ∃ (a : Option Addr) (c : Nat), vs[i]? = some (Value.slice a s.length c) ∧ s.length ≤ c ∧ Fy w a s
theorem Rws.nil (w : World) : Rws w [] [] := ⟨rfl, fun i s h => by simp at h⟩
theorem Rws.map {w w' : World} {vs : List Value} {SS : List (List F3)} (h : Rws w vs SS) (hf : ∀ a s, Fy w a s → Fy w' a s) : Rws w' vs SS :=
  ⟨h.1, fun i s hi => by
    obtain ⟨a, c, h1, h2, h3⟩ := h.2 i s hi
    exact ⟨a, c, h1, h2, hf a s h3⟩⟩
theorem Rws.below {w w' : World} {vs : List Value} {SS : List (List F3)} (h : Rws w vs SS) {B : Nat} (hb : Below B w w') (hB : w.heap.size ≤ B) : Rws w' vs SS := h.map fun _ _ k => k.below hb hB
theorem Rws.gro {w w' : World} {r : Option Nat} {vs : List Value} {SS : List (List F3)} (h : Rws w vs SS) (hg : w.grownBy w' r) (ho : Oth w r) : Rws w' vs SS := h.map fun _ _ k => k.gro hg ho
theorem Rws.app {w : World} {vs us : List Value} {SS TT : List (List F3)} (h : Rws w vs SS) (k : Rws w us TT) : Rws w (vs ++ us) (SS ++ TT) := by
  refine ⟨by rw [List.length_append, List.length_append, h.1, k.1], fun i s hi => ?_⟩
  rcases Nat.lt_or_ge i SS.length with hl | hl
  · rw [List.getElem?_append_left hl] at hi
    obtain ⟨a, c, h1, h2⟩ := h.2 i s hi
    exact ⟨a, c, by rw [List.getElem?_append_left (by rw [h.1]; exact hl)]; exact h1, h2⟩
  · rw [List.getElem?_append_right hl] at hi
    obtain ⟨a, c, h1, h2⟩ := k.2 _ s hi
    exact ⟨a, c, by rw [List.getElem?_append_right (by rw [h.1]; exact hl), h.1]; exact h1, h2⟩
theorem Rws.single {w : World} {a : Option Addr} {c : Nat} {s : List F3} (h : Fy w a s) (hc : s.length ≤ c) : Rws w [.slice a s.length c] [s] :=
  ⟨rfl, fun i t hi => by
    cases i with
    | zero => simp at hi; subst hi; exact ⟨a, c, rfl, hc, h⟩
    | succ i => simp at hi⟩
theorem Rws.one {w : World} {vs : List Value} {SS : List (List F3)} (h : Rws w vs SS) : ∀ u ∈ vs, u.oneCell' = true := fun u hu => by
  obtain ⟨i, hi, rfl⟩ := List.getElem_of_mem hu
  have hl : i < SS.length := by rw [← h.1]; exact hi
  obtain ⟨a, c, h1, _⟩ := h.2 i SS[i] (List.getElem?_eq_getElem hl)
  rw [List.getElem?_eq_getElem hi] at h1
  simp only [Option.some.injEq] at h1
  rw [h1]; rfl
/-- A slice that reads as lists of faults. -/
def Rat (w : World) (a : Option Addr) (SS : List (List F3)) : Prop := ∃ vs, Cls w a vs ∧ Rws w vs SS
theorem Rat.below {w w' : World} {a : Option Addr} {SS : List (List F3)} (h : Rat w a SS) {B : Nat} (hb : Below B w w') (hB : w.heap.size ≤ B) : Rat w' a SS := by
  obtain ⟨vs, h1, h2⟩ := h
  exact ⟨vs, h1.below hb hB, h2.below hb hB⟩
theorem Rat.gro {w w' : World} {r : Option Nat} {a : Option Addr} {SS : List (List F3)} (h : Rat w a SS) (hg : w.grownBy w' r) (ho : Oth w r) (hne : ∀ ad, a = some ad → r ≠ some ad.block) : Rat w' a SS := by
  obtain ⟨vs, h1, h2⟩ := h
  exact ⟨vs, h1.gro hg hne, h2.gro hg ho⟩
theorem Rat.at {w : World} {a : Option Addr} {SS : List (List F3)} (h : Rat w a SS) {k : Nat} (hk : k < SS.length) :
    ∃ (b off : Nat) (s : List F3) (a' : Option Addr) (c : Nat), a = some ⟨b, off, none⟩ ∧ b < w.heap.size ∧ w.cell? ⟨b, off + k, none⟩ = some (.slice a' s.length c) ∧ s.length ≤ c ∧ Fy w a' s ∧ s ∈ SS ∧ Hid (SS[k]? = some s) ∧ Hid (SS.take (k + 1) = SS.take k ++ [s]) := by
  obtain ⟨vs, h1, h2⟩ := h
  obtain ⟨a', c, h3, h4, h5⟩ := h2.2 k SS[k] (List.getElem?_eq_getElem hk)
  obtain ⟨b, off, h6, h7, h8⟩ := h1 k _ h3
  exact ⟨b, off, SS[k], a', c, h6, h7, h8, h4, h5, List.getElem_mem hk, List.getElem?_eq_getElem hk, by show SS.take (k + 1) = SS.take k ++ [SS[k]]; simp⟩
theorem Rat.of_own {w : World} {base : Nat} {a : Option Addr} {n c : Nat} {vs : List Value} {SS : List (List F3)} (h : w.ownsRow base 25 1 (.slice a n c) n vs) (hr : Rws w vs SS) : Rat w a SS := ⟨vs, Cls.of_own2 h, hr⟩
/-- What a call that makes a list of lists hands back. -/
def LLP (SS : List (List F3)) (w : World) (e : Ending) (w' : World) : Prop :=
  Below w.heap.size w w' ∧ ∃ (a : Option Addr) (c : Nat), e = .returned (.slice a SS.length c) ∧ Rat w' a SS ∧ ∀ ad, a = some ad → w.heap.size ≤ ad.block
/-- What a call that makes a list of faults hands back. -/
def LFP (s : List F3) (w : World) (e : Ending) (w' : World) : Prop :=
  Below w.heap.size w w' ∧ ∃ (a : Option Addr) (c : Nat), e = .returned (.slice a s.length c) ∧ s.length ≤ c ∧ Fy w' a s
theorem LFP.of_own {w w' : World} {a : Option Addr} {c : Nat} {s : List F3} (hb : Below w.heap.size w w') (h : w'.ownsRow w.heap.size 63 3 (.slice a s.length c) s.length (fcells s)) (h1 : s.length ≤ 1000) (h2 : ∀ x ∈ s, x.i64) : LFP s w (.returned (.slice a s.length c)) w' :=
  ⟨hb, a, c, rfl, own_cap h, Fy.of_own h h1 h2⟩
end Go.Proofs.Ytmpihcencnkpbaa
