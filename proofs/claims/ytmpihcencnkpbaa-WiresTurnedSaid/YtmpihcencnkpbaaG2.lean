import Derived.Test.YtmpihcencnkpbaaQ6
/-! Slices of faults, and of presses: three numbers each. -/
namespace Go.Proofs.Ytmpihcencnkpbaa
set_option linter.unusedSimpArgs false
set_option linter.unusedVariables false
open Go.RowKit

structure F3 where
  k : Int
  a : Int
  b : Int
deriving DecidableEq
def f30 : F3 := ⟨0, 0, 0⟩
/-- All numbers of it are numbers. -/
def F3.i64 (x : F3) : Prop := (-9223372036854775808 ≤ x.k ∧ x.k ≤ 9223372036854775807) ∧ (-9223372036854775808 ≤ x.a ∧ x.a ≤ 9223372036854775807) ∧ (-9223372036854775808 ≤ x.b ∧ x.b ≤ 9223372036854775807)
/-- It lies at a place. -/
def At3 (w : World) (b o : Nat) (x : F3) : Prop := w.cell? ⟨b, o, none⟩ = some (.int .i64 x.k) ∧ w.cell? ⟨b, o + 1, none⟩ = some (.int .i64 x.a) ∧ w.cell? ⟨b, o + 2, none⟩ = some (.int .i64 x.b)
theorem At3.eq {w w' : World} {b o : Nat} {x : F3} (h : At3 w b o x) (he : w'.heap[b]? = w.heap[b]?) : At3 w' b o x := by
  unfold At3 World.cell? at *
  simp only [he]; exact h
/-- A slice value reads as these. -/
def Fz (w : World) (a : Option Addr) (xs : List F3) : Prop :=
  xs.length ≤ 1000 ∧ (∀ x ∈ xs, x.i64) ∧ (∀ i, i < xs.length → ∃ b off, a = some ⟨b, off, none⟩ ∧ b < w.heap.size ∧ At3 w b (off + i * 3) (xs.getD i f30))
theorem Fz.len {w : World} {a : Option Addr} {xs : List F3} (h : Fz w a xs) : xs.length ≤ 1000 := h.1
theorem Fz.at {w : World} {a : Option Addr} {xs : List F3} (h : Fz w a xs) {k : Nat} (hk : k < xs.length) :
    ∃ b off x, a = some ⟨b, off, none⟩ ∧ b < w.heap.size ∧ At3 w b (off + k * 3) x ∧ x.i64 ∧ x ∈ xs ∧ Hid (xs[k]? = some x) ∧ Hid (xs.drop k = x :: xs.drop (k + 1)) ∧ Hid (xs.take (k + 1) = xs.take k ++ [x]) := by
  obtain ⟨_, h2, h3⟩ := h
  obtain ⟨b, off, ha, hb, hc⟩ := h3 k hk
  refine ⟨b, off, xs[k], ha, hb, ?_, h2 _ (List.getElem_mem hk), List.getElem_mem hk, ?_, ?_, ?_⟩
  · have e : xs.getD k f30 = xs[k] := by simp [List.getD, hk]
    rw [e] at hc; exact hc
  · show xs[k]? = some xs[k]; simp [hk]
  · show xs.drop k = xs[k] :: _; simp
  · show xs.take (k + 1) = xs.take k ++ [xs[k]]; simp
theorem Fz.of {w w' : World} {a : Option Addr} {xs : List F3} (h : Fz w a xs) (hs : w.heap.size ≤ w'.heap.size) (hk : ∀ ad, a = some ad → ad.block < w.heap.size → w'.heap[ad.block]? = w.heap[ad.block]?) : Fz w' a xs := by
  obtain ⟨h1, h2, h3⟩ := h
  refine ⟨h1, h2, fun i hi => ?_⟩
  obtain ⟨b, off, ha, hbs, hc⟩ := h3 i hi
  exact ⟨b, off, ha, by omega, hc.eq (hk _ ha hbs)⟩
theorem Fz.below {w w' : World} {a : Option Addr} {xs : List F3} (h : Fz w a xs) {B : Nat} (hb : Below B w w') (hB : w.heap.size ≤ B) : Fz w' a xs :=
  h.of hb.size fun ad _ hl => hb.block _ (by omega)
theorem Fz.gro {w w' : World} {r : Option Nat} {a : Option Addr} {xs : List F3} (h : Fz w a xs) (hg : w.grownBy w' r) (hne : ∀ ad, a = some ad → r ≠ some ad.block) : Fz w' a xs :=
  h.of hg.size fun ad e hl => hg.block _ hl (fun e2 => hne ad e (by first | exact e2 | exact e2.symm))
theorem Fz.set {w : World} {a : Option Addr} {xs : List F3} (h : Fz w a xs) {p : Addr} (ho : ∀ ad, a = some ad → ad.block ≠ p.block) (v : Value) : Fz (w.setCell p v) a xs :=
  h.of (by simp [World.setCell]) fun ad e _ => Below.heap_setCell _ _ _ _ (ho ad e)
theorem Fz.nil (w : World) (a : Option Addr) : Fz w a [] := ⟨by simp, fun x hx => by simp at hx, fun i hi => by simp at hi⟩
def fcells (xs : List F3) : List Value := xs.flatMap fun x => [.int .i64 x.k, .int .i64 x.a, .int .i64 x.b]
theorem fcells_cons (x : F3) (xs : List F3) : fcells (x :: xs) = .int .i64 x.k :: .int .i64 x.a :: .int .i64 x.b :: fcells xs := rfl
theorem fcells_app (xs ys : List F3) : fcells (xs ++ ys) = fcells xs ++ fcells ys := by simp [fcells]
theorem fcells_len : ∀ xs : List F3, (fcells xs).length = xs.length * 3
  | [] => rfl
  | x :: xs => by rw [fcells_cons]; simp only [List.length_cons]; rw [fcells_len xs]; omega
theorem fcells_at : ∀ (xs : List F3) (i : Nat), i < xs.length → (fcells xs)[i * 3]? = some (.int .i64 (xs.getD i f30).k) ∧ (fcells xs)[i * 3 + 1]? = some (.int .i64 (xs.getD i f30).a) ∧ (fcells xs)[i * 3 + 2]? = some (.int .i64 (xs.getD i f30).b)
  | [], i, h => by simp at h
  | x :: xs, 0, _ => ⟨rfl, rfl, rfl⟩
  | x :: xs, i + 1, h => by
    have := fcells_at xs i (by simpa using h)
    rw [fcells_cons, show (i + 1) * 3 = i * 3 + 1 + 1 + 1 by omega]
    have e : ∀ (j : Nat) (v0 v1 v2 : Value) (l : List Value), (v0 :: v1 :: v2 :: l)[j + 3]? = l[j]? := fun j v0 v1 v2 l => rfl
    refine ⟨?_, ?_, ?_⟩
    · rw [show i * 3 + 1 + 1 + 1 = i * 3 + 3 by omega, e]; simpa using this.1
    · rw [show i * 3 + 1 + 1 + 1 + 1 = (i * 3 + 1) + 3 by omega, e]; simpa using this.2.1
    · rw [show i * 3 + 1 + 1 + 1 + 2 = (i * 3 + 2) + 3 by omega, e]; simpa using this.2.2
theorem fcells_one (xs : List F3) : ∀ u ∈ fcells xs, u.oneCell' = true := fun u hu => by
  simp only [fcells, List.mem_flatMap, List.mem_cons, List.not_mem_nil, or_false] at hu
  obtain ⟨x, _, rfl | rfl | rfl⟩ := hu <;> rfl
theorem Fz.cls {w : World} {A : Option Addr} {xs : List F3} (h : Fz w A xs) : Cls w A (fcells xs) := fun j u hj => by
  have hlt : j < (fcells xs).length := by
    rcases Nat.lt_or_ge j (fcells xs).length with hl | hl
    · exact hl
    · rw [List.getElem?_eq_none hl] at hj; cases hj
  rw [fcells_len] at hlt
  obtain ⟨i, hi, e⟩ : ∃ i, i < xs.length ∧ (j = i * 3 ∨ j = i * 3 + 1 ∨ j = i * 3 + 2) := ⟨j / 3, by omega, by omega⟩
  obtain ⟨b, off, ha, hb, h1, h2, h3⟩ := h.2.2 i hi
  obtain ⟨p1, p2, p3⟩ := fcells_at xs i hi
  rcases e with rfl | rfl | rfl
  · exact ⟨b, off, ha, hb, by rw [h1, ← p1, hj]⟩
  · exact ⟨b, off, ha, hb, by rw [← Nat.add_assoc, h2, ← p2, hj]⟩
  · exact ⟨b, off, ha, hb, by rw [← Nat.add_assoc, h3, ← p3, hj]⟩
theorem Fz.of_own {w : World} {base : Nat} {e : TypeId} {v : Value} {xs : List F3} (h : w.ownsRow base e 3 v xs.length (fcells xs)) (h1 : xs.length ≤ 1000) (h2 : ∀ x ∈ xs, x.i64) :
    ∃ a ca, v = .slice a xs.length ca ∧ Fz w a xs ∧ (∀ ad, a = some ad → base ≤ ad.block ∧ ad.block < w.heap.size) := by
  rcases h.2 with ⟨h', h0⟩ | ⟨g, cap, cur, h', hb, hg, hc1, _, hs, ht⟩
  · exact ⟨none, 0, by rw [h', h0], ⟨h1, h2, fun i hi => by omega⟩, fun ad e => by cases e⟩
  · have hgs := (Array.getElem?_eq_some_iff.1 hg).1
    refine ⟨some ⟨g, 0, none⟩, cap, h', ⟨h1, h2, fun i hi => ⟨g, 0, rfl, hgs, ?_⟩⟩, fun ad e => by cases e; exact ⟨hb, hgs⟩⟩
    rw [h'] at h
    have e1 := World.ownsRow.cellAt h (i * 3) (by omega)
    have e2 := World.ownsRow.cellAt h (i * 3 + 1) (by omega)
    have e3 := World.ownsRow.cellAt h (i * 3 + 2) (by omega)
    obtain ⟨p1, p2, p3⟩ := fcells_at xs i hi
    unfold At3
    rw [Nat.zero_add, e1, e2, e3]
    exact ⟨p1, p2, p3⟩
theorem Fz.of_bx {w : World} {b : Nat} {T : TypeId} {xs : List F3} (h : Bx w b (fcells xs).toArray T) (h1 : xs.length ≤ 1000) (h2 : ∀ x ∈ xs, x.i64) : Fz w (some ⟨b, 0, none⟩) xs :=
  ⟨h1, h2, fun i hi => ⟨b, 0, rfl, h.lt, by
    obtain ⟨p1, p2, p3⟩ := fcells_at xs i hi
    unfold At3
    rw [Nat.zero_add]
    exact ⟨h.cell _ (by simpa using p1), h.cell _ (by simpa using p2), h.cell _ (by simpa using p3)⟩⟩⟩
end Go.Proofs.Ytmpihcencnkpbaa
