import Derived.Test.YthgjjlkdekfdbaaM1
import Derived.Test.YthgjjlkdekfdbaaR3
/-! Words for slices of clauses. -/
namespace Go.Proofs.Ythgjjlkdekfdbaa
set_option linter.unusedSimpArgs false
set_option linter.unusedVariables false
open Go.RowKit

def cl0 : Cl := ⟨0, 0, 0, 0⟩
/-- All numbers of a clause are numbers. -/
def Cl.i64 (x : Cl) : Prop := (-9223372036854775808 ≤ x.k ∧ x.k ≤ 9223372036854775807) ∧ (-9223372036854775808 ≤ x.c ∧ x.c ≤ 9223372036854775807) ∧ (-9223372036854775808 ≤ x.p ∧ x.p ≤ 9223372036854775807) ∧ (-9223372036854775808 ≤ x.m ∧ x.m ≤ 9223372036854775807)
theorem Cl.ok.i64 {x : Cl} (h : x.ok) : x.i64 := by
  obtain ⟨h1, h2, h3, h4⟩ := h
  exact ⟨by omega, by omega, by omega, by omega⟩
/-- A clause lies at a place. -/
def At4 (w : World) (b o : Nat) (x : Cl) : Prop := w.cell? ⟨b, o, none⟩ = some (.int .i64 x.k) ∧ w.cell? ⟨b, o + 1, none⟩ = some (.int .i64 x.c) ∧ w.cell? ⟨b, o + 2, none⟩ = some (.int .i64 x.p) ∧ w.cell? ⟨b, o + 3, none⟩ = some (.int .i64 x.m)
theorem At4.eq {w w' : World} {b o : Nat} {x : Cl} (h : At4 w b o x) (he : w'.heap[b]? = w.heap[b]?) : At4 w' b o x := by
  unfold At4 World.cell? at *
  simp only [he]; exact h
/-- A slice value reads as clauses. -/
def Clz (w : World) (a : Option Addr) (xs : List Cl) : Prop :=
  xs.length ≤ 1000 ∧ (∀ x ∈ xs, x.i64) ∧ (∀ i, i < xs.length → ∃ b off, a = some ⟨b, off, none⟩ ∧ b < w.heap.size ∧ At4 w b (off + i * 4) (xs.getD i cl0))
theorem Clz.len {w : World} {a : Option Addr} {xs : List Cl} (h : Clz w a xs) : xs.length ≤ 1000 := h.1
theorem Clz.at {w : World} {a : Option Addr} {xs : List Cl} (h : Clz w a xs) {k : Nat} (hk : k < xs.length) :
    ∃ b off x, a = some ⟨b, off, none⟩ ∧ b < w.heap.size ∧ At4 w b (off + k * 4) x ∧ x.i64 ∧ x ∈ xs ∧ Hid (xs[k]? = some x) ∧ Hid (xs.drop k = x :: xs.drop (k + 1)) ∧ Hid (xs.take (k + 1) = xs.take k ++ [x]) := by
  obtain ⟨_, h2, h3⟩ := h
  obtain ⟨b, off, ha, hb, hc⟩ := h3 k hk
  refine ⟨b, off, xs[k], ha, hb, ?_, h2 _ (List.getElem_mem hk), List.getElem_mem hk, ?_, ?_, ?_⟩
  · have e : xs.getD k cl0 = xs[k] := by simp [List.getD, hk]
    rw [e] at hc; exact hc
  · show xs[k]? = some xs[k]; simp [hk]
  · show xs.drop k = xs[k] :: _; simp
  · show xs.take (k + 1) = xs.take k ++ [xs[k]]; simp
theorem Clz.of {w w' : World} {a : Option Addr} {xs : List Cl} (h : Clz w a xs) (hs : w.heap.size ≤ w'.heap.size) (hk : ∀ ad, a = some ad → ad.block < w.heap.size → w'.heap[ad.block]? = w.heap[ad.block]?) : Clz w' a xs := by
  obtain ⟨h1, h2, h3⟩ := h
  refine ⟨h1, h2, fun i hi => ?_⟩
  obtain ⟨b, off, ha, hbs, hc⟩ := h3 i hi
  exact ⟨b, off, ha, by omega, hc.eq (hk _ ha hbs)⟩
theorem Clz.below {w w' : World} {a : Option Addr} {xs : List Cl} (h : Clz w a xs) {B : Nat} (hb : Below B w w') (hB : w.heap.size ≤ B) : Clz w' a xs :=
  h.of hb.size fun ad _ hl => hb.block _ (by omega)
theorem Clz.kept {n0 B : Nat} {a b : World} (hk : Kept n0 B a b) {x : Option Addr} {xs : List Cl} (h : Clz a x xs) (hB : ∀ ad, x = some ad → B ≤ ad.block) : Clz b x xs :=
  h.of hk.below.size fun ad e hl => hk.over _ (hB ad e) hl
theorem Clz.gro {w w' : World} {r : Option Nat} {a : Option Addr} {xs : List Cl} (h : Clz w a xs) (hg : w.grownBy w' r) (hne : ∀ ad, a = some ad → r ≠ some ad.block) : Clz w' a xs :=
  h.of hg.size fun ad e hl => hg.block _ hl (fun e2 => hne ad e (by first | exact e2 | exact e2.symm))
theorem Clz.set {w : World} {a : Option Addr} {xs : List Cl} (h : Clz w a xs) {p : Addr} (ho : ∀ ad, a = some ad → ad.block ≠ p.block) (v : Value) : Clz (w.setCell p v) a xs :=
  h.of (by simp [World.setCell]) fun ad e _ => Below.heap_setCell _ _ _ _ (ho ad e)
theorem Clz.nil (w : World) (a : Option Addr) : Clz w a [] := ⟨by simp, fun x hx => by simp at hx, fun i hi => by simp at hi⟩
def ccells (xs : List Cl) : List Value := xs.flatMap fun x => [.int .i64 x.k, .int .i64 x.c, .int .i64 x.p, .int .i64 x.m]
theorem ccells_cons (x : Cl) (xs : List Cl) : ccells (x :: xs) = .int .i64 x.k :: .int .i64 x.c :: .int .i64 x.p :: .int .i64 x.m :: ccells xs := rfl
theorem ccells_app (xs ys : List Cl) : ccells (xs ++ ys) = ccells xs ++ ccells ys := by simp [ccells]
theorem ccells_len : ∀ xs : List Cl, (ccells xs).length = xs.length * 4
  | [] => rfl
  | x :: xs => by rw [ccells_cons]; simp only [List.length_cons]; rw [ccells_len xs]; omega
theorem ccells_at : ∀ (xs : List Cl) (i : Nat), i < xs.length → (ccells xs)[i * 4]? = some (.int .i64 (xs.getD i cl0).k) ∧ (ccells xs)[i * 4 + 1]? = some (.int .i64 (xs.getD i cl0).c) ∧ (ccells xs)[i * 4 + 2]? = some (.int .i64 (xs.getD i cl0).p) ∧ (ccells xs)[i * 4 + 3]? = some (.int .i64 (xs.getD i cl0).m)
  | [], i, h => by simp at h
  | x :: xs, 0, _ => ⟨rfl, rfl, rfl, rfl⟩
  | x :: xs, i + 1, h => by
    have := ccells_at xs i (by simpa using h)
    rw [ccells_cons, show (i + 1) * 4 = i * 4 + 1 + 1 + 1 + 1 by omega]
    have e : ∀ (j : Nat) (v0 v1 v2 v3 : Value) (l : List Value), (v0 :: v1 :: v2 :: v3 :: l)[j + 4]? = l[j]? := fun j v0 v1 v2 v3 l => rfl
    refine ⟨?_, ?_, ?_, ?_⟩
    · rw [show i * 4 + 1 + 1 + 1 + 1 = i * 4 + 4 by omega, e]; simpa using this.1
    · rw [show i * 4 + 1 + 1 + 1 + 1 + 1 = (i * 4 + 1) + 4 by omega, e]; simpa using this.2.1
    · rw [show i * 4 + 1 + 1 + 1 + 1 + 2 = (i * 4 + 2) + 4 by omega, e]; simpa using this.2.2.1
    · rw [show i * 4 + 1 + 1 + 1 + 1 + 3 = (i * 4 + 3) + 4 by omega, e]; simpa using this.2.2.2
theorem ccells_one (xs : List Cl) : ∀ u ∈ ccells xs, u.oneCell' = true := fun u hu => by
  simp only [ccells, List.mem_flatMap, List.mem_cons, List.not_mem_nil, or_false] at hu
  obtain ⟨x, _, rfl | rfl | rfl | rfl⟩ := hu <;> rfl
theorem Clz.cls {w : World} {A : Option Addr} {xs : List Cl} (h : Clz w A xs) : Cls w A (ccells xs) := fun j u hj => by
  have hlt : j < (ccells xs).length := by
    rcases Nat.lt_or_ge j (ccells xs).length with hl | hl
    · exact hl
    · rw [List.getElem?_eq_none hl] at hj; cases hj
  rw [ccells_len] at hlt
  obtain ⟨i, hi, e⟩ : ∃ i, i < xs.length ∧ (j = i * 4 ∨ j = i * 4 + 1 ∨ j = i * 4 + 2 ∨ j = i * 4 + 3) := ⟨j / 4, by omega, by omega⟩
  obtain ⟨b, off, ha, hb, h1, h2, h3, h4⟩ := h.2.2 i hi
  obtain ⟨p1, p2, p3, p4⟩ := ccells_at xs i hi
  rcases e with rfl | rfl | rfl | rfl
  · exact ⟨b, off, ha, hb, by rw [h1, ← p1, hj]⟩
  · exact ⟨b, off, ha, hb, by rw [← Nat.add_assoc, h2, ← p2, hj]⟩
  · exact ⟨b, off, ha, hb, by rw [← Nat.add_assoc, h3, ← p3, hj]⟩
  · exact ⟨b, off, ha, hb, by rw [← Nat.add_assoc, h4, ← p4, hj]⟩
theorem Clz.of_own {w : World} {base : Nat} {e : TypeId} {v : Value} {xs : List Cl} (h : w.ownsRow base e 4 v xs.length (ccells xs)) (h1 : xs.length ≤ 1000) (h2 : ∀ x ∈ xs, x.i64) :
    ∃ a ca, v = .slice a xs.length ca ∧ Clz w a xs ∧ (∀ ad, a = some ad → base ≤ ad.block ∧ ad.block < w.heap.size) := by
  rcases h.2 with ⟨h', h0⟩ | ⟨g, cap, cur, h', hb, hg, hc1, _, hs, ht⟩
  · exact ⟨none, 0, by rw [h', h0], ⟨h1, h2, fun i hi => by omega⟩, fun ad e => by cases e⟩
  · have hgs := (Array.getElem?_eq_some_iff.1 hg).1
    refine ⟨some ⟨g, 0, none⟩, cap, h', ⟨h1, h2, fun i hi => ⟨g, 0, rfl, hgs, ?_⟩⟩, fun ad e => by cases e; exact ⟨hb, hgs⟩⟩
    rw [h'] at h
    have e1 := World.ownsRow.cellAt h (i * 4) (by omega)
    have e2 := World.ownsRow.cellAt h (i * 4 + 1) (by omega)
    have e3 := World.ownsRow.cellAt h (i * 4 + 2) (by omega)
    have e4 := World.ownsRow.cellAt h (i * 4 + 3) (by omega)
    obtain ⟨p1, p2, p3, p4⟩ := ccells_at xs i hi
    unfold At4
    rw [Nat.zero_add, e1, e2, e3, e4]
    exact ⟨p1, p2, p3, p4⟩
theorem Clz.of_bx {w : World} {b : Nat} {T : TypeId} {xs : List Cl} (h : Bx w b (ccells xs).toArray T) (h1 : xs.length ≤ 1000) (h2 : ∀ x ∈ xs, x.i64) : Clz w (some ⟨b, 0, none⟩) xs :=
  ⟨h1, h2, fun i hi => ⟨b, 0, rfl, h.lt, by
    obtain ⟨p1, p2, p3, p4⟩ := ccells_at xs i hi
    unfold At4
    rw [Nat.zero_add]
    exact ⟨h.cell _ (by simpa using p1), h.cell _ (by simpa using p2), h.cell _ (by simpa using p3), h.cell _ (by simpa using p4)⟩⟩⟩
end Go.Proofs.Ythgjjlkdekfdbaa
