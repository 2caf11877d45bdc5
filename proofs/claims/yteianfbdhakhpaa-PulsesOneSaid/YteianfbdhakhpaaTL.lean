import Derived.Test.YteianfbdhakhpaaTK
import Derived.Lib.SliceRun
/-! slices.CompactFunc at readings: how many stay. -/
namespace Go.Proofs.Yteianfbdhakhpaa
set_option linter.unusedSimpArgs false
set_option linter.unusedVariables false
open Go Go.RowKit

/-- How many of the first are unlike the one before. -/
def kp (Q : Nat → List Int) : Nat → Nat
  | 0 => 0
  | i + 1 => kp Q i + if i = 0 ∨ Q i ≠ Q (i - 1) then 1 else 0
theorem kp_le (Q : Nat → List Int) : ∀ n, kp Q n ≤ n
  | 0 => Nat.le_refl _
  | i + 1 => by have := kp_le Q i; unfold kp; split <;> omega
theorem kp_one (Q : Nat → List Int) : kp Q 1 = 1 := rfl
theorem kp_eq {Q : Nat → List Int} {i j : Nat} (hj : i = j + 1) (h : Q i = Q j) : kp Q (i + 1) = kp Q i := by
  subst hj
  show kp Q (j + 1) + _ = _
  rw [if_neg (by simp; exact h)]; rfl
theorem kp_ne {Q : Nat → List Int} {i j : Nat} (hj : i = j + 1) (h : Q i ≠ Q j) : kp Q (i + 1) = kp Q i + 1 := by
  subst hj
  show kp Q (j + 1) + _ = _
  rw [if_pos (.inr (by simpa using h))]
theorem below_setCells {B : Nat} : ∀ (vs : List Value) (w : World) (b o : Nat), B ≤ b → Below B w (w.setCells b o vs)
  | [], w, _, _, _ => Below.refl _ _
  | v :: r, w, b, o, h => (Below.setCell (p := ⟨b, o, none⟩) (Below.refl B w) h v).trans (below_setCells r _ b (o + 1) h)
theorem heap_setCells : ∀ (vs : List Value) (w : World) (b o : Nat) (k : Nat), k ≠ b → (w.setCells b o vs).heap[k]? = w.heap[k]?
  | [], _, _, _, _, _ => rfl
  | v :: r, w, b, o, k, h => (heap_setCells r (w.setCell ⟨b, o, none⟩ v) b (o + 1) k h).trans (Below.heap_setCell w ⟨b, o, none⟩ v k h)
theorem size_setCells : ∀ (vs : List Value) (w : World) (b o : Nat), (w.setCells b o vs).heap.size = w.heap.size
  | [], _, _, _ => rfl
  | v :: r, w, b, o => (size_setCells r _ b (o + 1)).trans (by simp [World.setCell])
/-- The row of readings, from one on as it was; what the readings are. -/
structure Cpt (B : Nat) (w0 W : World) (blk n kk : Nat) (Q : Nat → Rq) : Prop where
  below : Below B w0 W
  row : ∃ cur, W.heap[blk]? = some (.cells cur 62 (0, 0)) ∧ n * 2 ≤ cur.size ∧ ∀ i, kk ≤ i → i < n → cur[i * 2]? = some (.slice (Q i).a1 (Q i).n1 (Q i).c1) ∧ cur[i * 2 + 1]? = some (.slice (Q i).a2 (Q i).l.length (Q i).c2)
  good : ∀ i, i < n → Rgd W blk (Q i)
theorem Rgd.of {w w' : World} {blk : Nat} {q : Rq} (h : Rgd w blk q) (hs : w.heap.size ≤ w'.heap.size) (hk : ∀ k, k < w.heap.size → k ≠ blk → w'.heap[k]? = w.heap[k]?) : Rgd w' blk q :=
  ⟨h.1.of hs (fun ad vs z e hh => by rw [hk ad.block (Array.getElem?_eq_some_iff.1 hh).1 (h.2 ad e)]; exact hh), h.2⟩
theorem Cpt.grow {B : Nat} {w0 W W' : World} {blk n kk : Nat} {Q : Nat → Rq} (h : Cpt B w0 W blk n kk Q) (hB : B ≤ blk) (hb : Below W.heap.size W W') : Cpt B w0 W' blk n kk Q := by
  obtain ⟨cur, h1, h2, h3⟩ := h.row
  have hl := (Array.getElem?_eq_some_iff.1 h1).1
  exact ⟨h.below.trans (hb.mono (by omega)), ⟨cur, (hb.block _ hl).trans h1, h2, h3⟩, fun i hi => (h.good i hi).of hb.size (fun k hk _ => hb.block k hk)⟩
theorem Cpt.cell {B : Nat} {w0 W : World} {blk n kk : Nat} {Q : Nat → Rq} (h : Cpt B w0 W blk n kk Q) {i : Nat} (hi : kk ≤ i) (hn : i < n) : W.cell? ⟨blk, i * 2, none⟩ = some (.slice (Q i).a1 (Q i).n1 (Q i).c1) ∧ W.cell? ⟨blk, i * 2 + 1, none⟩ = some (.slice (Q i).a2 (Q i).l.length (Q i).c2) := by
  obtain ⟨cur, h1, h2, h3⟩ := h.row
  simp only [World.cell?, h1]
  exact h3 i hi hn
theorem Cpt.isC {B : Nat} {w0 W : World} {blk n kk : Nat} {Q : Nat → Rq} (h : Cpt B w0 W blk n kk Q) {j : Nat} (hj : j < n * 2) : (W.cell? ⟨blk, j, none⟩).isSome = true ∧ W.frozen? ⟨blk, j, none⟩ = false := by
  obtain ⟨cur, h1, h2, h3⟩ := h.row
  refine ⟨?_, ?_⟩
  · simp only [World.cell?, h1]
    simp; omega
  · simp [World.frozen?, h1]
theorem Cpt.stores {B : Nat} {w0 W : World} {blk n kk : Nat} {Q : Nat → Rq} (h : Cpt B w0 W blk n kk Q) (o : Nat) (vs : List Value) (ho : o + vs.length ≤ n * 2) (h1 : ∀ v ∈ vs, v.oneCell' = true) : (storeCells ⟨blk, o, none⟩ vs 0).run Try.prog W = .ok () (W.setCells blk o vs) := by
  have hst := run_storeCells_cells (P := Try.prog) blk o vs 0 W (by intro j hj; exact (h.isC (by omega)).1) (by intro j hj; exact (h.isC (by omega)).2) h1
  simpa using hst
theorem Cpt.set {B : Nat} {w0 W : World} {blk n kk : Nat} {Q : Nat → Rq} (h : Cpt B w0 W blk n kk Q) (hB : B ≤ blk) (x y : Value) : Cpt B w0 (W.setCells blk (kk * 2) [x, y]) blk n (kk + 1) Q := by
  obtain ⟨cur, h1, h2, h3⟩ := h.row
  have hl := (Array.getElem?_eq_some_iff.1 h1).1
  refine ⟨h.below.trans (below_setCells _ _ _ _ hB), ⟨(cur.setIfInBounds (kk * 2) x).setIfInBounds (kk * 2 + 1) y, ?_, by simpa using h2, fun i hi hn => ?_⟩, fun i hi => (h.good i hi).of (by rw [size_setCells]; exact Nat.le_refl _) (fun k _ hk => heap_setCells _ _ _ _ _ hk)⟩
  · show ((W.setCell ⟨blk, kk * 2, none⟩ x).setCell ⟨blk, kk * 2 + 1, none⟩ y).heap[blk]? = _
    simp [World.setCell, Array.getElem?_modify, h1]
  · have := h3 i (by omega) hn
    simp only [Array.getElem?_setIfInBounds]
    rw [if_neg (by omega), if_neg (by omega), if_neg (by omega), if_neg (by omega)]
    exact this
theorem Cpt.mono {B : Nat} {w0 W : World} {blk n k1 k2 : Nat} {Q : Nat → Rq} (h : Cpt B w0 W blk n k1 Q) (hk : k1 ≤ k2) : Cpt B w0 W blk n k2 Q := by
  obtain ⟨cur, h1, h2, h3⟩ := h.row
  exact ⟨h.below, ⟨cur, h1, h2, fun i hi hn => h3 i (by omega) hn⟩, h.good⟩
theorem Cpt.at2 {B : Nat} {w0 W : World} {blk n kk m k j : Nat} {Q : Nat → Rq} (h : Cpt B w0 W blk n kk Q) (hm : m = k + j) (hi : kk ≤ m) (hn : m < n) : W.cell? ⟨blk, k * 2 + j * 2, none⟩ = some (.slice (Q m).a1 (Q m).n1 (Q m).c1) ∧ W.cell? ⟨blk, k * 2 + j * 2 + 1, none⟩ = some (.slice (Q m).a2 (Q m).l.length (Q m).c2) := by
  rw [← Nat.add_mul, ← hm]
  exact h.cell hi hn
end Go.Proofs.Yteianfbdhakhpaa
