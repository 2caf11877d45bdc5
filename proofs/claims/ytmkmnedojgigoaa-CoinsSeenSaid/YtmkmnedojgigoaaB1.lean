import Derived.Test.YtmkmnedojgigoaaB0
namespace Go.Proofs.Ytmkmnedojgigoaa
open Go.RowKit

theorem made_ints (n : Nat) : (madeCells (Value.int .i64 0).cells (n * 1)).toList.toArray = vrow (List.replicate n 0) := by
  unfold vrow
  congr 1
  have e : ∀ x : Nat, (Value.int .i64 0).cells[x % (Value.int .i64 0).cells.size]! = .int .i64 0 := fun x => by
    have : x % (Value.int .i64 0).cells.size = 0 := Nat.mod_one x
    rw [this]; rfl
  simp only [madeCells, Nat.mul_one]
  simp only [e]
  simp [List.map_const']

/-- The slice does not lie in block b. -/
def Off (b : Nat) (a : Option Addr) (n : Nat) : Prop := 0 < n → ∀ x, a = some x → x.block ≠ b
theorem Off.of_old {w : World} {a : Option Addr} {xs : List Int} (h : Ints w a xs) {b : Nat} (hb : w.heap.size ≤ b) : Off b a xs.length := fun hn x hx => by
  obtain ⟨b', off, ha, hlt, _⟩ := h.2.2 0 hn
  rw [ha] at hx; cases hx
  show b' ≠ b; omega
theorem Off.of_new {a : Option Addr} {n b B : Nat} (h : ∀ x, a = some x → B ≤ x.block) (hb : b < B) : Off b a n := fun _ x hx => by have := h x hx; omega
theorem Ints.set {w : World} {a : Option Addr} {xs : List Int} (h : Ints w a xs) {b : Nat} (ho : Off b a xs.length) (i : Nat) (v : Value) : Ints (w.setCell ⟨b, i, none⟩ v) a xs := by
  obtain ⟨h1, h2, h3⟩ := h
  refine ⟨h1, h2, fun j hj => ?_⟩
  obtain ⟨b', off, ha, hlt, hc⟩ := h3 j hj
  have hne : b' ≠ b := ho (by omega) _ ha
  refine ⟨b', off, ha, by simpa [World.setCell] using hlt, ?_⟩
  rw [← hc]
  exact World.cell?_of_block (w := w) (Below.heap_setCell _ _ _ _ hne)

end Go.Proofs.Ytmkmnedojgigoaa
