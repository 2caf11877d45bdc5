import Derived.Test.YtmkmnedojgigoaaB1
namespace Go.Proofs.Ytmkmnedojgigoaa
open Go.RowKit

theorem Ext.free {w : World} {a : Addr} {v : Value} (h : w.cell? a = some v) (hf : w.frozen? a = false) (t : Ext w) : t.w.frozen? a = false :=
  (t.below.frozen (p := a) (cell_lt h)).trans hf
theorem Bx.new' {W : World} {n : Nat} (h : W.heap.size = n) (vs : Array Value) (T : TypeId) : Bx (W.alloc (.cells vs T)) n vs T := h ▸ Bx.new W vs T
theorem Bx.set2 {W : World} {b : Nat} {T : TypeId} {a0 a1 : Value} (h : Bx W b #[a0, a1] T) (v0 v1 : Value) : Bx ((W.setCell ⟨b, 0, none⟩ v0).setCell ⟨b, 1, none⟩ v1) b #[v0, v1] T := by
  simpa using ((h.set 0 v0).set 1 v1)
theorem Bx.put2_0 {W : World} {b : Nat} {T : TypeId} {a0 a1 : Value} (h : Bx W b #[a0, a1] T) (v : Value) : Bx (W.setCell ⟨b, 0, none⟩ v) b #[v, a1] T := by
  simpa using h.set 0 v
theorem Bx.put2_1 {W : World} {b : Nat} {T : TypeId} {a0 a1 : Value} (h : Bx W b #[a0, a1] T) (v : Value) : Bx (W.setCell ⟨b, 1, none⟩ v) b #[a0, v] T := by
  simpa using h.set 1 v
theorem Bx.set3 {W : World} {b : Nat} {T : TypeId} {a0 a1 a2 : Value} (h : Bx W b #[a0, a1, a2] T) (v0 v1 v2 : Value) : Bx (((W.setCell ⟨b, 0, none⟩ v0).setCell ⟨b, 1, none⟩ v1).setCell ⟨b, 2, none⟩ v2) b #[v0, v1, v2] T := by
  simpa using (((h.set 0 v0).set 1 v1).set 2 v2)
theorem Bx.set4 {W : World} {b : Nat} {T : TypeId} {a0 a1 a2 a3 : Value} (h : Bx W b #[a0, a1, a2, a3] T) (v0 v1 v2 v3 : Value) : Bx ((((W.setCell ⟨b, 0, none⟩ v0).setCell ⟨b, 1, none⟩ v1).setCell ⟨b, 2, none⟩ v2).setCell ⟨b, 3, none⟩ v3) b #[v0, v1, v2, v3] T := by
  simpa using ((((h.set 0 v0).set 1 v1).set 2 v2).set 3 v3)
theorem Bx.put4_0 {W : World} {b : Nat} {T : TypeId} {a0 a1 a2 a3 : Value} (h : Bx W b #[a0, a1, a2, a3] T) (v : Value) : Bx (W.setCell ⟨b, 0, none⟩ v) b #[v, a1, a2, a3] T := by
  simpa using h.set 0 v
theorem Bx.put4_1 {W : World} {b : Nat} {T : TypeId} {a0 a1 a2 a3 : Value} (h : Bx W b #[a0, a1, a2, a3] T) (v : Value) : Bx (W.setCell ⟨b, 1, none⟩ v) b #[a0, v, a2, a3] T := by
  simpa using h.set 1 v
theorem Bx.put4_2 {W : World} {b : Nat} {T : TypeId} {a0 a1 a2 a3 : Value} (h : Bx W b #[a0, a1, a2, a3] T) (v : Value) : Bx (W.setCell ⟨b, 2, none⟩ v) b #[a0, a1, v, a3] T := by
  simpa using h.set 2 v
theorem Bx.put4_3 {W : World} {b : Nat} {T : TypeId} {a0 a1 a2 a3 : Value} (h : Bx W b #[a0, a1, a2, a3] T) (v : Value) : Bx (W.setCell ⟨b, 3, none⟩ v) b #[a0, a1, a2, v] T := by
  simpa using h.set 3 v
theorem Bx.set6 {W : World} {b : Nat} {T : TypeId} {a0 a1 a2 a3 a4 a5 : Value} (h : Bx W b #[a0, a1, a2, a3, a4, a5] T) (v0 v1 v2 v3 v4 v5 : Value) : Bx ((((((W.setCell ⟨b, 0, none⟩ v0).setCell ⟨b, 1, none⟩ v1).setCell ⟨b, 2, none⟩ v2).setCell ⟨b, 3, none⟩ v3).setCell ⟨b, 4, none⟩ v4).setCell ⟨b, 5, none⟩ v5) b #[v0, v1, v2, v3, v4, v5] T := by
  simpa using ((((((h.set 0 v0).set 1 v1).set 2 v2).set 3 v3).set 4 v4).set 5 v5)
theorem Bx.put6_0 {W : World} {b : Nat} {T : TypeId} {a0 a1 a2 a3 a4 a5 : Value} (h : Bx W b #[a0, a1, a2, a3, a4, a5] T) (v : Value) : Bx (W.setCell ⟨b, 0, none⟩ v) b #[v, a1, a2, a3, a4, a5] T := by
  simpa using h.set 0 v
theorem Bx.put6_1 {W : World} {b : Nat} {T : TypeId} {a0 a1 a2 a3 a4 a5 : Value} (h : Bx W b #[a0, a1, a2, a3, a4, a5] T) (v : Value) : Bx (W.setCell ⟨b, 1, none⟩ v) b #[a0, v, a2, a3, a4, a5] T := by
  simpa using h.set 1 v
theorem Bx.put6_2 {W : World} {b : Nat} {T : TypeId} {a0 a1 a2 a3 a4 a5 : Value} (h : Bx W b #[a0, a1, a2, a3, a4, a5] T) (v : Value) : Bx (W.setCell ⟨b, 2, none⟩ v) b #[a0, a1, v, a3, a4, a5] T := by
  simpa using h.set 2 v
theorem Bx.put6_3 {W : World} {b : Nat} {T : TypeId} {a0 a1 a2 a3 a4 a5 : Value} (h : Bx W b #[a0, a1, a2, a3, a4, a5] T) (v : Value) : Bx (W.setCell ⟨b, 3, none⟩ v) b #[a0, a1, a2, v, a4, a5] T := by
  simpa using h.set 3 v
theorem Bx.put6_4 {W : World} {b : Nat} {T : TypeId} {a0 a1 a2 a3 a4 a5 : Value} (h : Bx W b #[a0, a1, a2, a3, a4, a5] T) (v : Value) : Bx (W.setCell ⟨b, 4, none⟩ v) b #[a0, a1, a2, a3, v, a5] T := by
  simpa using h.set 4 v
theorem Bx.put6_5 {W : World} {b : Nat} {T : TypeId} {a0 a1 a2 a3 a4 a5 : Value} (h : Bx W b #[a0, a1, a2, a3, a4, a5] T) (v : Value) : Bx (W.setCell ⟨b, 5, none⟩ v) b #[a0, a1, a2, a3, a4, v] T := by
  simpa using h.set 5 v

end Go.Proofs.Ytmkmnedojgigoaa
