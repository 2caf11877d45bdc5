import Derived.Test.YteianfbdhakhpaaTO
import Derived.Test.YteianfbdhakhpaaTF
import Derived.Laws.StructEq
/-! The chapter's example. -/
namespace Go.Proofs.Yteianfbdhakhpaa
set_option linter.unusedSimpArgs false
set_option linter.unusedVariables false
open Go Go.RowKit

theorem Bx.set_ne {W : World} {b : Nat} {vs : Array Value} {T : TypeId} (h : Bx W b vs T) (a : Addr) (v : Value) (hn : b ≠ a.block) : Bx (W.setCell a v) b vs T :=
  (Below.heap_setCell W a v b hn).trans h
theorem put8 {W : World} {b : Nat} {T : TypeId} {u0 u1 u2 u3 u4 u5 u6 u7 : Value} (h : Bx W b #[u0, u1, u2, u3, u4, u5, u6, u7] T) (v0 v1 v2 v3 v4 v5 v6 v7 : Value) : Bx ((((((((W.setCell ⟨b, 0, none⟩ v0).setCell ⟨b, 1, none⟩ v1).setCell ⟨b, 2, none⟩ v2).setCell ⟨b, 3, none⟩ v3).setCell ⟨b, 4, none⟩ v4).setCell ⟨b, 5, none⟩ v5).setCell ⟨b, 6, none⟩ v6).setCell ⟨b, 7, none⟩ v7) b #[v0, v1, v2, v3, v4, v5, v6, v7] T := by
  have h0 : Bx _ b #[v0, u1, u2, u3, u4, u5, u6, u7] T := h.set 0 v0
  have h1 : Bx _ b #[v0, v1, u2, u3, u4, u5, u6, u7] T := h0.set 1 v1
  have h2 : Bx _ b #[v0, v1, v2, u3, u4, u5, u6, u7] T := h1.set 2 v2
  have h3 : Bx _ b #[v0, v1, v2, v3, u4, u5, u6, u7] T := h2.set 3 v3
  have h4 : Bx _ b #[v0, v1, v2, v3, v4, u5, u6, u7] T := h3.set 4 v4
  have h5 : Bx _ b #[v0, v1, v2, v3, v4, v5, u6, u7] T := h4.set 5 v5
  have h6 : Bx _ b #[v0, v1, v2, v3, v4, v5, v6, u7] T := h5.set 6 v6
  have h7 : Bx _ b #[v0, v1, v2, v3, v4, v5, v6, v7] T := h6.set 7 v7
  exact h7
theorem put8_ne {W : World} {b c : Nat} {T : TypeId} {vs : Array Value} (h : Bx W c vs T) (hn : c ≠ b) (v0 v1 v2 v3 v4 v5 v6 v7 : Value) : Bx ((((((((W.setCell ⟨b, 0, none⟩ v0).setCell ⟨b, 1, none⟩ v1).setCell ⟨b, 2, none⟩ v2).setCell ⟨b, 3, none⟩ v3).setCell ⟨b, 4, none⟩ v4).setCell ⟨b, 5, none⟩ v5).setCell ⟨b, 6, none⟩ v6).setCell ⟨b, 7, none⟩ v7) c vs T :=
  (((((((h.set_ne _ v0 hn).set_ne _ v1 hn).set_ne _ v2 hn).set_ne _ v3 hn).set_ne _ v4 hn).set_ne _ v5 hn).set_ne _ v6 hn).set_ne _ v7 hn
theorem below_put8 {B b : Nat} {a W : World} (h : Below B a W) (hb : B ≤ b) (v0 v1 v2 v3 v4 v5 v6 v7 : Value) : Below B a ((((((((W.setCell ⟨b, 0, none⟩ v0).setCell ⟨b, 1, none⟩ v1).setCell ⟨b, 2, none⟩ v2).setCell ⟨b, 3, none⟩ v3).setCell ⟨b, 4, none⟩ v4).setCell ⟨b, 5, none⟩ v5).setCell ⟨b, 6, none⟩ v6).setCell ⟨b, 7, none⟩ v7) :=
  (((((((h.setCell (p := ⟨b, 0, none⟩) hb v0).setCell (p := ⟨b, 1, none⟩) hb v1).setCell (p := ⟨b, 2, none⟩) hb v2).setCell (p := ⟨b, 3, none⟩) hb v3).setCell (p := ⟨b, 4, none⟩) hb v4).setCell (p := ⟨b, 5, none⟩) hb v5).setCell (p := ⟨b, 6, none⟩) hb v6).setCell (p := ⟨b, 7, none⟩) hb v7
/-- The times of the chapter's train. -/
def exT : List Int := [0, 10, 40, 50, 60]
def exX : Pu := ⟨3, 4, 10, 2, 30, 100, 1, exT⟩
def exY : Pu := ⟨3, 4, 10, 2, 30, 100, 0, exT⟩
def ExP (w : World) (e : Ending) (w' : World) : Prop := Below w.heap.size w w' ∧ ∃ (aT : Option Addr) (cT : Nat), e = .returned (.agg #[.int .i64 3, .int .i64 4, .int .i64 10, .int .i64 2, .int .i64 30, .int .i64 100, .int .i64 1, .slice aT 5 cT]) ∧ Ints w' aT exT

set_option maxRecDepth 100000 in
set_option maxHeartbeats 2000000 in
theorem Example_any (w : World) : Calls Try.prog 47 #[] w (ExP w) := by
  obtain ⟨W, hW, hb, hs, y0, y1⟩ := boxes2 w #[.int .i64 0, .int .i64 0, .int .i64 0, .int .i64 0, .int .i64 0, .int .i64 0, .int .i64 0, .slice none 0 0] 24 #[.int .i64 0, .int .i64 10, .int .i64 40, .int .i64 50, .int .i64 60] 3
  have x0 := put8 y0 (.int .i64 3) (.int .i64 4) (.int .i64 10) (.int .i64 2) (.int .i64 30) (.int .i64 100) (.int .i64 1) (.slice (some ⟨w.heap.size + 1, 0, none⟩) 5 5)
  have hb' := below_put8 hb (Nat.le_refl _) (b := w.heap.size) (.int .i64 3) (.int .i64 4) (.int .i64 10) (.int .i64 2) (.int .i64 30) (.int .i64 100) (.int .i64 1) (.slice (some ⟨w.heap.size + 1, 0, none⟩) 5 5)
  have x1 := put8_ne (b := w.heap.size) y1 (by omega) (.int .i64 3) (.int .i64 4) (.int .i64 10) (.int .i64 2) (.int .i64 30) (.int .i64 100) (.int .i64 1) (.slice (some ⟨w.heap.size + 1, 0, none⟩) 5 5)
  have HX := hid (And.intro x0 (And.intro x1 hb'))
  have c0 := y0.cell 0 rfl; have c1 := y0.cell 1 rfl; have c2 := y0.cell 2 rfl; have c3 := y0.cell 3 rfl; have c4 := y0.cell 4 rfl; have c5 := y0.cell 5 rfl; have c6 := y0.cell 6 rfl; have c7 := y0.cell 7 rfl
  have f0 := y0.free 0; have f1 := y0.free 1; have f2 := y0.free 2; have f3 := y0.free 3; have f4 := y0.free 4; have f5 := y0.free 5; have f6 := y0.free 6; have f7 := y0.free 7
  clear x0 x1 y0 y1 hb hb'
  go_enter Try.func47, Try.ntmps47
  go_wp2_with fail
  obtain ⟨x0, x1, hb⟩ := HX.out
  clear HX hW c0 c1 c2 c3 c4 c5 c6 c7 f0 f1 f2 f3 f4 f5 f6 f7 hs
  generalize World.setCell _ _ _ = V4 at *
  have e0 := x0.cell 0 rfl; have e1 := x0.cell 1 rfl; have e2 := x0.cell 2 rfl; have e3 := x0.cell 3 rfl; have e4 := x0.cell 4 rfl; have e5 := x0.cell 5 rfl; have e6 := x0.cell 6 rfl; have e7 := x0.cell 7 rfl
  have q1 : Ints V4 _ exT := Ints.of_bx (xs := exT) x1 (by decide) (by decide)
  go_wp2
  refine bodyPost_ret (v := .agg #[.int .i64 3, .int .i64 4, .int .i64 10, .int .i64 2, .int .i64 30, .int .i64 100, .int .i64 1, .slice (some ⟨w.heap.size + 1, 0, none⟩) 5 5]) ?_ rfl ⟨hb, _, _, rfl, q1⟩
  simp [results, Try.results47, go_sem, e0, e1, e2, e3, e4, e5, e6, e7]

theorem ex_many : erX exX true = 0 ∧ manN exX = 5 := by decide +kernel
theorem ex_lists : lsN exX = 3 := by decide +kernel
theorem ex_ask : askLo exX 6 = 0 ∧ askHi exX 6 = 1 ∧ askE exX 6 = 0 := by decide +kernel
theorem ex_write : wrE exX [1, 4] 7 = 0 ∧ wrLi exX [1, 4] 7 = [7, 37, 47, 147, 157, 187] := by decide +kernel
theorem ex_read : rdE exY true = 0 ∧ rdLi exY true = [6] := by decide +kernel
end Go.Proofs.Yteianfbdhakhpaa
