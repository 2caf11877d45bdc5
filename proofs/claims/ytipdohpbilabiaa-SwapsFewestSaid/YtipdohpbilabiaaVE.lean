import Derived.Test.YtipdohpbilabiaaVD
/-! The chapter's example. -/
namespace Go.Proofs.Ytipdohpbilabiaa
set_option linter.unusedSimpArgs false
set_option linter.unusedVariables false
open Go Go.RowKit

/-- The visit of the chapter's example. -/
def exS : Sw := ⟨[[0, 1], [0, 2]], [0, 0, 0, 1], [[5, 9], [4, 1], [6, 3], [7, 8]], [], 1⟩
theorem gput5 (W : World) (b : Nat) (v0 v1 v2 v3 v4 : Value) : W.grownBy (((((W.setCell ⟨b, 0, none⟩ v0).setCell ⟨b, 1, none⟩ v1).setCell ⟨b, 2, none⟩ v2).setCell ⟨b, 3, none⟩ v3).setCell ⟨b, 4, none⟩ v4) (some b) :=
  (((((gset _ ⟨b, 0, none⟩ v0).trans (gset _ ⟨b, 1, none⟩ v1)).trans (gset _ ⟨b, 2, none⟩ v2)).trans (gset _ ⟨b, 3, none⟩ v3)).trans (gset _ ⟨b, 4, none⟩ v4))
theorem below_put5 {B b : Nat} {a W : World} (h : Below B a W) (hb : B ≤ b) (v0 v1 v2 v3 v4 : Value) : Below B a (((((W.setCell ⟨b, 0, none⟩ v0).setCell ⟨b, 1, none⟩ v1).setCell ⟨b, 2, none⟩ v2).setCell ⟨b, 3, none⟩ v3).setCell ⟨b, 4, none⟩ v4) := (((((h.setCell (p := ⟨b, 0, none⟩) hb v0).setCell (p := ⟨b, 1, none⟩) hb v1).setCell (p := ⟨b, 2, none⟩) hb v2).setCell (p := ⟨b, 3, none⟩) hb v3).setCell (p := ⟨b, 4, none⟩) hb v4)
theorem Bx.set5 {W : World} {b : Nat} {T : TypeId} {a0 a1 a2 a3 a4 : Value} (h : Bx W b #[a0, a1, a2, a3, a4] T) (v0 v1 v2 v3 v4 : Value) : Bx (((((W.setCell ⟨b, 0, none⟩ v0).setCell ⟨b, 1, none⟩ v1).setCell ⟨b, 2, none⟩ v2).setCell ⟨b, 3, none⟩ v3).setCell ⟨b, 4, none⟩ v4) b #[v0, v1, v2, v3, v4] T := by
  simpa using (((((h.set 0 v0).set 1 v1).set 2 v2).set 3 v3).set 4 v4)
/-- Rows of lists out of boxes. -/
theorem Lss.of_bx {w : World} {g : Nat} {T : TypeId} {LL : List (List Int)} {vs : Array Value} (h : Bx w g vs T) (h1 : LL.length ≤ 9223372036854775807) (h2 : ∀ (i : Nat) (ks : List Int), LL[i]? = some ks → ∃ a' c, vs[i]? = some (.slice a' ks.length c) ∧ Ints w a' ks) : Lss w (some ⟨g, 0, none⟩) LL := by
  refine ⟨h1, fun i ks hi => ?_⟩
  obtain ⟨a', c, e, hI⟩ := h2 i ks hi
  exact ⟨g, 0, a', c, rfl, h.lt, by rw [Nat.zero_add]; exact h.cell i e, hI⟩
def ExP (w : World) (e : Ending) (w' : World) : Prop := Below w.heap.size w w' ∧ ∃ (ab ast ae : Option Addr) (cb cs ce : Nat), e = .returned (.agg #[.slice ab 2 cb, .slice ast 4 cs, .slice ae 4 ce, .slice none 0 0, .int .i64 1]) ∧ Swp w' ab ast ae none exS

set_option maxRecDepth 100000 in
set_option maxHeartbeats 2000000 in
theorem Example_any (w : World) : Calls Try.prog 48 #[] w (ExP w) := by
  obtain ⟨W, hW, hb, hs, y0, y1, y2, y3, y4⟩ := boxes5 w #[.slice none 0 0, .slice none 0 0, .slice none 0 0, .slice none 0 0, .int .i64 0] 26 #[.int .i64 0, .int .i64 1] 3 #[.int .i64 0, .int .i64 2] 3 #[.slice (some ⟨w.heap.size + 1, 0, none⟩) 2 2, .slice (some ⟨w.heap.size + 1 + 1, 0, none⟩) 2 2] 23 #[.int .i64 0, .int .i64 0, .int .i64 0, .int .i64 1] 3
  obtain ⟨W1, hW1, hb1, hs1, y5, y6, y7, y8, y9⟩ := boxes5 W #[.int .i64 5, .int .i64 9] 3 #[.int .i64 4, .int .i64 1] 3 #[.int .i64 6, .int .i64 3] 3 #[.int .i64 7, .int .i64 8] 3 #[.slice (some ⟨w.heap.size + 1 + 1 + 1 + 1 + 1, 0, none⟩) 2 2, .slice (some ⟨w.heap.size + 1 + 1 + 1 + 1 + 1 + 1, 0, none⟩) 2 2, .slice (some ⟨w.heap.size + 1 + 1 + 1 + 1 + 1 + 1 + 1, 0, none⟩) 2 2, .slice (some ⟨w.heap.size + 1 + 1 + 1 + 1 + 1 + 1 + 1 + 1, 0, none⟩) 2 2] 23
  rw [hs] at y5 y6 y7 y8 y9
  replace y0 := y0.below hb1; replace y1 := y1.below hb1; replace y2 := y2.below hb1; replace y3 := y3.below hb1; replace y4 := y4.below hb1
  replace hb := hb.trans (hb1.mono hb.size)
  clear hb1 hs1
  have hg := gput5 W1 w.heap.size (.slice (some ⟨w.heap.size + 1 + 1 + 1, 0, none⟩) 2 2) (.slice (some ⟨w.heap.size + 1 + 1 + 1 + 1, 0, none⟩) 4 4) (.slice (some ⟨w.heap.size + 1 + 1 + 1 + 1 + 1 + 1 + 1 + 1 + 1, 0, none⟩) 4 4) (.slice none 0 0) (.int .i64 1)
  have x0 := y0.set5 (.slice (some ⟨w.heap.size + 1 + 1 + 1, 0, none⟩) 2 2) (.slice (some ⟨w.heap.size + 1 + 1 + 1 + 1, 0, none⟩) 4 4) (.slice (some ⟨w.heap.size + 1 + 1 + 1 + 1 + 1 + 1 + 1 + 1 + 1, 0, none⟩) 4 4) (.slice none 0 0) (.int .i64 1)
  have hb' := below_put5 hb (Nat.le_refl _) (b := w.heap.size) (.slice (some ⟨w.heap.size + 1 + 1 + 1, 0, none⟩) 2 2) (.slice (some ⟨w.heap.size + 1 + 1 + 1 + 1, 0, none⟩) 4 4) (.slice (some ⟨w.heap.size + 1 + 1 + 1 + 1 + 1 + 1 + 1 + 1 + 1, 0, none⟩) 4 4) (.slice none 0 0) (.int .i64 1)
  have x1 := y1.gb hg (fun k hk => by injection hk with hk; omega); have x2 := y2.gb hg (fun k hk => by injection hk with hk; omega); have x3 := y3.gb hg (fun k hk => by injection hk with hk; omega); have x4 := y4.gb hg (fun k hk => by injection hk with hk; omega); have x5 := y5.gb hg (fun k hk => by injection hk with hk; omega); have x6 := y6.gb hg (fun k hk => by injection hk with hk; omega); have x7 := y7.gb hg (fun k hk => by injection hk with hk; omega); have x8 := y8.gb hg (fun k hk => by injection hk with hk; omega); have x9 := y9.gb hg (fun k hk => by injection hk with hk; omega); 
  have HX := hid (And.intro x0 (And.intro x1 (And.intro x2 (And.intro x3 (And.intro x4 (And.intro x5 (And.intro x6 (And.intro x7 (And.intro x8 (And.intro x9 hb'))))))))))
  have c0 := y0.cell 0 rfl; have c1 := y0.cell 1 rfl; have c2 := y0.cell 2 rfl; have c3 := y0.cell 3 rfl; have c4 := y0.cell 4 rfl
  have f0 := y0.free 0; have f1 := y0.free 1; have f2 := y0.free 2; have f3 := y0.free 3; have f4 := y0.free 4
  clear x0 x1 x2 x3 x4 x5 x6 x7 x8 x9 y0 y1 y2 y3 y4 y5 y6 y7 y8 y9 hb hg hb'
  go_enter Try.func48, Try.ntmps48
  go_wp2_with fail
  obtain ⟨x0, x1, x2, x3, x4, x5, x6, x7, x8, x9, hb⟩ := HX.out
  clear HX hW hW1 c0 c1 c2 c3 c4 f0 f1 f2 f3 f4 hs
  generalize World.setCell _ _ _ = V4 at *
  have e0 := x0.cell 0 rfl; have e1 := x0.cell 1 rfl; have e2 := x0.cell 2 rfl; have e3 := x0.cell 3 rfl; have e4 := x0.cell 4 rfl
  have q1 : Ints V4 _ [0, 1] := Ints.of_bx x1 (by decide) (by decide)
  have q2 : Ints V4 _ [0, 2] := Ints.of_bx x2 (by decide) (by decide)
  have q4 : Ints V4 _ [0, 0, 0, 1] := Ints.of_bx x4 (by decide) (by decide)
  have q5 : Ints V4 _ [5, 9] := Ints.of_bx x5 (by decide) (by decide)
  have q6 : Ints V4 _ [4, 1] := Ints.of_bx x6 (by decide) (by decide)
  have q7 : Ints V4 _ [6, 3] := Ints.of_bx x7 (by decide) (by decide)
  have q8 : Ints V4 _ [7, 8] := Ints.of_bx x8 (by decide) (by decide)
  have q3 : Lss V4 _ exS.bs := Lss.of_bx x3 (by decide) (fun i ks hi => by
    match i, hi with
    | 0, hi => cases hi; exact ⟨_, _, rfl, q1⟩
    | 1, hi => cases hi; exact ⟨_, _, rfl, q2⟩)
  have q9 : Lss V4 _ exS.er := Lss.of_bx x9 (by decide) (fun i ks hi => by
    match i, hi with
    | 0, hi => cases hi; exact ⟨_, _, rfl, q5⟩
    | 1, hi => cases hi; exact ⟨_, _, rfl, q6⟩
    | 2, hi => cases hi; exact ⟨_, _, rfl, q7⟩
    | 3, hi => cases hi; exact ⟨_, _, rfl, q8⟩)
  have qk : Prs V4 none exS.ks := ⟨by decide, by decide, fun i hi => absurd hi (by simp [exS])⟩
  go_wp2
  refine bodyPost_ret (v := .agg #[.slice (some ⟨w.heap.size + 1 + 1 + 1, 0, none⟩) 2 2, .slice (some ⟨w.heap.size + 1 + 1 + 1 + 1, 0, none⟩) 4 4, .slice (some ⟨w.heap.size + 1 + 1 + 1 + 1 + 1 + 1 + 1 + 1 + 1, 0, none⟩) 4 4, .slice none 0 0, .int .i64 1]) ?_ rfl ⟨hb, _, _, _, _, _, _, rfl, q3, q4, q9, qk⟩
  simp [results, Try.results48, go_sem, e0, e1, e2, e3, e4]
end Go.Proofs.Ytipdohpbilabiaa
