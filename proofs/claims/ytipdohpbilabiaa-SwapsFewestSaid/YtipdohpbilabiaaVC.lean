import Derived.Test.YtipdohpbilabiaaVB
/-! A visit with one more copy. -/
namespace Go.Proofs.Ytipdohpbilabiaa
set_option linter.unusedSimpArgs false
set_option linter.unusedVariables false
open Go Go.RowKit
theorem gput11 (W : World) (b : Nat) (v0 v1 v2 v3 v4 v5 v6 v7 v8 v9 v10 : Value) : W.grownBy (((((((((((W.setCell ⟨b, 0, none⟩ v0).setCell ⟨b, 1, none⟩ v1).setCell ⟨b, 2, none⟩ v2).setCell ⟨b, 3, none⟩ v3).setCell ⟨b, 4, none⟩ v4).setCell ⟨b, 5, none⟩ v5).setCell ⟨b, 6, none⟩ v6).setCell ⟨b, 7, none⟩ v7).setCell ⟨b, 8, none⟩ v8).setCell ⟨b, 9, none⟩ v9).setCell ⟨b, 10, none⟩ v10) (some b) :=
  (((((((((((gset _ ⟨b, 0, none⟩ v0).trans (gset _ ⟨b, 1, none⟩ v1)).trans (gset _ ⟨b, 2, none⟩ v2)).trans (gset _ ⟨b, 3, none⟩ v3)).trans (gset _ ⟨b, 4, none⟩ v4)).trans (gset _ ⟨b, 5, none⟩ v5)).trans (gset _ ⟨b, 6, none⟩ v6)).trans (gset _ ⟨b, 7, none⟩ v7)).trans (gset _ ⟨b, 8, none⟩ v8)).trans (gset _ ⟨b, 9, none⟩ v9)).trans (gset _ ⟨b, 10, none⟩ v10))

set_option maxRecDepth 100000 in
set_option maxHeartbeats 2000000 in
theorem withCopy_any (ab ast ae ak : Option Addr) (cb cs ce ck : Nat) (X : Sw) (p q : Pl) (i : Nat) (x : Int) (hx : X.st[i]? = some x) (h9 : ∀ y ∈ X.st, 0 ≤ y ∧ y ≤ 9) (hl : X.st.length ≤ 6) (w : World) (hI : Ints w ast X.st) : Calls Try.prog 73 #[.agg #[.slice ab X.bs.length cb, .slice ast X.st.length cs, .slice ae X.er.length ce, .slice ak X.ks.length ck, .int .i64 X.ch, .int .u8 (p.a : Int), .int .u8 (p.b : Int), .int .u8 (p.c : Int), .int .u8 (q.a : Int), .int .u8 (q.b : Int), .int .u8 (q.c : Int)], .int .i64 (i : Int)] w fun e w' => ∃ g c, e = .returned (.agg #[.slice ab X.bs.length cb, .slice (some ⟨g, 0, none⟩) X.st.length c, .slice ae X.er.length ce, .slice ak X.ks.length ck, .int .i64 X.ch, .int .u8 (p.a : Int), .int .u8 (p.b : Int), .int .u8 (p.c : Int), .int .u8 (q.a : Int), .int .u8 (q.b : Int), .int .u8 (q.c : Int)]) ∧ Ints w' (some ⟨g, 0, none⟩) (X.st.set i (x + 1)) ∧ Below w.heap.size w w' := by
  obtain ⟨W, hW, hbw, hsz, x0, x1⟩ := boxes2 w #[.slice ab X.bs.length cb, .slice ast X.st.length cs, .slice ae X.er.length ce, .slice ak X.ks.length ck, .int .i64 X.ch, .int .u8 (p.a : Int), .int .u8 (p.b : Int), .int .u8 (p.c : Int), .int .u8 (q.a : Int), .int .u8 (q.b : Int), .int .u8 (q.c : Int)] 72 #[.slice none 0 0, .slice none 0 0, .slice none 0 0, .slice none 0 0, .int .i64 0, .int .u8 0, .int .u8 0, .int .u8 0, .int .u8 0, .int .u8 0, .int .u8 0] 72
  have hi : i < X.st.length := (List.getElem?_eq_some_iff.1 hx).1
  have hiI : (i : Int) < (X.st.length : Int) := by omega
  have hi0 : (0 : Int) ≤ (i : Int) := by omega
  have hx9 := h9 x (List.mem_of_getElem? hx)
  have hwr : IntKind.i64.wrap (x + 1) = x + 1 := IntWalk.i64_in _ (by omega)
  have hcl := cloneI_any ast cs X.st W (hI.below hbw (Nat.le_refl _)) (by omega)
  have H9 := hid h9
  have HX := hid hx
  clear hI h9 hx
  have c0 := x0.cell 0 rfl; have c1 := x0.cell 1 rfl; have c2 := x0.cell 2 rfl; have c3 := x0.cell 3 rfl; have c4 := x0.cell 4 rfl; have c5 := x0.cell 5 rfl; have c6 := x0.cell 6 rfl; have c7 := x0.cell 7 rfl; have c8 := x0.cell 8 rfl; have c9 := x0.cell 9 rfl; have c10 := x0.cell 10 rfl
  go_enter Try.func73, Try.ntmps73
  go_wp2_with fail
  refine hcl.mono ?_
  rintro e V1 ⟨hb1, v, rfl, hown⟩
  have hsz1 : w.heap.size + 1 + 1 ≤ W.heap.size := by omega
  have hbb := hbw.trans (hb1.mono hbw.size)
  replace x0 := x0.below hb1
  replace x1 := x1.below hb1
  obtain ⟨g, c, rfl, hge⟩ : ∃ g c, v = .slice (some ⟨g, 0, none⟩) X.st.length c ∧ W.heap.size ≤ g := by
    rcases hown.2 with ⟨_, h0⟩ | ⟨g, cap, cur, e, hge, _⟩
    · omega
    · exact ⟨g, cap, e, hge⟩
  clear hW c0 c1 c2 c3 c4 c5 c6 c7 c8 c9 c10 hb1 hcl hbw
  have c0 := x0.cell 0 rfl; have c1 := x0.cell 1 rfl; have c2 := x0.cell 2 rfl; have c3 := x0.cell 3 rfl; have c4 := x0.cell 4 rfl; have c5 := x0.cell 5 rfl; have c6 := x0.cell 6 rfl; have c7 := x0.cell 7 rfl; have c8 := x0.cell 8 rfl; have c9 := x0.cell 9 rfl; have c10 := x0.cell 10 rfl
  have f0 := x0.free 0; have f1 := x0.free 1; have f2 := x0.free 2; have f3 := x0.free 3; have f4 := x0.free 4; have f5 := x0.free 5; have f6 := x0.free 6; have f7 := x0.free 7; have f8 := x0.free 8; have f9 := x0.free 9; have f10 := x0.free 10
  go_upto_region 2 with fail
  have hg1 : V1.grownBy (V1.setCell ⟨w.heap.size, 1, none⟩ (.slice (some ⟨g, 0, none⟩) X.st.length c)) (some w.heap.size) := gset V1 _ _
  replace hown := own_keep hown hg1 (fun k hk e => by simp [Value.ownBlock] at hk; injection e with e; omega)
  have x1' := x1.gb hg1 (fun k hk => by injection hk with hk; omega)
  have x0' := x0.set 1 (.slice (some ⟨g, 0, none⟩) X.st.length c)
  have hb' := hbb.setCell (p := ⟨w.heap.size, 1, none⟩) (Nat.le_refl _) (.slice (some ⟨g, 0, none⟩) X.st.length c)
  clear hg1 x0 x1 hbb c0 c1 c2 c3 c4 c5 c6 c7 c8 c9 c10 f0 f1 f2 f3 f4 f5 f6 f7 f8 f9 f10
  generalize World.setCell _ _ _ = V2 at *
  obtain ⟨x0, x1, hbb⟩ : Bx V2 w.heap.size #[.slice ab X.bs.length cb, .slice (some ⟨g, 0, none⟩) X.st.length c, .slice ae X.er.length ce, .slice ak X.ks.length ck, .int .i64 X.ch, .int .u8 (p.a : Int), .int .u8 (p.b : Int), .int .u8 (p.c : Int), .int .u8 (q.a : Int), .int .u8 (q.b : Int), .int .u8 (q.c : Int)] 72 ∧ Bx V2 (w.heap.size + 1) #[.slice none 0 0, .slice none 0 0, .slice none 0 0, .slice none 0 0, .int .i64 0, .int .u8 0, .int .u8 0, .int .u8 0, .int .u8 0, .int .u8 0, .int .u8 0] 72 ∧ Below w.heap.size w V2 := ⟨x0', x1', hb'⟩
  clear x0' x1' hb'
  have c0 := x0.cell 0 rfl; have c1 := x0.cell 1 rfl; have c2 := x0.cell 2 rfl; have c3 := x0.cell 3 rfl; have c4 := x0.cell 4 rfl; have c5 := x0.cell 5 rfl; have c6 := x0.cell 6 rfl; have c7 := x0.cell 7 rfl; have c8 := x0.cell 8 rfl; have c9 := x0.cell 9 rfl; have c10 := x0.cell 10 rfl
  have hcell := World.ownsRow.cellAt hown i (by omega)
  have hfr := hown.frozenAt i
  rw [List.getElem?_map, HX.out] at hcell
  replace hcell : V2.cell? ⟨g, i, none⟩ = some (.int .i64 x) := hcell
  go_upto_region 3 with fail
  obtain ⟨hown', hg2⟩ := hown.stored i (.int .i64 (x + 1))
  have x1' := x1.gb hg2 (fun k hk => by injection hk with hk; omega)
  have x0' := x0.gb hg2 (fun k hk => by injection hk with hk; omega)
  have hb' := hbb.setCell (p := ⟨g, i, none⟩) (by show w.heap.size ≤ g; omega) (.int .i64 (x + 1))
  clear hg2 x0 x1 hbb c0 c1 c2 c3 c4 c5 c6 c7 c8 c9 c10 hcell hfr hown
  generalize World.setCell _ _ _ = V3 at *
  obtain ⟨x0, x1⟩ := And.intro x0' x1'
  clear x0' x1'
  have c0 := x0.cell 0 rfl; have c1 := x0.cell 1 rfl; have c2 := x0.cell 2 rfl; have c3 := x0.cell 3 rfl; have c4 := x0.cell 4 rfl; have c5 := x0.cell 5 rfl; have c6 := x0.cell 6 rfl; have c7 := x0.cell 7 rfl; have c8 := x0.cell 8 rfl; have c9 := x0.cell 9 rfl; have c10 := x0.cell 10 rfl
  have d0 := x1.cell 0 rfl; have d1 := x1.cell 1 rfl; have d2 := x1.cell 2 rfl; have d3 := x1.cell 3 rfl; have d4 := x1.cell 4 rfl; have d5 := x1.cell 5 rfl; have d6 := x1.cell 6 rfl; have d7 := x1.cell 7 rfl; have d8 := x1.cell 8 rfl; have d9 := x1.cell 9 rfl; have d10 := x1.cell 10 rfl
  have f0 := x1.free 0; have f1 := x1.free 1; have f2 := x1.free 2; have f3 := x1.free 3; have f4 := x1.free 4; have f5 := x1.free 5; have f6 := x1.free 6; have f7 := x1.free 7; have f8 := x1.free 8; have f9 := x1.free 9; have f10 := x1.free 10
  have hg3 := gput11 V3 (w.heap.size + 1) (.slice ab X.bs.length cb) (.slice (some ⟨g, 0, none⟩) X.st.length c) (.slice ae X.er.length ce) (.slice ak X.ks.length ck) (.int .i64 X.ch) (.int .u8 (p.a : Int)) (.int .u8 (p.b : Int)) (.int .u8 (p.c : Int)) (.int .u8 (q.a : Int)) (.int .u8 (q.b : Int)) (.int .u8 (q.c : Int))
  have hown3 := own_keep hown' hg3 (fun k hk e => by simp [Value.ownBlock] at hk; injection e with e; omega)
  have xg' := x1.set11 (.slice ab X.bs.length cb) (.slice (some ⟨g, 0, none⟩) X.st.length c) (.slice ae X.er.length ce) (.slice ak X.ks.length ck) (.int .i64 X.ch) (.int .u8 (p.a : Int)) (.int .u8 (p.b : Int)) (.int .u8 (p.c : Int)) (.int .u8 (q.a : Int)) (.int .u8 (q.b : Int)) (.int .u8 (q.c : Int))
  have hb2 := below_put11 hb' (b := w.heap.size + 1) (by omega) (.slice ab X.bs.length cb) (.slice (some ⟨g, 0, none⟩) X.st.length c) (.slice ae X.er.length ce) (.slice ak X.ks.length ck) (.int .i64 X.ch) (.int .u8 (p.a : Int)) (.int .u8 (p.b : Int)) (.int .u8 (p.c : Int)) (.int .u8 (q.a : Int)) (.int .u8 (q.b : Int)) (.int .u8 (q.c : Int))
  clear x0 x1 hown' hg3
  have HY := hid (And.intro xg' (And.intro hb2 hown3))
  clear xg' hb2 hown3
  go_wp2_with fail
  obtain ⟨xg', hb2, hown3⟩ := HY.out
  generalize World.setCell _ _ _ = V4 at *
  obtain ⟨xg, _⟩ := And.intro xg' True.intro
  clear xg'
  have e0 := xg.cell 0 rfl; have e1 := xg.cell 1 rfl; have e2 := xg.cell 2 rfl; have e3 := xg.cell 3 rfl; have e4 := xg.cell 4 rfl; have e5 := xg.cell 5 rfl; have e6 := xg.cell 6 rfl; have e7 := xg.cell 7 rfl; have e8 := xg.cell 8 rfl; have e9 := xg.cell 9 rfl; have e10 := xg.cell 10 rfl
  have HO : Ints V4 (some ⟨g, 0, none⟩) (X.st.set i (x + 1)) := by
    rw [← List.map_set] at hown3
    have h1 : X.st.length = (X.st.set i (x + 1)).length := by simp
    obtain ⟨a, ca, e, hI⟩ := Ints.of_own (by rw [← h1]; exact hown3) (by rw [← h1]; omega) (fun y hy => by
      rcases List.mem_or_eq_of_mem_set hy with h | h
      · have := H9.out y h; omega
      · omega)
    simp only [Value.slice.injEq] at e
    rw [e.1]
    exact hI
  clear hown3 HY
  go_wp2
  refine bodyPost_ret (v := .agg #[.slice ab X.bs.length cb, .slice (some ⟨g, 0, none⟩) X.st.length c, .slice ae X.er.length ce, .slice ak X.ks.length ck, .int .i64 X.ch, .int .u8 (p.a : Int), .int .u8 (p.b : Int), .int .u8 (p.c : Int), .int .u8 (q.a : Int), .int .u8 (q.b : Int), .int .u8 (q.c : Int)]) ?_ rfl ⟨g, c, rfl, HO, hb2⟩
  simp [results, Try.results73, go_sem, e0, e1, e2, e3, e4, e5, e6, e7, e8, e9, e10]
end Go.Proofs.Ytipdohpbilabiaa
