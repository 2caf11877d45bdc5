import Derived.Test.YtipdohpbilabiaaVA
import Derived.Test.YtipdohpbilabiaaVE
/-! The chapter's example comes out. -/
namespace Go.Proofs.Ytipdohpbilabiaa
set_option linter.unusedSimpArgs false
set_option linter.unusedVariables false
open Go Go.RowKit

theorem exS_v : vB exS = true := by decide +kernel
theorem exS_best : earn exS.vz (bestP exS.vz) = 28 := by decide +kernel
theorem exS_fair : fairV exS.vz = 12 := by decide +kernel
theorem exS_few : fewV exS.vz 28 = (2, true) := by decide +kernel
theorem exS_copy : copyV exS.vz 3 = 1 := by decide +kernel
theorem exS_fit : fitA exS.vz (planM [[0, 3], [0, 2]]) = true := by decide +kernel
theorem exS_plan : plB exS [[0, 3], [0, 2]] = true := by decide +kernel

set_option maxRecDepth 100000 in
set_option maxHeartbeats 4000000 in
theorem works_any (w : World) : Calls Try.prog 14 #[] w fun e w' => e = .returned (.bool true) ∧ Below w.heap.size w w' := by
  have hEx := Example_any w
  go_enter Try.func14, Try.ntmps14
  go_wp2_with fail
  refine hEx.mono ?_
  rintro e V1 ⟨hb, ab, ast, ae, cb, cs, ce, rfl, hX⟩
  clear hEx
  have hB : ∀ V, Swp V ab ast ae none exS → Calls Try.prog 27 #[.agg #[.slice ab 2 cb, .slice ast 4 cs, .slice ae 4 ce, .slice none 0 0, .int .i64 1]] V fun e w' => e = .returned (.tuple #[.int .i64 28, .int .i64 0]) ∧ Below V.heap.size V w' := fun V h => by
    have h := Best_ok ab ast ae none cb cs ce 0 exS V h exS_v
    rw [exS_best] at h
    exact h
  have hF : ∀ V, Swp V ab ast ae none exS → Calls Try.prog 31 #[.agg #[.slice ab 2 cb, .slice ast 4 cs, .slice ae 4 ce, .slice none 0 0, .int .i64 1]] V fun e w' => e = .returned (.tuple #[.int .i64 12, .int .i64 0]) ∧ Below V.heap.size V w' := fun V h => by
    have h := Fair_ok ab ast ae none cb cs ce 0 exS V h exS_v (by decide)
    rw [exS_fair] at h
    exact h
  have hW : ∀ V, Swp V ab ast ae none exS → Calls Try.prog 38 #[.agg #[.slice ab 2 cb, .slice ast 4 cs, .slice ae 4 ce, .slice none 0 0, .int .i64 1], .int .i64 28] V fun e w' => e = .returned (.tuple #[.int .i64 2, .int .i64 0]) ∧ Below V.heap.size V w' := fun V h => by
    have h := Fewest_ok ab ast ae none cb cs ce 0 exS 28 V h exS_v (by decide) 2 true exS_few.symm
    skip
    exact h
  have hC : ∀ V, Swp V ab ast ae none exS → Calls Try.prog 40 #[.agg #[.slice ab 2 cb, .slice ast 4 cs, .slice ae 4 ce, .slice none 0 0, .int .i64 1], .int .i64 3] V fun e w' => e = .returned (.tuple #[.int .i64 1, .int .i64 0]) ∧ Below V.heap.size V w' := fun V h => by
    have h := Copy_ok ab ast ae none cb cs ce 0 exS 3 V h exS_v (by decide)
    rw [show Int.toNat 3 = 3 from rfl, exS_copy] at h
    exact h
  have hT : ∀ V (ap : Option Addr) (cp : Nat), Swp V ab ast ae none exS → Lss V ap [[0, 3], [0, 2]] → Calls Try.prog 19 #[.agg #[.slice ab 2 cb, .slice ast 4 cs, .slice ae 4 ce, .slice none 0 0, .int .i64 1], .slice ap 2 cp] V fun e w' => e = .returned (.tuple #[.bool true, .int .i64 0]) ∧ Below V.heap.size V w' := fun V ap cp h hP => by
    have h := Fits_ok ab ast ae none cb cs ce 0 exS ap cp [[0, 3], [0, 2]] V h hP exS_v exS_plan
    rw [exS_fit] at h
    exact h
  obtain ⟨V2, hV2, hb1, hs, y0⟩ := boxes1 V1 #[.slice none 0 0, .slice none 0 0, .slice none 0 0, .slice none 0 0, .int .i64 0] 26
  have hn := hb.size
  have hX2 := hX.below (below_put5 hb1 (b := V1.heap.size) (Nat.le_refl _) (.slice ab 2 cb) (.slice ast 4 cs) (.slice ae 4 ce) (.slice none 0 0) (.int .i64 1)) (Nat.le_refl _)
  have hb2 := below_put5 (hb.trans (hb1.mono hn)) (b := V1.heap.size) hn (.slice ab 2 cb) (.slice ast 4 cs) (.slice ae 4 ce) (.slice none 0 0) (.int .i64 1)
  have x0 := y0.set5 (.slice ab 2 cb) (.slice ast 4 cs) (.slice ae 4 ce) (.slice none 0 0) (.int .i64 1)
  have HX := hid (And.intro x0 (And.intro hX2 hb2))
  have c0 := y0.cell 0 rfl; have c1 := y0.cell 1 rfl; have c2 := y0.cell 2 rfl; have c3 := y0.cell 3 rfl; have c4 := y0.cell 4 rfl
  have f0 := y0.free 0; have f1 := y0.free 1; have f2 := y0.free 2; have f3 := y0.free 3; have f4 := y0.free 4
  clear x0 hX2 hb2 hb1 hX hb y0 hn
  go_upto_region 2 with fail
  obtain ⟨x0, hX, hb⟩ := HX.out
  clear HX hV2 c0 c1 c2 c3 c4 f0 f1 f2 f3 f4 hs
  generalize World.setCell _ _ _ = V4 at *
  have e0 := x0.cell 0 rfl; have e1 := x0.cell 1 rfl; have e2 := x0.cell 2 rfl; have e3 := x0.cell 3 rfl; have e4 := x0.cell 4 rfl
  go_wp2_with fail
  refine (hB _ hX).mono ?_
  rintro e Vn ⟨rfl, hb1⟩
  replace x0 := x0.below hb1
  replace hX := hX.below hb1 (Nat.le_refl _)
  replace hb := hb.trans (hb1.mono hb.size)
  clear hb1 e0 e1 e2 e3 e4 hB
  have e0 := x0.cell 0 rfl; have e1 := x0.cell 1 rfl; have e2 := x0.cell 2 rfl; have e3 := x0.cell 3 rfl; have e4 := x0.cell 4 rfl
  go_wp2_with fail
  refine (hF _ hX).mono ?_
  rintro e Vn ⟨rfl, hb1⟩
  replace x0 := x0.below hb1
  replace hX := hX.below hb1 (Nat.le_refl _)
  replace hb := hb.trans (hb1.mono hb.size)
  clear hb1 e0 e1 e2 e3 e4 hF
  have e0 := x0.cell 0 rfl; have e1 := x0.cell 1 rfl; have e2 := x0.cell 2 rfl; have e3 := x0.cell 3 rfl; have e4 := x0.cell 4 rfl
  go_wp2_with fail
  refine (hW _ hX).mono ?_
  rintro e Vn ⟨rfl, hb1⟩
  replace x0 := x0.below hb1
  replace hX := hX.below hb1 (Nat.le_refl _)
  replace hb := hb.trans (hb1.mono hb.size)
  clear hb1 e0 e1 e2 e3 e4 hW
  have e0 := x0.cell 0 rfl; have e1 := x0.cell 1 rfl; have e2 := x0.cell 2 rfl; have e3 := x0.cell 3 rfl; have e4 := x0.cell 4 rfl
  go_wp2_with fail
  refine (hC _ hX).mono ?_
  rintro e Vn ⟨rfl, hb1⟩
  replace x0 := x0.below hb1
  replace hX := hX.below hb1 (Nat.le_refl _)
  replace hb := hb.trans (hb1.mono hb.size)
  clear hb1 e0 e1 e2 e3 e4 hC
  have e0 := x0.cell 0 rfl; have e1 := x0.cell 1 rfl; have e2 := x0.cell 2 rfl; have e3 := x0.cell 3 rfl; have e4 := x0.cell 4 rfl
  obtain ⟨VT, rfl⟩ : ∃ V, V = Vn := ⟨_, rfl⟩
  obtain ⟨V5, hV5, hb1, hs, y0, y1, y2⟩ := boxes3 VT #[.int .i64 0, .int .i64 3] 3 #[.int .i64 0, .int .i64 2] 3 #[.slice (some ⟨VT.heap.size, 0, none⟩) 2 2, .slice (some ⟨VT.heap.size + 1, 0, none⟩) 2 2] 23
  have q0 : Ints V5 _ [0, 3] := Ints.of_bx y0 (by decide) (by decide)
  have q1 : Ints V5 _ [0, 2] := Ints.of_bx y1 (by decide) (by decide)
  have q2 : Lss V5 _ [[0, 3], [0, 2]] := Lss.of_bx y2 (by decide) (fun i ks hi => by
    match i, hi with
    | 0, hi => cases hi; exact ⟨_, _, rfl, q0⟩
    | 1, hi => cases hi; exact ⟨_, _, rfl, q1⟩)
  replace hX := hX.below hb1 (Nat.le_refl _)
  replace hb := hb.trans (hb1.mono hb.size)
  have HX := hid (And.intro hb (hT _ _ 2 hX q2))
  clear hb hb1 hX q0 q1 q2 y0 y1 y2 hT x0
  go_wp2_with fail
  obtain ⟨hb, hT⟩ := HX.out
  refine hT.mono ?_
  rintro e Vm ⟨rfl, hb1⟩
  replace hb := hb.trans (hb1.mono hb.size)
  clear HX hT e0 e1 e2 e3 e4 hV5 hs hb1
  go_wp2
  go_ret
  exact ⟨rfl, hb⟩
end Go.Proofs.Ytipdohpbilabiaa
