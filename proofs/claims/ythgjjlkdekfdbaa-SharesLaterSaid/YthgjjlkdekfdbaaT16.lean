import Derived.Test.YthgjjlkdekfdbaaT15
import Derived.Test.YthgjjlkdekfdbaaT10
import Derived.Test.YthgjjlkdekfdbaaT9
/-! The chapter's examples come out. -/
namespace Go.Proofs.Ythgjjlkdekfdbaa
set_option linter.unusedSimpArgs false
set_option linter.unusedVariables false
open Go Go.RowKit

theorem exC_v : shB exC 700 = true := by decide +kernel
theorem ex_week : (settledW 700 exC 2013).op = 1488 ∧ (settledW 700 exC 2013).ow = 525 ∧ (settledW 700 exC 2013).rp = 300 := by decide +kernel
theorem ex_gift : (giftW 700 exC 2013 100).op = 1448 ∧ (giftW 700 exC 2013 100).ow = 565 ∧ (giftW 700 exC 2013 100).rp = 300 := by decide +kernel
theorem ex_best : bestO 700 exC 2013 = [3, 2, 0, 1] := by decide +kernel
theorem ex_rep : repR 700 exC 2013 = (3, 0) := by
  refine first_some (k := 3) (by decide) (by decide +kernel) ?_
  intro j hj
  obtain rfl | rfl | rfl : j = 0 ∨ j = 1 ∨ j = 2 := by omega
  · decide +kernel
  · decide +kernel
  · decide +kernel

set_option maxRecDepth 100000 in
set_option maxHeartbeats 6000000 in
theorem works_any (w : World) : Calls Try.prog 15 #[] w fun e w' => e = .returned (.bool true) ∧ Below w.heap.size w w' := by
  have hEx := Example_any w
  go_enter Try.func15, Try.ntmps15
  go_wp2_with fail
  refine hEx.mono ?_
  rintro e V1 ⟨hb, a, rfl, hX⟩
  clear hEx
  have hW : ∀ V, Clz V a exC → Calls Try.prog 19 #[.agg #[.slice a 4 4, .int .i64 700], .int .i64 2013] V fun e w' => e = .returned (.tuple #[.agg #[.int .i64 1488, .int .i64 525, .int .i64 300], .int .i64 0]) ∧ Below V.heap.size V w' := fun V h => by
    have h := Week_ok a 4 exC 700 2013 V h exC_v (by decide) _ rfl
    rw [ex_week.1, ex_week.2.1, ex_week.2.2] at h
    exact h
  have hG : ∀ V, Clz V a exC → Calls Try.prog 21 #[.agg #[.slice a 4 4, .int .i64 700], .int .i64 2013, .int .i64 100] V fun e w' => e = .returned (.tuple #[.agg #[.int .i64 1448, .int .i64 565, .int .i64 300], .int .i64 0]) ∧ Below V.heap.size V w' := fun V h => by
    have h := Gift_ok a 4 exC 700 2013 100 V h exC_v (by decide) (by decide) _ rfl
    rw [ex_gift.1, ex_gift.2.1, ex_gift.2.2] at h
    exact h
  have hR : ∀ V, Clz V a exC → Calls Try.prog 34 #[.agg #[.slice a 4 4, .int .i64 700], .int .i64 2013] V fun e w' => e = .returned (.tuple #[.int .i64 3, .int .i64 0]) ∧ Below V.heap.size V w' := fun V h => by
    have h := Repaid_ok a 4 exC 700 2013 V h exC_v (by decide) _ rfl
    rw [ex_rep] at h
    exact h
  have hB : ∀ V, Clz V a exC → Calls Try.prog 32 #[.agg #[.slice a 4 4, .int .i64 700], .int .i64 2013] V fun e w' => ∃ (a : Option Addr) (c : Nat), e = .returned (.tuple #[.slice a 4 c, .int .i64 0]) ∧ Ints w' a [3, 2, 0, 1] ∧ Below V.heap.size V w' := fun V h => by
    have h := Best_ok a 4 exC 700 2013 V h exC_v (by decide) _ rfl
    rw [ex_best] at h
    exact h
  have hba := below_one (w := V1) (.cells #[.slice a 4 4, .int .i64 700] 24)
  have x0 := Bx.new V1 #[.slice a 4 4, .int .i64 700] 24
  have HX := hid (And.intro x0 (And.intro (hX.below hba (Nat.le_refl _)) (hb.trans (hba.mono hb.size))))
  clear x0 hba hX hb
  go_upto_region 2 with fail
  obtain ⟨x0, hX, hb⟩ := HX.out
  clear HX
  generalize V1.heap.size = s0 at *
  generalize World.alloc _ _ = V2 at *
  have c0 := x0.cell 0 rfl; have c1 := x0.cell 1 rfl
  go_wp2_with fail
  refine (hW _ hX).mono ?_
  rintro e V3 ⟨rfl, hb1⟩
  replace x0 := x0.below hb1
  replace hX := hX.below hb1 (Nat.le_refl _)
  replace hb := hb.trans (hb1.mono hb.size)
  clear hb1 c0 c1 hW
  have hba := below_one (w := V3) (.cells #[.int .i64 1488, .int .i64 525, .int .i64 300] 33)
  have HX := hid (And.intro (x0.below hba) (And.intro (hX.below hba (Nat.le_refl _)) (And.intro (hb.trans (hba.mono hb.size)) (Bx.new V3 #[.int .i64 1488, .int .i64 525, .int .i64 300] 33))))
  clear x0 hba hX hb
  go_upto_region 3 with fail
  obtain ⟨x0, hX, hb, x1⟩ := HX.out
  clear HX
  generalize V3.heap.size = s1 at *
  generalize World.alloc _ _ = V4 at *
  have c0 := x0.cell 0 rfl; have c1 := x0.cell 1 rfl
  go_wp2_with fail
  refine (hB _ hX).mono ?_
  rintro e V5 ⟨ab, cb, rfl, hI, hb1⟩
  replace x0 := x0.below hb1
  replace x1 := x1.below hb1
  replace hX := hX.below hb1 (Nat.le_refl _)
  replace hb := hb.trans (hb1.mono hb.size)
  clear hb1 c0 c1 hB
  go_upto_region 4 with fail
  have c0 := x0.cell 0 rfl; have c1 := x0.cell 1 rfl
  go_wp2_with fail
  refine (hR _ hX).mono ?_
  rintro e V6 ⟨rfl, hb1⟩
  replace x0 := x0.below hb1
  replace x1 := x1.below hb1
  replace hX := hX.below hb1 (Nat.le_refl _)
  replace hI := hI.below hb1 (Nat.le_refl _)
  replace hb := hb.trans (hb1.mono hb.size)
  clear hb1 c0 c1 hR
  go_upto_region 5 with fail
  have c0 := x0.cell 0 rfl; have c1 := x0.cell 1 rfl
  go_wp2_with fail
  refine (hG _ hX).mono ?_
  rintro e V7 ⟨rfl, hb1⟩
  replace x1 := x1.below hb1
  replace hI := hI.below hb1 (Nat.le_refl _)
  replace hb := hb.trans (hb1.mono hb.size)
  clear hb1 c0 c1 hG x0 hX
  have hba := below_one (w := V7) (.cells #[.int .i64 1448, .int .i64 565, .int .i64 300] 33)
  have HX := hid (And.intro (x1.below hba) (And.intro (hI.below hba (Nat.le_refl _)) (And.intro (hb.trans (hba.mono hb.size)) (Bx.new V7 #[.int .i64 1448, .int .i64 565, .int .i64 300] 33))))
  clear hba hI hb x1
  go_upto_region 6 with fail
  obtain ⟨x1, hI, hb, x2⟩ := HX.out
  clear HX
  generalize V7.heap.size = s2 at *
  generalize World.alloc _ _ = V8 at *
  have hba := below_one (w := V8) (.cells #[.int .i64 3, .int .i64 2, .int .i64 0, .int .i64 1] 3)
  have xl := Bx.new V8 #[.int .i64 3, .int .i64 2, .int .i64 0, .int .i64 1] 3
  have hL : Ints (V8.alloc (.cells #[.int .i64 3, .int .i64 2, .int .i64 0, .int .i64 1] 3)) (some ⟨V8.heap.size, 0, none⟩) [3, 2, 0, 1] := Ints.of_bx xl (by decide) (by decide)
  have hsm := SameInts_eq ab _ cb 4 [3, 2, 0, 1] _ (hI.below hba (Nat.le_refl _)) hL
  have x2n := x2.below hba
  have hbn := hb.trans (hba.mono hb.size)
  have d0 := x1.cell 0 rfl; have d1 := x1.cell 1 rfl; have d2 := x1.cell 2 rfl
  have f0 := x2.cell 0 rfl; have f1 := x2.cell 1 rfl; have f2 := x2.cell 2 rfl
  clear hba xl hL hI hb x1 x2
  go_wp2_with fail
  refine hsm.mono ?_
  rintro e V9 ⟨rfl, hb1⟩
  replace x2 := x2n.below hb1
  replace hb := hbn.trans (hb1.mono hbn.size)
  clear x2n hbn hb1 d0 d1 d2 f0 f1 f2 hsm
  have f0 := x2.cell 0 rfl; have f1 := x2.cell 1 rfl; have f2 := x2.cell 2 rfl
  go_wp2
  go_ret
  exact ⟨rfl, hb⟩
end Go.Proofs.Ythgjjlkdekfdbaa
