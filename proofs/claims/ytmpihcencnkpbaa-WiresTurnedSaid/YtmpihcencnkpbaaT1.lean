import Derived.Test.YtmpihcencnkpbaaM1
import Derived.Test.YtmpihcencnkpbaaProg
import Derived.Test.YtmpihcencnkpbaaChecked
import Derived.StillTailTactics
/-! Small functions. -/
namespace Go.Proofs.Ytmpihcencnkpbaa
set_option linter.unusedSimpArgs false
set_option linter.unusedVariables false
open Go Go.RowKit

set_option maxRecDepth 100000 in
set_option maxHeartbeats 1000000 in
theorem isFrom_any (lo x hi : Int) (w : World) : Calls Try.prog 81 #[.int .i64 lo, .int .i64 x, .int .i64 hi] w fun e w' => e = .returned (.bool (fromI lo x hi)) ∧ w = w' := by
  by_cases h1 : lo ≤ x
  · by_cases h2 : x ≤ hi
    · go_enter Try.func81, Try.ntmps81
      go_wp2
      go_ret
      exact ⟨by simp [fromI, h1, h2], rfl⟩
    · have h2' : hi < x := by omega
      go_enter Try.func81, Try.ntmps81
      go_wp2
      go_ret
      exact ⟨by (simp [fromI, h2]) <;> omega, rfl⟩
  · have h1' : x < lo := by omega
    go_enter Try.func81, Try.ntmps81
    go_wp2
    go_ret
    exact ⟨by (simp [fromI, h1]) <;> omega, rfl⟩
set_option maxRecDepth 100000 in
set_option maxHeartbeats 1000000 in
theorem Within82_any (lo x hi : Int) (w : World) : Calls Try.prog 82 #[.int .i64 x, .int .i64 lo, .int .i64 hi] w fun e w' => e = .returned (.bool (fromI lo x hi)) ∧ w = w' := by
  by_cases h1 : lo ≤ x
  · by_cases h2 : x ≤ hi
    · go_enter Try.func82, Try.ntmps82
      go_wp2
      go_ret
      exact ⟨by simp [fromI, h1, h2], rfl⟩
    · have h2' : hi < x := by omega
      go_enter Try.func82, Try.ntmps82
      go_wp2
      go_ret
      exact ⟨by (simp [fromI, h2]) <;> omega, rfl⟩
  · have h1' : x < lo := by omega
    go_enter Try.func82, Try.ntmps82
    go_wp2
    go_ret
    exact ⟨by (simp [fromI, h1]) <;> omega, rfl⟩
set_option maxRecDepth 100000 in
set_option maxHeartbeats 1000000 in
theorem within_any (lo x hi : Int) (w : World) : Calls Try.prog 55 #[.int .i64 x, .int .i64 lo, .int .i64 hi] w fun e w' => e = .returned (.bool (fromI lo x hi)) ∧ w = w' := by
  have hf := Within82_any lo x hi w
  generalize fromI lo x hi = r at *
  go_enter Try.func55, Try.ntmps55
  go_wp2_with fail
  refine hf.mono ?_
  rintro e W1 ⟨rfl, rfl⟩
  go_wp2
  go_ret
  exact ⟨rfl, rfl⟩
set_option maxRecDepth 100000 in
set_option maxHeartbeats 1000000 in
theorem isDead_any (m : Int) (f : F3) (w : World) : Calls Try.prog 95 #[.int .i64 m, .agg #[.int .i64 f.k, .int .i64 f.a, .int .i64 f.b]] w fun e w' => e = .returned (.bool (deadB m f)) ∧ Below w.heap.size w w' := by
  obtain ⟨W, hW, hb, _, x0⟩ := boxes1 w #[.int .i64 f.k, .int .i64 f.a, .int .i64 f.b] 63
  have hf := isFrom_any 0 f.a (w64 (m - 1)) W
  have ew : IntKind.i64.wrap (m - 1) = w64 (m - 1) := rfl
  unfold deadB
  generalize w64 (m - 1) = m1 at *
  generalize fromI 0 f.a m1 = r at *
  cases hB : (f.b == 0) <;> cases r
  all_goals
    have c0 := x0.cell 0 rfl; have c1 := x0.cell 1 rfl; have c2 := x0.cell 2 rfl
    go_enter Try.func95, Try.ntmps95
    go_wp2_with fail
    refine hf.mono ?_
    rintro e W1 ⟨rfl, rfl⟩
    clear hW x0
    go_wp2
    go_ret
    exact ⟨by simp, hb⟩
set_option maxRecDepth 100000 in
set_option maxHeartbeats 1000000 in
theorem isCross_any (m : Int) (f : F3) (w : World) : Calls Try.prog 96 #[.int .i64 m, .agg #[.int .i64 f.k, .int .i64 f.a, .int .i64 f.b]] w fun e w' => e = .returned (.bool (crossB m f)) ∧ Below w.heap.size w w' := by
  obtain ⟨W, hW, hb, _, x0⟩ := boxes1 w #[.int .i64 f.k, .int .i64 f.a, .int .i64 f.b] 63
  have c0 := x0.cell 0 rfl; have c1 := x0.cell 1 rfl; have c2 := x0.cell 2 rfl
  obtain ⟨k, a, b⟩ := f
  simp only at *
  unfold crossB
  simp only
  by_cases h1 : 0 ≤ a <;> by_cases h2 : a < b <;> by_cases h3 : b < m
  all_goals
    simp only [h1, h2, h3, decide_true, decide_false, Bool.and_true, Bool.and_false]
    go_enter Try.func96, Try.ntmps96
    go_wp2
    go_ret
    exact ⟨rfl, hb⟩
set_option maxRecDepth 100000 in
set_option maxHeartbeats 1000000 in
theorem isNaN_any (x : Int) (w : World) : Calls Try.prog 119 #[.int .i64 x] w fun e w' => e = .returned (.bool false) ∧ w = w' := by
  have hB : (x != x) = false := by simp
  go_enter Try.func119, Try.ntmps119
  go_wp2
  go_ret
  exact ⟨rfl, rfl⟩
set_option maxRecDepth 100000 in
set_option maxHeartbeats 1000000 in
theorem Compare_any (x y : Int) (w : World) : Calls Try.prog 106 #[.int .i64 x, .int .i64 y] w fun e w' => e = .returned (.int .i64 (cmpI x y)) ∧ w = w' := by
  have h1 := fun v => isNaN_any x v
  have h2 := fun v => isNaN_any y v
  have HC := hid (show cmpI x y = if x < y then -1 else if y < x then 1 else 0 from rfl)
  generalize cmpI x y = r at *
  go_enter Try.func106, Try.ntmps106
  go_wp2_with fail
  refine (h1 _).mono ?_
  rintro e W1 ⟨rfl, rfl⟩
  go_wp2_with fail
  refine (h2 _).mono ?_
  rintro e W1 ⟨rfl, rfl⟩
  by_cases hlt : x < y
  · have HR := hid (show r = -1 by rw [HC.out, if_pos hlt])
    clear HC
    go_wp2
    go_ret
    exact ⟨ret_int HR.out.symm, rfl⟩
  · by_cases hgt : y < x
    · have HR := hid (show r = 1 by rw [HC.out, if_neg hlt, if_pos hgt])
      clear HC
      go_wp2
      go_ret
      exact ⟨ret_int HR.out.symm, rfl⟩
    · have HR := hid (show r = 0 by rw [HC.out, if_neg hlt, if_neg hgt])
      clear HC
      go_wp2
      go_ret
      exact ⟨ret_int HR.out.symm, rfl⟩
set_option maxRecDepth 100000 in
set_option maxHeartbeats 1000000 in
theorem Or_any (b : Nat) (x y z : Int) (w : World) (x0 : Bx w b #[.int .i64 x, .int .i64 y, .int .i64 z] 3) : Calls Try.prog 105 #[.slice (some ⟨b, 0, none⟩) 3 3] w fun e w' => e = .returned (.int .i64 (orI x y z)) ∧ w = w' := by
  have c0 := x0.cell 0 rfl; have c1 := x0.cell 1 rfl; have c2 := x0.cell 2 rfl
  have HC := hid (show orI x y z = if x ≠ 0 then x else if y ≠ 0 then y else z from rfl)
  generalize orI x y z = r at *
  clear x0
  go_enter Try.func105, Try.ntmps105
  go_wp2
  go_loopw [8] (fun v8 wr => wr = w ∧ (v8 = .int .i64 0 ∨ (v8 = .int .i64 1 ∧ x = 0) ∨ (v8 = .int .i64 2 ∧ x = 0 ∧ y = 0) ∨ (v8 = .int .i64 3 ∧ x = 0 ∧ y = 0 ∧ z = 0))) (fun v8 _ => 3 - (intOf v8).toNat)
  case atStart => exact ⟨rfl, .inl rfl⟩
  case round =>
    obtain ⟨rfl, rfl | ⟨rfl, h0⟩ | ⟨rfl, h0, h1⟩ | ⟨rfl, h0, h1, h2⟩⟩ := hrel
    · by_cases h : x = 0
      · have hB : (x != 0) = false := by simp [h]
        have H0 := hid h
        clear h HC
        go_wp2
        go_roundw
        case rel => exact ⟨trivial, .inr (.inl ⟨by simp, H0.out⟩)⟩
        case measure => simp [intOf]
      · have hB : (x != 0) = true := by simp [h]
        have HR := hid (show r = x by rw [HC.out, if_pos h])
        clear h HC
        go_wp2
        go_ret
        exact ⟨ret_int HR.out.symm, rfl⟩
    · have H0 := hid h0
      clear h0
      by_cases h : y = 0
      · have hB : (y != 0) = false := by simp [h]
        have H1 := hid h
        clear h HC
        go_wp2
        go_roundw
        case rel => exact ⟨trivial, .inr (.inr (.inl ⟨by simp, H0.out, H1.out⟩))⟩
        case measure => simp [intOf]
      · have hB : (y != 0) = true := by simp [h]
        have HR := hid (show r = y by rw [HC.out, if_neg (by simp [H0.out]), if_pos h])
        clear h HC
        go_wp2
        go_ret
        exact ⟨ret_int HR.out.symm, rfl⟩
    · have H0 := hid h0
      have H1 := hid h1
      have HR := hid (show r = z by rw [HC.out, if_neg (by simp [h0]), if_neg (by simp [h1])])
      clear h0 h1 HC
      by_cases h : z = 0
      · have hB : (z != 0) = false := by simp [h]
        have H2 := hid h
        clear h
        go_wp2
        go_roundw
        case rel => exact ⟨trivial, .inr (.inr (.inr ⟨by simp, H0.out, H1.out, H2.out⟩))⟩
        case measure => simp [intOf]
      · have hB : (z != 0) = true := by simp [h]
        clear h
        go_wp2
        go_ret
        exact ⟨ret_int HR.out.symm, rfl⟩
    · have HR := hid (show r = 0 by rw [HC.out, if_neg (by simp [h0]), if_neg (by simp [h1]), h2])
      clear h0 h1 h2 HC
      go_wp2
      go_ret
      exact ⟨ret_int HR.out.symm, rfl⟩

set_option maxRecDepth 100000 in
set_option maxHeartbeats 2000000 in
theorem compare_any (f h : F3) (w : World) : Calls Try.prog 97 #[.agg #[.int .i64 f.k, .int .i64 f.a, .int .i64 f.b], .agg #[.int .i64 h.k, .int .i64 h.a, .int .i64 h.b]] w fun e w' => e = .returned (.int .i64 (cmpF f h)) ∧ Below w.heap.size w w' := by
  obtain ⟨W, hW, hb, hs, x0, x1⟩ := boxes2 w #[.int .i64 f.k, .int .i64 f.a, .int .i64 f.b] 63 #[.int .i64 h.k, .int .i64 h.a, .int .i64 h.b] 63
  obtain ⟨k, a, b⟩ := f
  obtain ⟨k', a', b'⟩ := h
  unfold cmpF
  simp only at *
  have hc1 := fun v => Compare_any k k' v
  have hc2 := fun v => Compare_any a a' v
  have hc3 := fun v => Compare_any b b' v
  generalize cmpI k k' = u1 at *
  generalize cmpI a a' = u2 at *
  generalize cmpI b b' = u3 at *
  have ho := fun g V x => Or_any g u1 u2 u3 V x
  generalize orI u1 u2 u3 = r at *
  go_enter Try.func97, Try.ntmps97
  go_upto_region 1 with fail
  clear hW
  have hbd := (Below.refl W.heap.size W).drew
  have S0 := And.intro (x0.below hbd) (x1.below hbd)
  replace hb := hb.trans (hbd.mono hb.size)
  clear hbd x0 x1
  refine wp_region_head 17 (fun w' => Bx w' w.heap.size #[.int .i64 k, .int .i64 a, .int .i64 b] 63 ∧ Bx w' (w.heap.size + 1) #[.int .i64 k', .int .i64 a', .int .i64 b'] 63) (by kernel_rfl) rfl ?_
  generalize W.drew = Y0 at *
  refine HeadAt.take (i := 0) (.pointer (some ⟨w.heap.size, 0, none⟩)) rfl (by kernel_rfl) (.inl ⟨rfl, fun _ _ => by simp [go_sem]⟩) S0 ?_
  (try simp only [Act.put, List.getElem_toArray, List.getElem_cons_succ, List.getElem_cons_zero, List.setIfInBounds_toArray, List.set_cons_succ, List.set_cons_zero])
  refine HeadAt.take (i := 1) (.int .i64 k) rfl (by kernel_rfl) (.inl ⟨rfl, fun w' z => ?_⟩) S0 ?_
  · (have z0 := z.1.cell 0 rfl; simp [go_sem, z0])
  (try simp only [Act.put, List.getElem_toArray, List.getElem_cons_succ, List.getElem_cons_zero, List.setIfInBounds_toArray, List.set_cons_succ, List.set_cons_zero])
  refine HeadAt.take (i := 2) (.pointer (some ⟨w.heap.size + 1, 0, none⟩)) rfl (by kernel_rfl) (.inl ⟨rfl, fun _ _ => by simp [go_sem]⟩) S0 ?_
  (try simp only [Act.put, List.getElem_toArray, List.getElem_cons_succ, List.getElem_cons_zero, List.setIfInBounds_toArray, List.set_cons_succ, List.set_cons_zero])
  refine HeadAt.take (i := 3) (.int .i64 k') rfl (by kernel_rfl) (.inl ⟨rfl, fun w' z => ?_⟩) S0 ?_
  · (have z0 := z.2.cell 0 rfl; simp [go_sem, z0])
  (try simp only [Act.put, List.getElem_toArray, List.getElem_cons_succ, List.getElem_cons_zero, List.setIfInBounds_toArray, List.set_cons_succ, List.set_cons_zero])
  refine HeadAt.take (i := 5) (.pointer (some ⟨w.heap.size, 1, none⟩)) rfl (by kernel_rfl) (.inl ⟨rfl, fun _ _ => by simp [go_sem]⟩) S0 ?_
  (try simp only [Act.put, List.getElem_toArray, List.getElem_cons_succ, List.getElem_cons_zero, List.setIfInBounds_toArray, List.set_cons_succ, List.set_cons_zero])
  refine HeadAt.take (i := 6) (.int .i64 a) rfl (by kernel_rfl) (.inl ⟨rfl, fun w' z => ?_⟩) S0 ?_
  · (have z0 := z.1.cell 1 rfl; simp [go_sem, z0])
  (try simp only [Act.put, List.getElem_toArray, List.getElem_cons_succ, List.getElem_cons_zero, List.setIfInBounds_toArray, List.set_cons_succ, List.set_cons_zero])
  refine HeadAt.take (i := 7) (.pointer (some ⟨w.heap.size + 1, 1, none⟩)) rfl (by kernel_rfl) (.inl ⟨rfl, fun _ _ => by simp [go_sem]⟩) S0 ?_
  (try simp only [Act.put, List.getElem_toArray, List.getElem_cons_succ, List.getElem_cons_zero, List.setIfInBounds_toArray, List.set_cons_succ, List.set_cons_zero])
  refine HeadAt.take (i := 8) (.int .i64 a') rfl (by kernel_rfl) (.inl ⟨rfl, fun w' z => ?_⟩) S0 ?_
  · (have z0 := z.2.cell 1 rfl; simp [go_sem, z0])
  (try simp only [Act.put, List.getElem_toArray, List.getElem_cons_succ, List.getElem_cons_zero, List.setIfInBounds_toArray, List.set_cons_succ, List.set_cons_zero])
  refine HeadAt.take (i := 10) (.pointer (some ⟨w.heap.size, 2, none⟩)) rfl (by kernel_rfl) (.inl ⟨rfl, fun _ _ => by simp [go_sem]⟩) S0 ?_
  (try simp only [Act.put, List.getElem_toArray, List.getElem_cons_succ, List.getElem_cons_zero, List.setIfInBounds_toArray, List.set_cons_succ, List.set_cons_zero])
  refine HeadAt.take (i := 11) (.int .i64 b) rfl (by kernel_rfl) (.inl ⟨rfl, fun w' z => ?_⟩) S0 ?_
  · (have z0 := z.1.cell 2 rfl; simp [go_sem, z0])
  (try simp only [Act.put, List.getElem_toArray, List.getElem_cons_succ, List.getElem_cons_zero, List.setIfInBounds_toArray, List.set_cons_succ, List.set_cons_zero])
  refine HeadAt.take (i := 12) (.pointer (some ⟨w.heap.size + 1, 2, none⟩)) rfl (by kernel_rfl) (.inl ⟨rfl, fun _ _ => by simp [go_sem]⟩) S0 ?_
  (try simp only [Act.put, List.getElem_toArray, List.getElem_cons_succ, List.getElem_cons_zero, List.setIfInBounds_toArray, List.set_cons_succ, List.set_cons_zero])
  refine HeadAt.take (i := 13) (.int .i64 b') rfl (by kernel_rfl) (.inl ⟨rfl, fun w' z => ?_⟩) S0 ?_
  · (have z0 := z.2.cell 2 rfl; simp [go_sem, z0])
  (try simp only [Act.put, List.getElem_toArray, List.getElem_cons_succ, List.getElem_cons_zero, List.setIfInBounds_toArray, List.set_cons_succ, List.set_cons_zero])
  refine HeadAt.one (i := 4) rfl (by kernel_rfl) ?_
  generalize hK : Upto _ _ = K0
  (try simp only [Act.put, List.getElem_toArray, List.getElem_cons_succ, List.getElem_cons_zero, List.setIfInBounds_toArray, List.set_cons_succ, List.set_cons_zero])
  go_wp2_with fail
  refine (hc1 _).mono ?_
  rintro e V1 ⟨rfl, rfl⟩
  go_wp2_with fail
  skip
  subst hK
  refine ⟨S0, ?_⟩
  (try simp only [Act.put, List.getElem_toArray, List.getElem_cons_succ, List.getElem_cons_zero, List.setIfInBounds_toArray, List.set_cons_succ, List.set_cons_zero])
  refine HeadAt.one (i := 9) rfl (by kernel_rfl) ?_
  generalize hK : Upto _ _ = K0
  (try simp only [Act.put, List.getElem_toArray, List.getElem_cons_succ, List.getElem_cons_zero, List.setIfInBounds_toArray, List.set_cons_succ, List.set_cons_zero])
  go_wp2_with fail
  refine (hc2 _).mono ?_
  rintro e V2 ⟨rfl, rfl⟩
  go_wp2_with fail
  skip
  subst hK
  refine ⟨S0, ?_⟩
  (try simp only [Act.put, List.getElem_toArray, List.getElem_cons_succ, List.getElem_cons_zero, List.setIfInBounds_toArray, List.set_cons_succ, List.set_cons_zero])
  refine HeadAt.one (i := 14) rfl (by kernel_rfl) ?_
  generalize hK : Upto _ _ = K0
  (try simp only [Act.put, List.getElem_toArray, List.getElem_cons_succ, List.getElem_cons_zero, List.setIfInBounds_toArray, List.set_cons_succ, List.set_cons_zero])
  go_wp2_with fail
  refine (hc3 _).mono ?_
  rintro e V3 ⟨rfl, rfl⟩
  go_wp2_with fail
  skip
  subst hK
  refine ⟨S0, ?_⟩
  (try simp only [Act.put, List.getElem_toArray, List.getElem_cons_succ, List.getElem_cons_zero, List.setIfInBounds_toArray, List.set_cons_succ, List.set_cons_zero])
  refine HeadAt.one (i := 15) rfl (by kernel_rfl) ?_
  generalize hK : Upto _ _ = K0
  (try simp only [Act.put, List.getElem_toArray, List.getElem_cons_succ, List.getElem_cons_zero, List.setIfInBounds_toArray, List.set_cons_succ, List.set_cons_zero])
  have hbl := below_one (w := Y0) (.cells #[.int .i64 u1, .int .i64 u2, .int .i64 u3] 3)
  have hx := Bx.new Y0 #[.int .i64 u1, .int .i64 u2, .int .i64 u3] 3
  replace hb := hb.trans (hbl.mono hb.size)
  replace S0 := And.intro (S0.1.below hbl) (S0.2.below hbl)
  go_wp2_with fail
  generalize World.alloc _ _ = Y1 at *
  subst hK
  refine ⟨S0, ?_⟩
  (try simp only [Act.put, List.getElem_toArray, List.getElem_cons_succ, List.getElem_cons_zero, List.setIfInBounds_toArray, List.set_cons_succ, List.set_cons_zero])
  refine HeadAt.one (i := 16) rfl (by kernel_rfl) ?_
  generalize hK : Upto _ _ = K0
  (try simp only [Act.put, List.getElem_toArray, List.getElem_cons_succ, List.getElem_cons_zero, List.setIfInBounds_toArray, List.set_cons_succ, List.set_cons_zero])
  go_wp2_with fail
  refine (ho _ _ hx).mono ?_
  rintro e V9 ⟨rfl, rfl⟩
  go_wp2_with fail
  subst hK
  refine ⟨S0, ?_⟩
  (try simp only [Act.put, List.getElem_toArray, List.getElem_cons_succ, List.getElem_cons_zero, List.setIfInBounds_toArray, List.set_cons_succ, List.set_cons_zero])
  refine HeadAt.done (by kernel_rfl) ?_
  (try simp only [Act.put, List.drop_succ_cons, List.drop_zero, List.getElem_toArray, List.getElem_cons_succ, List.getElem_cons_zero])
  go_wp2_with fail
  refine NoPanic.normal ?_
  go_wp2
  go_ret
  exact ⟨rfl, hb⟩
set_option maxRecDepth 100000 in
set_option maxHeartbeats 1000000 in
theorem clash_any (f h : F3) (w : World) : Calls Try.prog 98 #[.agg #[.int .i64 f.k, .int .i64 f.a, .int .i64 f.b], .agg #[.int .i64 h.k, .int .i64 h.a, .int .i64 h.b]] w fun e w' => e = .returned (.bool (clB f h)) ∧ Below w.heap.size w w' := by
  obtain ⟨W, hW, hb, hs, x0, x1⟩ := boxes2 w #[.int .i64 f.k, .int .i64 f.a, .int .i64 f.b] 63 #[.int .i64 h.k, .int .i64 h.a, .int .i64 h.b] 63
  obtain ⟨k, a, b⟩ := f
  obtain ⟨k', a', b'⟩ := h
  have c0 := x0.cell 0 rfl; have c1 := x0.cell 1 rfl; have c2 := x0.cell 2 rfl
  have d0 := x1.cell 0 rfl; have d1 := x1.cell 1 rfl; have d2 := x1.cell 2 rfl
  clear x0 x1
  unfold clB
  simp only at *
  cases h1 : (k != k')
  · have e1 := hid (show k = k' by simpa using h1)
    cases h2 : (k != 3)
    · have e2 := hid (show k = 3 by simpa using h2)
      cases h4 : (a == a') <;> cases h5 : (a == b') <;> cases h6 : (b == a') <;> cases h7 : (b == b')
      all_goals
        go_enter Try.func98, Try.ntmps98
        go_wp2
        go_ret
        refine ⟨ret_bool ?_, hb⟩
        simp only [beq_iff_eq, beq_eq_false_iff_ne] at h4 h5 h6 h7
        simp [← e1.out, e2.out, h4, h5, h6, h7]
    · have e2 := hid (show ¬ k = 3 by simpa using h2)
      cases h3 : (k != 4)
      · have e3 := hid (show k = 4 by simpa using h3)
        cases h4 : (a == a') <;> cases h5 : (a == b') <;> cases h6 : (b == a') <;> cases h7 : (b == b')
        all_goals
          go_enter Try.func98, Try.ntmps98
          go_wp2
          go_ret
          refine ⟨ret_bool ?_, hb⟩
          simp only [beq_iff_eq, beq_eq_false_iff_ne] at h4 h5 h6 h7
          simp [← e1.out, e3.out, h4, h5, h6, h7]
      · have e3 := hid (show ¬ k = 4 by simpa using h3)
        go_enter Try.func98, Try.ntmps98
        go_wp2
        go_ret
        exact ⟨ret_bool (by simp [e2.out, e3.out]), hb⟩
  · have e1 := hid (show ¬ k = k' by simpa using h1)
    go_enter Try.func98, Try.ntmps98
    go_wp2
    go_ret
    exact ⟨ret_bool (by simp [e1.out]), hb⟩
set_option maxRecDepth 100000 in
set_option maxHeartbeats 1000000 in
theorem crossed_any (f : F3) (x : Int) (w : World) : Calls Try.prog 85 #[.agg #[.int .i64 f.k, .int .i64 f.a, .int .i64 f.b], .int .i64 x] w fun e w' => e = .returned (.int .i64 (crI f x)) ∧ Below w.heap.size w w' := by
  obtain ⟨W, hW, hb, hs, x0⟩ := boxes1 w #[.int .i64 f.k, .int .i64 f.a, .int .i64 f.b] 63
  obtain ⟨k, a, b⟩ := f
  have c0 := x0.cell 0 rfl; have c1 := x0.cell 1 rfl; have c2 := x0.cell 2 rfl
  clear x0
  unfold crI
  simp only at *
  cases h1 : (x == a)
  · have e1 : ¬ x = a := by simpa using h1
    cases h2 : (x == b)
    · have e2 : ¬ x = b := by simpa using h2
      go_enter Try.func85, Try.ntmps85
      go_wp2
      go_ret
      exact ⟨ret_int (by simp [e1, e2]), hb⟩
    · have e2 : x = b := by simpa using h2
      go_enter Try.func85, Try.ntmps85
      go_wp2
      go_ret
      exact ⟨ret_int (by first | rfl | (simp_all; done)), hb⟩
  · have e1 : x = a := by simpa using h1
    go_enter Try.func85, Try.ntmps85
    go_wp2
    go_ret
    exact ⟨ret_int (by first | rfl | (simp_all; done)), hb⟩
end Go.Proofs.Ytmpihcencnkpbaa
