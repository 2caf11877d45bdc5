import Derived.Test.YtmkmnedojgigoaaV5
namespace Go.Proofs.Ytmkmnedojgigoaa
open Go.RowKit

set_option maxRecDepth 100000 in
set_option maxHeartbeats 6000000 in
theorem ws_ok (R : Nat) (an ac : Option Addr) (cn cc : Nat) (N C : List Int) (p s : Option Addr) (cp cs : Nat) (xs ys : List Int) (w : World) (hN : Ints w an N) (hC : Ints w ac C) (hX : Ints w p xs) (hY : Ints w s ys) (hw : isWhl (R : Int) N C = true) (hv : Vw R N C) (h5 : ¬ 40 < (xs.length : Int)) (h4 : ¬ 40 < (ys.length : Int)) (ho : okP C xs = true) (h6 : decide (6 < xs.sum) = false) (hy : okP C ys = true) (hsub : ∀ j, j < ys.length → ys.getD j 0 ≤ xs.getD j 0) (hs : ∀ k, bgN ys k ≤ bgN xs k) :
    Calls Try.prog 12 #[.agg #[.int .i64 (R : Int), .slice an N.length cn, .slice ac C.length cc], .slice p xs.length cp, .slice s ys.length cs] w (WorksP w) := by
  have hfa := waste_facts hv ho hy hs
  have hA := pwS_le hv ho xs.length (Nat.le_refl _)
  have hB := pwS_le hv hy ys.length (Nat.le_refl _)
  have hl1 : xs.length ≤ 4 := by rw [(okP_mem ho).1]; exact hv.c4
  have hl2 : ys.length ≤ 4 := by rw [(okP_mem hy).1]; exact hv.c4
  obtain ⟨M, hM⟩ : ∃ t, t = bst btm R N C (ps0 xs) := ⟨_, rfl⟩
  obtain ⟨M2, hM2⟩ : ∃ t, t = bst btm R N C (ps0 ys) := ⟨_, rfl⟩
  obtain ⟨V, hV⟩ : ∃ t, t = wasteV R N C xs := ⟨_, rfl⟩
  obtain ⟨A, hA'⟩ : ∃ t, t = pwS C xs xs.length := ⟨_, rfl⟩
  obtain ⟨B, hB'⟩ : ∃ t, t = pwS C ys ys.length := ⟨_, rfl⟩
  rw [← hM, ← hM2, ← hV, ← hA', ← hB'] at hfa
  rw [← hA'] at hA; rw [← hB'] at hB
  have mo : ∀ (a' : Option Addr) (ca' : Nat) (W : World), Ints W an N → Ints W ac C → Ints W a' xs → Calls Try.prog 28 #[.agg #[.int .i64 (R : Int), .slice an N.length cn, .slice ac C.length cc], .slice a' xs.length ca'] W fun e w' => e = .returned (.tuple #[.int .i64 (M : Nat), .int .i64 0]) ∧ Below W.heap.size W w' := fun a' ca' W h1 h2 h3 => by
    rw [hM]; exact most_ok R an ac cn cc N C a' ca' xs W h1 h2 h3 hv ho
  have mo2 : ∀ (a' : Option Addr) (ca' : Nat) (W : World), Ints W an N → Ints W ac C → Ints W a' ys → Calls Try.prog 28 #[.agg #[.int .i64 (R : Int), .slice an N.length cn, .slice ac C.length cc], .slice a' ys.length ca'] W fun e w' => e = .returned (.tuple #[.int .i64 (M2 : Nat), .int .i64 0]) ∧ Below W.heap.size W w' := fun a' ca' W h1 h2 h3 => by
    rw [hM2]; exact most_ok R an ac cn cc N C a' ca' ys W h1 h2 h3 hv hy
  have wa : ∀ (a' : Option Addr) (ca' : Nat) (W : World), Ints W an N → Ints W ac C → Ints W a' xs → Calls Try.prog 32 #[.agg #[.int .i64 (R : Int), .slice an N.length cn, .slice ac C.length cc], .slice a' xs.length ca'] W fun e w' => e = .returned (.tuple #[.int .i64 (V : Nat), .int .i64 0]) ∧ Below W.heap.size W w' := fun a' ca' W h1 h2 h3 => by
    rw [hV]; exact Wasted_ok R an ac cn cc N C a' ca' xs W h1 h2 h3 hv ho
  have pw1 : ∀ W : World, Ints W an N → Ints W ac C → Ints W p xs → Calls Try.prog 54 #[.agg #[.int .i64 (R : Int), .slice an N.length cn, .slice ac C.length cc], .slice p xs.length cp] W fun e w' => e = .returned (.int .i64 (A : Nat)) ∧ Below W.heap.size W w' := fun W h1 h2 h3 => by
    rw [hA']; exact pworth_ok R an ac cn cc N C p cp xs W h1 h2 h3 hv ho
  have pw2 : ∀ W : World, Ints W an N → Ints W ac C → Ints W s ys → Calls Try.prog 54 #[.agg #[.int .i64 (R : Int), .slice an N.length cn, .slice ac C.length cc], .slice s ys.length cs] W fun e w' => e = .returned (.int .i64 (B : Nat)) ∧ Below W.heap.size W w' := fun W h1 h2 h3 => by
    rw [hB']; exact pworth_ok R an ac cn cc N C s cs ys W h1 h2 h3 hv hy
  have joX : ∀ W : World, Ints W p xs → Calls Try.prog 48 #[.slice p xs.length cp, .slice none 0 0] W (RowPost xs W) := fun W h => joined1_any p cp xs W h (by omega)
  have joY : ∀ W : World, Ints W s ys → Calls Try.prog 48 #[.slice s ys.length cs, .slice none 0 0] W (RowPost ys W) := fun W h => joined1_any s cs ys W h (by omega)
  have i1 : (V : Int) ≤ (A : Int) := by omega
  have i2 : (M2 : Int) ≤ (M : Int) := by omega
  have i3 : A ≤ 4800 := by omega
  have i4 : B ≤ 4800 := by omega
  have hfa2 : (A : Int) - (B : Int) ≤ (V : Int) ∨ (M2 : Int) < (M : Int) := by omega
  have Hfa := hid hfa2; have Hsub := hid hsub
  clear hM hM2 hV hA' hB' hA hB hfa hl1 hl2 hfa2 hs hsub
  have lx : (xs.length : Int) ≤ 9223372036854775807 := by have := hX.len; omega
  have ly : (ys.length : Int) ≤ 9223372036854775807 := by have := hY.len; omega
  obtain ⟨W, hW, hb, hs, x0⟩ := boxes1 w #[.int .i64 (R : Int), .slice an N.length cn, .slice ac C.length cc] 24
  clear hs
  have hN0 := hN; have hC0 := hC
  clear hN hC
  have c0 := x0.cell 0 rfl; have c1 := x0.cell 1 rfl; have c2 := x0.cell 2 rfl
  have g5 : decide ((40 : Int) < (xs.length : Int)) = false := by simp; omega
  have g6 : decide ((40 : Int) < (ys.length : Int)) = false := by simp; omega
  go_enter Try.func12, Try.ntmps12
  go_wp2_with fail
  refine (isWheel_any _ _ _ _ _ _ _ _ (hN0.below hb (Nat.le_refl _)) (hC0.below hb (Nat.le_refl _))).mono ?_
  rintro e W2 ⟨rfl, hb1⟩
  rw [hw]
  clear hW
  (try clear c0 c1 c2); replace x0 := x0.below hb1; have c0 := x0.cell 0 rfl; have c1 := x0.cell 1 rfl; have c2 := x0.cell 2 rfl; replace hb := hb.trans (hb1.mono hb.size); clear hb1
  go_wp2_with fail
  refine (isPurse_any _ _ _ _ _ _ _ p cp xs _ (hC0.below hb (Nat.le_refl _)) (hX.below hb (Nat.le_refl _)) (by omega)).mono ?_
  rintro e W3 ⟨rfl, hb1⟩
  rw [ho]
  (try clear c0 c1 c2); replace x0 := x0.below hb1; have c0 := x0.cell 0 rfl; have c1 := x0.cell 1 rfl; have c2 := x0.cell 2 rfl; replace hb := hb.trans (hb1.mono hb.size); clear hb1
  go_wp2_with fail
  refine (rich_ok _ _ _ _ _ _ _ p cp xs _ (hN0.below hb (Nat.le_refl _)) (hC0.below hb (Nat.le_refl _)) (hX.below hb (Nat.le_refl _)) hv ho).mono ?_
  rintro e W4 ⟨rfl, hb1⟩
  rw [h6]
  (try clear c0 c1 c2); replace x0 := x0.below hb1; have c0 := x0.cell 0 rfl; have c1 := x0.cell 1 rfl; have c2 := x0.cell 2 rfl; replace hb := hb.trans (hb1.mono hb.size); clear hb1
  go_wp2_with fail
  refine (isPurse_any _ _ _ _ _ _ _ s cs ys _ (hC0.below hb (Nat.le_refl _)) (hY.below hb (Nat.le_refl _)) (by omega)).mono ?_
  rintro e W5 ⟨rfl, hb1⟩
  rw [hy]
  (try clear c0 c1 c2); replace x0 := x0.below hb1; have c0 := x0.cell 0 rfl; have c1 := x0.cell 1 rfl; have c2 := x0.cell 2 rfl; replace hb := hb.trans (hb1.mono hb.size); clear hb1
  have hxy : xs.length = ys.length := by rw [(okP_mem ho).1, (okP_mem hy).1]
  have hxl : xs.length ≤ 4 := by rw [(okP_mem ho).1]; exact hv.c4
  have Hxy := hid hxy; clear hxy
  have hX1 := hX.below hb (Nat.le_refl _); have hY1 := hY.below hb (Nat.le_refl _)
  clear c0 c1 c2 hw h6
  go_wp2
  generalize hyn : ys.length = m at *
  generalize hxn : xs.length = n at *
  have Hyn := hid hyn; have Hxn := hid hxn
  clear hyn hxn
  go_loopw [7] (fun v7 wr => ∃ i, i ≤ m ∧ v7 = .int .i64 (i : Int) ∧ Qd W5 wr ∧ ∀ j, j < i → ys.getD j 0 ≤ xs.getD j 0) (fun v7 _ => m - (intOf v7).toNat)
  case atStart => exact ⟨0, Nat.zero_le _, rfl, Qd.refl _, fun j hj => by omega⟩
  case round =>
    obtain ⟨i, hi, rfl, hqd, hle⟩ := hrel
    have Hle := hid hle; clear hle
    have hb1 := hqd.below W5.heap.size
    have hb := hb.trans (hb1.mono hb.size)
    have hX2 := hX1.below hb1 (Nat.le_refl _); have hY2 := hY1.below hb1 (Nat.le_refl _)
    have x0 := x0.below hb1
    by_cases hlt : i < m
    · obtain ⟨b, off, y, rfl, hbs, hc, _, _, hy1, _⟩ := hY2.at (k := i) (by rw [Hyn.out]; exact hlt)
      obtain ⟨b', off', x, rfl, hbs', hc', _, _, hx1, _⟩ := hX2.at (k := i) (by rw [Hxn.out]; have := Hxy.out; omega)
      have hyd : ys.getD i 0 = y := by simp [List.getD, hy1.out]
      have hxd : xs.getD i 0 = x := by simp [List.getD, hx1.out]
      have Hyd := hid hyd; have Hxd := hid hxd
      clear hyd hxd hy1 hx1 hX1 hY1 hX2 hY2
      have hiI : (i : Int) < (m : Int) := by omega
      have hiN : (i : Int) < (n : Int) := by have := Hxy.out; omega
      have hi0 : (0 : Int) ≤ (i : Int) := by omega
      by_cases hgt : x < y
      · exact absurd (Hsub.out i (by omega)) (by rw [Hyd.out, Hxd.out]; omega)
      · have hgt2 : y ≤ x := by omega
        go_wp2
        go_quiet (fail)
        go_wp2
        go_roundw
        case rel => exact ⟨i + 1, by omega, by go_num, hqd.drewN _, fun j hj => by
          by_cases e : j = i
          · subst e; rw [Hyd.out, Hxd.out]; exact hgt2
          · exact Hle.out j (by omega)⟩
        case measure => simp [intOf]; omega
    · clear hX1 hY1 hX2 hY2 hqd hb1
      go_wp2_with fail
      have x0 := x0.drew; have hb := hb.drew
      refine wp_region_head 8 (fun w' => Bx w' w.heap.size #[.int .i64 (R : Int), .slice an N.length cn, .slice ac C.length cc] 24) (by kernel_rfl) rfl ?_
      generalize World.drew _ = Y1 at *
      refine HeadAt.take (i := 0) (.agg #[.int .i64 (R : Int), .slice an N.length cn, .slice ac C.length cc]) rfl (by kernel_rfl) (.inl ⟨rfl, fun w' z => ?_⟩) x0 ?_
      · (have z0 := z.cell 0 rfl; have z1 := z.cell 1 rfl; have z2 := z.cell 2 rfl; simp [go_sem, z0, z1, z2])
      refine HeadAt.take (i := 1) (.slice p n cp) rfl (by kernel_rfl) (.inl ⟨rfl, fun _ _ => by simp [go_sem]⟩) x0 ?_
      refine HeadAt.one (i := 2) rfl (by kernel_rfl) ?_
      generalize hK : Upto _ _ = K0
      (try simp only [Act.put, List.getElem_toArray, List.getElem_cons_succ, List.getElem_cons_zero, List.setIfInBounds_toArray, List.set_cons_succ, List.set_cons_zero])
      go_wp2_with fail
      refine (joX _ (hX.below hb (Nat.le_refl _))).mono ?_
      rintro e Z1 ⟨hb1, a1, k1, rfl, hi1, -⟩
      rw [Hxn.out]
      replace x0 := x0.below hb1; replace hb := hb.trans (hb1.mono hb.size); clear hb1
      go_wp2_with fail
      subst hK
      refine ⟨x0, ?_⟩
      refine HeadAt.one (i := 3) rfl (by kernel_rfl) ?_
      generalize hK : Upto _ _ = K0
      (try simp only [List.getElem_toArray, List.getElem_cons_succ, List.getElem_cons_zero])
      go_wp2_with fail
      refine (mo _ _ _ (hN0.below hb (Nat.le_refl _)) (hC0.below hb (Nat.le_refl _)) hi1).mono ?_
      rintro e U1 ⟨rfl, hb1⟩
      replace x0 := x0.below hb1; replace hb := hb.trans (hb1.mono hb.size); clear hb1
      clear hi1
      go_wp2_with fail
      subst hK
      refine ⟨x0, ?_⟩
      refine HeadAt.take (i := 4) (.tuple #[.int .i64 (M : Nat), .int .i64 0]) rfl (by kernel_rfl) (.inl ⟨rfl, fun _ _ => by simp [go_sem]⟩) x0 ?_
      refine HeadAt.take (i := 5) (.int .i64 (M : Nat)) rfl (by kernel_rfl) (.inl ⟨rfl, fun _ _ => by simp [go_sem]⟩) x0 ?_
      refine HeadAt.take (i := 6) (.int .i64 0) rfl (by kernel_rfl) (.inl ⟨rfl, fun _ _ => by simp [go_sem]⟩) x0 ?_
      refine HeadAt.take (i := 7) (.int .i64 (M : Nat)) rfl (by kernel_rfl) (.inl ⟨rfl, fun _ _ => by simp [go_sem]⟩) x0 ?_
      refine HeadAt.done (by kernel_rfl) ?_
      (try simp only [Act.put, List.drop_succ_cons, List.drop_zero, List.getElem_toArray, List.getElem_cons_succ, List.getElem_cons_zero])
      have c0 := x0.cell 0 rfl; have c1 := x0.cell 1 rfl; have c2 := x0.cell 2 rfl
      go_wp2_with fail
      refine NoPanic.normal ?_
      clear c0 c1 c2
      go_wp2_with fail
      have x0 := x0.drew; have hb := hb.drew
      refine wp_region_head 8 (fun w' => Bx w' w.heap.size #[.int .i64 (R : Int), .slice an N.length cn, .slice ac C.length cc] 24) (by kernel_rfl) rfl ?_
      generalize World.drew _ = Y2 at *
      refine HeadAt.take (i := 0) (.agg #[.int .i64 (R : Int), .slice an N.length cn, .slice ac C.length cc]) rfl (by kernel_rfl) (.inl ⟨rfl, fun w' z => ?_⟩) x0 ?_
      · (have z0 := z.cell 0 rfl; have z1 := z.cell 1 rfl; have z2 := z.cell 2 rfl; simp [go_sem, z0, z1, z2])
      refine HeadAt.take (i := 1) (.slice s m cs) rfl (by kernel_rfl) (.inl ⟨rfl, fun _ _ => by simp [go_sem]⟩) x0 ?_
      refine HeadAt.one (i := 2) rfl (by kernel_rfl) ?_
      generalize hK : Upto _ _ = K0
      (try simp only [Act.put, List.getElem_toArray, List.getElem_cons_succ, List.getElem_cons_zero, List.setIfInBounds_toArray, List.set_cons_succ, List.set_cons_zero])
      go_wp2_with fail
      refine (joY _ (hY.below hb (Nat.le_refl _))).mono ?_
      rintro e Z2 ⟨hb1, a2, k2, rfl, hi2, -⟩
      rw [Hyn.out]
      replace x0 := x0.below hb1; replace hb := hb.trans (hb1.mono hb.size); clear hb1
      go_wp2_with fail
      subst hK
      refine ⟨x0, ?_⟩
      refine HeadAt.one (i := 3) rfl (by kernel_rfl) ?_
      generalize hK : Upto _ _ = K0
      (try simp only [List.getElem_toArray, List.getElem_cons_succ, List.getElem_cons_zero])
      go_wp2_with fail
      refine (mo2 _ _ _ (hN0.below hb (Nat.le_refl _)) (hC0.below hb (Nat.le_refl _)) hi2).mono ?_
      rintro e U2 ⟨rfl, hb1⟩
      replace x0 := x0.below hb1; replace hb := hb.trans (hb1.mono hb.size); clear hb1
      clear hi2
      go_wp2_with fail
      subst hK
      refine ⟨x0, ?_⟩
      refine HeadAt.take (i := 4) (.tuple #[.int .i64 (M2 : Nat), .int .i64 0]) rfl (by kernel_rfl) (.inl ⟨rfl, fun _ _ => by simp [go_sem]⟩) x0 ?_
      refine HeadAt.take (i := 5) (.int .i64 (M2 : Nat)) rfl (by kernel_rfl) (.inl ⟨rfl, fun _ _ => by simp [go_sem]⟩) x0 ?_
      refine HeadAt.take (i := 6) (.int .i64 0) rfl (by kernel_rfl) (.inl ⟨rfl, fun _ _ => by simp [go_sem]⟩) x0 ?_
      refine HeadAt.take (i := 7) (.int .i64 (M2 : Nat)) rfl (by kernel_rfl) (.inl ⟨rfl, fun _ _ => by simp [go_sem]⟩) x0 ?_
      refine HeadAt.done (by kernel_rfl) ?_
      (try simp only [Act.put, List.drop_succ_cons, List.drop_zero, List.getElem_toArray, List.getElem_cons_succ, List.getElem_cons_zero])
      have c0 := x0.cell 0 rfl; have c1 := x0.cell 1 rfl; have c2 := x0.cell 2 rfl
      go_wp2_with fail
      refine NoPanic.normal ?_
      clear c0 c1 c2
      go_wp2_with fail
      have x0 := x0.drew; have hb := hb.drew
      refine wp_region_head 8 (fun w' => Bx w' w.heap.size #[.int .i64 (R : Int), .slice an N.length cn, .slice ac C.length cc] 24) (by kernel_rfl) rfl ?_
      generalize World.drew _ = Y3 at *
      refine HeadAt.take (i := 0) (.agg #[.int .i64 (R : Int), .slice an N.length cn, .slice ac C.length cc]) rfl (by kernel_rfl) (.inl ⟨rfl, fun w' z => ?_⟩) x0 ?_
      · (have z0 := z.cell 0 rfl; have z1 := z.cell 1 rfl; have z2 := z.cell 2 rfl; simp [go_sem, z0, z1, z2])
      refine HeadAt.take (i := 1) (.slice p n cp) rfl (by kernel_rfl) (.inl ⟨rfl, fun _ _ => by simp [go_sem]⟩) x0 ?_
      refine HeadAt.one (i := 2) rfl (by kernel_rfl) ?_
      generalize hK : Upto _ _ = K0
      (try simp only [Act.put, List.getElem_toArray, List.getElem_cons_succ, List.getElem_cons_zero, List.setIfInBounds_toArray, List.set_cons_succ, List.set_cons_zero])
      go_wp2_with fail
      refine (joX _ (hX.below hb (Nat.le_refl _))).mono ?_
      rintro e Z3 ⟨hb1, a3, k3, rfl, hi3, -⟩
      rw [Hxn.out]
      replace x0 := x0.below hb1; replace hb := hb.trans (hb1.mono hb.size); clear hb1
      go_wp2_with fail
      subst hK
      refine ⟨x0, ?_⟩
      refine HeadAt.one (i := 3) rfl (by kernel_rfl) ?_
      generalize hK : Upto _ _ = K0
      (try simp only [List.getElem_toArray, List.getElem_cons_succ, List.getElem_cons_zero])
      go_wp2_with fail
      refine (wa _ _ _ (hN0.below hb (Nat.le_refl _)) (hC0.below hb (Nat.le_refl _)) hi3).mono ?_
      rintro e U3 ⟨rfl, hb1⟩
      replace x0 := x0.below hb1; replace hb := hb.trans (hb1.mono hb.size); clear hb1
      clear hi3
      go_wp2_with fail
      subst hK
      refine ⟨x0, ?_⟩
      refine HeadAt.take (i := 4) (.tuple #[.int .i64 (V : Nat), .int .i64 0]) rfl (by kernel_rfl) (.inl ⟨rfl, fun _ _ => by simp [go_sem]⟩) x0 ?_
      refine HeadAt.take (i := 5) (.int .i64 (V : Nat)) rfl (by kernel_rfl) (.inl ⟨rfl, fun _ _ => by simp [go_sem]⟩) x0 ?_
      refine HeadAt.take (i := 6) (.int .i64 0) rfl (by kernel_rfl) (.inl ⟨rfl, fun _ _ => by simp [go_sem]⟩) x0 ?_
      refine HeadAt.take (i := 7) (.int .i64 (V : Nat)) rfl (by kernel_rfl) (.inl ⟨rfl, fun _ _ => by simp [go_sem]⟩) x0 ?_
      refine HeadAt.done (by kernel_rfl) ?_
      (try simp only [Act.put, List.drop_succ_cons, List.drop_zero, List.getElem_toArray, List.getElem_cons_succ, List.getElem_cons_zero])
      have c0 := x0.cell 0 rfl; have c1 := x0.cell 1 rfl; have c2 := x0.cell 2 rfl
      go_wp2_with fail
      refine NoPanic.normal ?_
      go_wp2_with fail
      refine (pw1 _ (hN0.below hb (Nat.le_refl _)) (hC0.below hb (Nat.le_refl _)) (hX.below hb (Nat.le_refl _))).mono ?_
      rintro e U4 ⟨rfl, hb1⟩
      (try clear c0 c1 c2); replace x0 := x0.below hb1; have c0 := x0.cell 0 rfl; have c1 := x0.cell 1 rfl; have c2 := x0.cell 2 rfl; replace hb := hb.trans (hb1.mono hb.size); clear hb1
      go_wp2_with fail
      refine (pw2 _ (hN0.below hb (Nat.le_refl _)) (hC0.below hb (Nat.le_refl _)) (hY.below hb (Nat.le_refl _))).mono ?_
      rintro e U5 ⟨rfl, hb1⟩
      replace hb := hb.trans (hb1.mono hb.size)
      clear hb1 x0 c0 c1 c2
      by_cases hd : (A : Int) - (B : Int) ≤ (V : Int)
      · go_wp2_with fail
        refine (works_any _).mono ?_
        rintro e V3 ⟨rfl, hb1⟩
        replace hb := hb.trans (hb1.mono hb.size)
        clear hb1
        go_wp2
        go_ret
        exact ⟨rfl, hb⟩
      · have hd1 : (V : Int) < (A : Int) - (B : Int) := by omega
        have hd2 : (M2 : Int) < (M : Int) := by have := Hfa.out; omega
        go_wp2_with fail
        refine (works_any _).mono ?_
        rintro e V3 ⟨rfl, hb1⟩
        replace hb := hb.trans (hb1.mono hb.size)
        clear hb1
        go_wp2
        go_ret
        exact ⟨rfl, hb⟩

end Go.Proofs.Ytmkmnedojgigoaa
