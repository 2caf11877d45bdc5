import Derived.Test.YtmkmnedojgigoaaR1
namespace Go.Proofs.Ytmkmnedojgigoaa
open Go.RowKit

theorem isKnown_0 (w : World) : Calls Try.prog 53 #[.int .i64 0] w fun e w' => e = .returned (.bool true) ∧ w = w' := by
  go_enter Try.func53, Try.ntmps53
  go_wp2
  go_ret
  exact ⟨rfl, rfl⟩
theorem isKnown_3 (w : World) : Calls Try.prog 53 #[.int .i64 3] w fun e w' => e = .returned (.bool true) ∧ w = w' := by
  go_enter Try.func53, Try.ntmps53
  go_wp2
  go_ret
  exact ⟨rfl, rfl⟩

def ps0 (xs : List Int) : Sp := ⟨bgN xs 0, bgN xs 1, bgN xs 2, bgN xs 3, 0, 0⟩
theorem ps0_ok {R : Nat} {N C xs : List Int} (hv : Vw R N C) (ho : okP C xs = true) : OKs R (ps0 xs) := by
  have r1 := hv.r1
  obtain ⟨o1, o2, o3⟩ := okP_mem ho
  have hc := (bl_lit xs (by have := hv.c4; omega) (by simp only [okP, Bool.and_eq_true] at ho; exact ho.2.1)).2.2.2.2.2
  refine ⟨by show 0 < R; omega, ?_, Nat.zero_le _⟩
  show bgN xs 0 + bgN xs 1 + bgN xs 2 + bgN xs 3 ≤ 12
  omega
/-- What the statement says of the costs. -/
theorem cheap_facts {R : Nat} {N C xs : List Int} (hv : Vw R N C) (hN : N ≠ []) (hC : C ≠ []) (ho : okP C xs = true) {a b : Nat} (ha : 1 ≤ a) (hb : 1 ≤ b) (hab : a + b ≤ 20) :
    1 ≤ chp R N C a ∧ 1 ≤ chp R N C b ∧ chp R N C a ≤ 82000 ∧ chp R N C b ≤ 82000 ∧ chp R N C a ≤ chp R N C (a + b) ∧ chp R N C b ≤ chp R N C (a + b) ∧ chp R N C (a + b) ≤ chp R N C a + chp R N C b ∧
      (bst btm R N C (ps0 xs) < a ∨ chp R N C a ≤ (pwS C xs xs.length : Nat)) := by
  have c4 := hv.c4
  obtain ⟨o1, o2, o3⟩ := okP_mem ho
  refine ⟨chp_pos hv hN hC ha, chp_pos hv hN hC hb, (csts_rng hv hN hC (by omega) ha (by omega) a).2, (csts_rng hv hN hC (by omega) hb (by omega) b).2, chp_mono hv hN hC (by omega), chp_mono hv hN hC (by omega), chp_sub hv hN hC (a + 1) a b (by omega), ?_⟩
  by_cases h : bst btm R N C (ps0 xs) < a
  · exact .inl h
  · have h1 := chp_purse hv hN hC (mu (ps0 xs) + 1) (ps0 xs) 0 (by omega) (ps0_ok hv ho) (Nat.zero_mod _) (.inl rfl)
    rw [fs_zero hv, Nat.zero_add] at h1
    have h2 := chp_mono hv hN hC (show a ≤ bst btm R N C (ps0 xs) by omega)
    have h3 : wth C (ps0 xs) = pwS C xs xs.length := by rw [pwS_all (by omega)]; rfl
    rw [h3] at h1
    exact .inr (by omega)

def MostPost (R : Nat) (N C xs : List Int) (w : World) (e : Ending) (w' : World) : Prop :=
  e = .returned (.tuple #[.int .i64 (bst btm R N C (ps0 xs)), .int .i64 0]) ∧ Below w.heap.size w w'
theorem most_ok (R : Nat) (an ac : Option Addr) (cn cc : Nat) (N C : List Int) (a : Option Addr) (ca : Nat) (xs : List Int) (w : World) (hN : Ints w an N) (hC : Ints w ac C) (hX : Ints w a xs) (hv : Vw R N C) (ho : okP C xs = true) :
    Calls Try.prog 28 #[.agg #[.int .i64 (R : Int), .slice an N.length cn, .slice ac C.length cc], .slice a xs.length ca] w (MostPost R N C xs w) :=
  Most_28_ok R an ac cn cc N C a ca xs w hN hC hX hv ho

set_option maxRecDepth 100000 in
set_option maxHeartbeats 1000000 in
theorem cheap_none (R : Nat) (an ac : Option Addr) (cn cc : Nat) (N C : List Int) (a b : Nat) (p : Option Addr) (cp : Nat) (xs : List Int) (w : World) (hN : Ints w an N) (hC : Ints w ac C) (hX : Ints w p xs) (hw : isWhl (R : Int) N C = true) (hv : Vw R N C) (ha : 1 ≤ a) (hb0 : 1 ≤ b) (hab : a + b ≤ 20) (ho : okP C xs = true) (h6 : xs.sum ≤ 6) (hz : N = [] ∨ C = []) :
    Calls Try.prog 13 #[.agg #[.int .i64 (R : Int), .slice an N.length cn, .slice ac C.length cc], .slice p xs.length cp, .agg #[.int .i64 a, .int .i64 b]] w (WorksP w) := by
  have hN0 := hN; have hC0 := hC; have hX0 := hX
  have hxl : xs.length ≤ 4 := by obtain ⟨o1, _, _⟩ := okP_mem ho; have := hv.c4; omega
  have hrich : decide (6 < xs.sum) = false := by simp; omega
  have hM : bst btm R N C (ps0 xs) = 0 := bst_none hv hz (mu (ps0 xs) + 1) (ps0 xs) (by omega) (ps0_ok hv ho)
  have ch : ∀ (n : Nat) (W : World), 1 ≤ n → n ≤ 20 → Ints W an N → Ints W ac C → Calls Try.prog 37 #[.agg #[.int .i64 (R : Int), .slice an N.length cn, .slice ac C.length cc], .int .i64 n] W fun e w' => e = .returned (.tuple #[.int .i64 0, .int .i64 3]) ∧ Below W.heap.size W w' := fun n W h1 h2 h3 h4 =>
    Cheapest_none R an ac cn cc N C n W h3 h4 hv h1 h2 hz
  have mo : ∀ (a' : Option Addr) (ca' : Nat) (W : World), Ints W an N → Ints W ac C → Ints W a' xs → Calls Try.prog 28 #[.agg #[.int .i64 (R : Int), .slice an N.length cn, .slice ac C.length cc], .slice a' xs.length ca'] W fun e w' => e = .returned (.tuple #[.int .i64 0, .int .i64 0]) ∧ Below W.heap.size W w' := fun a' ca' W h1 h2 h3 => by
    have := most_ok R an ac cn cc N C a' ca' xs W h1 h2 h3 hv ho
    unfold MostPost at this
    rw [hM] at this
    exact this
  have chA := ch a; have chB := ch b; have chD := ch (a + b)
  clear ch hM

  obtain ⟨W, hW, hb, hs, x0, x1⟩ := boxes2 w #[.int .i64 (R : Int), .slice an N.length cn, .slice ac C.length cc] 24 #[.int .i64 a, .int .i64 b] 64
  clear hs hN hC hX
  have d0 := x1.ext 0 rfl; have d1 := x1.ext 1 rfl
  go_enter Try.func13, Try.ntmps13
  go_wp2_with fail
  refine wp_region_ext_lit (by kernel_rfl) (by kernel_rfl) ?_
  repeat (quiet_step (fail))
  refine wpQuiet_nil ?_
  intro _ hw'
  obtain ⟨t, rfl⟩ := hw'
  have hbt := t.below
  clear d0 d1 hW
  generalize t.w = W1 at *
  replace x0 := x0.below hbt; replace hb := hb.trans (hbt.mono hb.size); clear hbt
  clear x1
  have c0 := x0.cell 0 rfl; have c1 := x0.cell 1 rfl; have c2 := x0.cell 2 rfl
  have g1 : decide ((a : Int) < 1) = false := by simp; omega
  have g2 : decide ((b : Int) < 1) = false := by simp; omega
  have g3 : decide ((20 : Int) < (a : Int)) = false := by simp; omega
  have g4 : decide ((20 : Int) < (b : Int)) = false := by simp; omega
  have g5 : decide ((20 : Int) < (a : Int) + (b : Int)) = false := by simp; omega
  have g6 : decide ((40 : Int) < (xs.length : Int)) = false := by simp; omega
  have i1 : (a : Int) ≤ 20 := by omega
  have i2 : (b : Int) ≤ 20 := by omega
  have i3 : (a : Int) + (b : Int) ≤ 20 := by omega
  go_wp2_with fail
  refine (isWheel_any _ _ _ _ _ _ _ _ (hN0.below hb (Nat.le_refl _)) (hC0.below hb (Nat.le_refl _))).mono ?_
  rintro e W2 ⟨rfl, hb1⟩
  rw [hw]
  (try clear c0 c1 c2); replace x0 := x0.below hb1; have c0 := x0.cell 0 rfl; have c1 := x0.cell 1 rfl; have c2 := x0.cell 2 rfl; replace hb := hb.trans (hb1.mono hb.size); clear hb1
  go_wp2_with fail
  refine (isPurse_any _ _ _ _ _ _ _ p cp xs _ (hC0.below hb (Nat.le_refl _)) (hX0.below hb (Nat.le_refl _)) (by omega)).mono ?_
  rintro e W3 ⟨rfl, hb1⟩
  rw [ho]
  (try clear c0 c1 c2); replace x0 := x0.below hb1; have c0 := x0.cell 0 rfl; have c1 := x0.cell 1 rfl; have c2 := x0.cell 2 rfl; replace hb := hb.trans (hb1.mono hb.size); clear hb1
  go_wp2_with fail
  refine (rich_ok _ _ _ _ _ _ _ p cp xs _ (hN0.below hb (Nat.le_refl _)) (hC0.below hb (Nat.le_refl _)) (hX0.below hb (Nat.le_refl _)) hv ho).mono ?_
  rintro e W4 ⟨rfl, hb1⟩
  rw [hrich]
  replace x0 := x0.below hb1; replace hb := hb.trans (hb1.mono hb.size); clear hb1
  clear c0 c1 c2
  go_wp2_with fail
  replace x0 := x0.drew; replace hb := hb.drew
  refine wp_region_head 8 (fun w' => Bx w' w.heap.size #[.int .i64 (R : Int), .slice an N.length cn, .slice ac C.length cc] 24) (by kernel_rfl) rfl ?_
  generalize World.drew _ = Y0 at *
  refine HeadAt.take (i := 0) (.agg #[.int .i64 (R : Int), .slice an N.length cn, .slice ac C.length cc]) rfl (by kernel_rfl) (.inl ⟨rfl, fun w' z => ?_⟩) x0 ?_
  · (have z0 := z.cell 0 rfl; have z1 := z.cell 1 rfl; have z2 := z.cell 2 rfl; simp [go_sem, z0, z1, z2])
  refine HeadAt.take (i := 1) (.slice p xs.length cp) rfl (by kernel_rfl) (.inl ⟨rfl, fun _ _ => by simp [go_sem]⟩) x0 ?_
  refine HeadAt.one (i := 2) rfl (by kernel_rfl) ?_
  generalize hK : Upto _ _ = K0
  (try simp only [Act.put, List.getElem_toArray, List.getElem_cons_succ, List.getElem_cons_zero, List.setIfInBounds_toArray, List.set_cons_succ, List.set_cons_zero])
  go_wp2_with fail
  refine (joined1_any _ _ xs _ (hX0.below hb (Nat.le_refl _)) (by omega)).mono ?_
  rintro e Y1 ⟨hb1, a1, ca1, rfl, hi, -⟩
  replace x0 := x0.below hb1; replace hb := hb.trans (hb1.mono hb.size); clear hb1
  go_wp2_with fail
  subst hK
  refine ⟨x0, ?_⟩
  refine HeadAt.one (i := 3) rfl (by kernel_rfl) ?_
  generalize hK : Upto _ _ = K0
  (try simp only [List.getElem_toArray, List.getElem_cons_succ, List.getElem_cons_zero])
  go_wp2_with fail
  refine (mo _ _ _ (hN0.below hb (Nat.le_refl _)) (hC0.below hb (Nat.le_refl _)) hi).mono ?_
  rintro e Y2 ⟨rfl, hb1⟩
  replace x0 := x0.below hb1; replace hb := hb.trans (hb1.mono hb.size); clear hb1
  clear hi mo
  go_wp2_with fail
  subst hK
  refine ⟨x0, ?_⟩
  refine HeadAt.take (i := 4) (.tuple #[.int .i64 0, .int .i64 0]) rfl (by kernel_rfl) (.inl ⟨rfl, fun _ _ => by simp [go_sem]⟩) x0 ?_
  refine HeadAt.take (i := 5) (.int .i64 0) rfl (by kernel_rfl) (.inl ⟨rfl, fun _ _ => by simp [go_sem]⟩) x0 ?_
  refine HeadAt.take (i := 6) (.int .i64 0) rfl (by kernel_rfl) (.inl ⟨rfl, fun _ _ => by simp [go_sem]⟩) x0 ?_
  refine HeadAt.take (i := 7) (.int .i64 0) rfl (by kernel_rfl) (.inl ⟨rfl, fun _ _ => by simp [go_sem]⟩) x0 ?_
  refine HeadAt.done (by kernel_rfl) ?_
  (try simp only [Act.put, List.drop_succ_cons, List.drop_zero, List.getElem_toArray, List.getElem_cons_succ, List.getElem_cons_zero])
  have c0 := x0.cell 0 rfl; have c1 := x0.cell 1 rfl; have c2 := x0.cell 2 rfl
  go_wp2_with fail
  refine NoPanic.normal ?_
  go_wp2_with fail
  refine (chA _ ha (by omega) (hN0.below hb (Nat.le_refl _)) (hC0.below hb (Nat.le_refl _))).mono ?_
  rintro e Y3 ⟨rfl, hb1⟩
  (try clear c0 c1 c2); replace x0 := x0.below hb1; have c0 := x0.cell 0 rfl; have c1 := x0.cell 1 rfl; have c2 := x0.cell 2 rfl; replace hb := hb.trans (hb1.mono hb.size); clear hb1
  go_wp2_with fail
  refine (chB _ hb0 (by omega) (hN0.below hb (Nat.le_refl _)) (hC0.below hb (Nat.le_refl _))).mono ?_
  rintro e Y4 ⟨rfl, hb1⟩
  (try clear c0 c1 c2); replace x0 := x0.below hb1; have c0 := x0.cell 0 rfl; have c1 := x0.cell 1 rfl; have c2 := x0.cell 2 rfl; replace hb := hb.trans (hb1.mono hb.size); clear hb1
  go_wp2_with fail
  refine (chD _ (by omega) hab (hN0.below hb (Nat.le_refl _)) (hC0.below hb (Nat.le_refl _))).mono ?_
  rintro e Y5 ⟨rfl, hb1⟩
  (try clear c0 c1 c2); replace x0 := x0.below hb1; have c0 := x0.cell 0 rfl; have c1 := x0.cell 1 rfl; have c2 := x0.cell 2 rfl; replace hb := hb.trans (hb1.mono hb.size); clear hb1
  clear chA chB chD
  go_wp2_with fail
  refine (isKnown_3 _).mono ?_
  rintro e w' ⟨rfl, rfl⟩
  clear x0 c0 c1 c2
  go_wp2_with fail
  refine (works_any _).mono ?_
  rintro e V3 ⟨rfl, hb1⟩
  replace hb := hb.trans (hb1.mono hb.size)
  clear hb1
  go_wp2
  go_ret
  exact ⟨rfl, hb⟩

set_option maxRecDepth 100000 in
set_option maxHeartbeats 1000000 in
theorem cheap_ok (R : Nat) (an ac : Option Addr) (cn cc : Nat) (N C : List Int) (a b : Nat) (p : Option Addr) (cp : Nat) (xs : List Int) (w : World) (hN : Ints w an N) (hC : Ints w ac C) (hX : Ints w p xs) (hw : isWhl (R : Int) N C = true) (hv : Vw R N C) (ha : 1 ≤ a) (hb0 : 1 ≤ b) (hab : a + b ≤ 20) (ho : okP C xs = true) (h6 : xs.sum ≤ 6) (hz : N ≠ [] ∧ C ≠ []) :
    Calls Try.prog 13 #[.agg #[.int .i64 (R : Int), .slice an N.length cn, .slice ac C.length cc], .slice p xs.length cp, .agg #[.int .i64 a, .int .i64 b]] w (WorksP w) := by
  have hN0 := hN; have hC0 := hC; have hX0 := hX
  have hxl : xs.length ≤ 4 := by obtain ⟨o1, _, _⟩ := okP_mem ho; have := hv.c4; omega
  have hrich : decide (6 < xs.sum) = false := by simp; omega
  obtain ⟨q1, q2, q3, q4, q5, q6, q7, q8⟩ := cheap_facts hv hz.1 hz.2 ho ha hb0 hab
  have ch : ∀ (n : Nat) (W : World), 1 ≤ n → n ≤ 20 → Ints W an N → Ints W ac C → Calls Try.prog 37 #[.agg #[.int .i64 (R : Int), .slice an N.length cn, .slice ac C.length cc], .int .i64 n] W fun e w' => e = .returned (.tuple #[.int .i64 (chp R N C n), .int .i64 0]) ∧ Below W.heap.size W w' := fun n W h1 h2 h3 h4 =>
    Cheapest_ok R an ac cn cc N C n W h3 h4 hv h1 h2 hz.1 hz.2
  have chA := ch a; have chB := ch b; have chD := ch (a + b)
  have mo : ∀ (a' : Option Addr) (ca' : Nat) (W : World), Ints W an N → Ints W ac C → Ints W a' xs → Calls Try.prog 28 #[.agg #[.int .i64 (R : Int), .slice an N.length cn, .slice ac C.length cc], .slice a' xs.length ca'] W fun e w' => e = .returned (.tuple #[.int .i64 (bst btm R N C (ps0 xs)), .int .i64 0]) ∧ Below W.heap.size W w' := fun a' ca' W h1 h2 h3 => most_ok R an ac cn cc N C a' ca' xs W h1 h2 h3 hv ho
  have pw : ∀ W : World, Ints W an N → Ints W ac C → Ints W p xs → Calls Try.prog 54 #[.agg #[.int .i64 (R : Int), .slice an N.length cn, .slice ac C.length cc], .slice p xs.length cp] W fun e w' => e = .returned (.int .i64 (pwS C xs xs.length : Nat)) ∧ Below W.heap.size W w' := fun W h1 h2 h3 => pworth_ok R an ac cn cc N C p cp xs W h1 h2 h3 hv ho
  clear ch
  generalize chp R N C a = cA at *
  generalize chp R N C b = cB at *
  generalize chp R N C (a + b) = cD at *
  generalize bst btm R N C (ps0 xs) = M at *
  generalize pwS C xs xs.length = PW at *

  obtain ⟨W, hW, hb, hs, x0, x1⟩ := boxes2 w #[.int .i64 (R : Int), .slice an N.length cn, .slice ac C.length cc] 24 #[.int .i64 a, .int .i64 b] 64
  clear hs hN hC hX
  have d0 := x1.ext 0 rfl; have d1 := x1.ext 1 rfl
  go_enter Try.func13, Try.ntmps13
  go_wp2_with fail
  refine wp_region_ext_lit (by kernel_rfl) (by kernel_rfl) ?_
  repeat (quiet_step (fail))
  refine wpQuiet_nil ?_
  intro _ hw'
  obtain ⟨t, rfl⟩ := hw'
  have hbt := t.below
  clear d0 d1 hW
  generalize t.w = W1 at *
  replace x0 := x0.below hbt; replace hb := hb.trans (hbt.mono hb.size); clear hbt
  clear x1
  have c0 := x0.cell 0 rfl; have c1 := x0.cell 1 rfl; have c2 := x0.cell 2 rfl
  have g1 : decide ((a : Int) < 1) = false := by simp; omega
  have g2 : decide ((b : Int) < 1) = false := by simp; omega
  have g3 : decide ((20 : Int) < (a : Int)) = false := by simp; omega
  have g4 : decide ((20 : Int) < (b : Int)) = false := by simp; omega
  have g5 : decide ((20 : Int) < (a : Int) + (b : Int)) = false := by simp; omega
  have g6 : decide ((40 : Int) < (xs.length : Int)) = false := by simp; omega
  have i1 : (a : Int) ≤ 20 := by omega
  have i2 : (b : Int) ≤ 20 := by omega
  have i3 : (a : Int) + (b : Int) ≤ 20 := by omega
  go_wp2_with fail
  refine (isWheel_any _ _ _ _ _ _ _ _ (hN0.below hb (Nat.le_refl _)) (hC0.below hb (Nat.le_refl _))).mono ?_
  rintro e W2 ⟨rfl, hb1⟩
  rw [hw]
  (try clear c0 c1 c2); replace x0 := x0.below hb1; have c0 := x0.cell 0 rfl; have c1 := x0.cell 1 rfl; have c2 := x0.cell 2 rfl; replace hb := hb.trans (hb1.mono hb.size); clear hb1
  go_wp2_with fail
  refine (isPurse_any _ _ _ _ _ _ _ p cp xs _ (hC0.below hb (Nat.le_refl _)) (hX0.below hb (Nat.le_refl _)) (by omega)).mono ?_
  rintro e W3 ⟨rfl, hb1⟩
  rw [ho]
  (try clear c0 c1 c2); replace x0 := x0.below hb1; have c0 := x0.cell 0 rfl; have c1 := x0.cell 1 rfl; have c2 := x0.cell 2 rfl; replace hb := hb.trans (hb1.mono hb.size); clear hb1
  go_wp2_with fail
  refine (rich_ok _ _ _ _ _ _ _ p cp xs _ (hN0.below hb (Nat.le_refl _)) (hC0.below hb (Nat.le_refl _)) (hX0.below hb (Nat.le_refl _)) hv ho).mono ?_
  rintro e W4 ⟨rfl, hb1⟩
  rw [hrich]
  replace x0 := x0.below hb1; replace hb := hb.trans (hb1.mono hb.size); clear hb1
  clear c0 c1 c2
  go_wp2_with fail
  replace x0 := x0.drew; replace hb := hb.drew
  refine wp_region_head 8 (fun w' => Bx w' w.heap.size #[.int .i64 (R : Int), .slice an N.length cn, .slice ac C.length cc] 24) (by kernel_rfl) rfl ?_
  generalize World.drew _ = Y0 at *
  refine HeadAt.take (i := 0) (.agg #[.int .i64 (R : Int), .slice an N.length cn, .slice ac C.length cc]) rfl (by kernel_rfl) (.inl ⟨rfl, fun w' z => ?_⟩) x0 ?_
  · (have z0 := z.cell 0 rfl; have z1 := z.cell 1 rfl; have z2 := z.cell 2 rfl; simp [go_sem, z0, z1, z2])
  refine HeadAt.take (i := 1) (.slice p xs.length cp) rfl (by kernel_rfl) (.inl ⟨rfl, fun _ _ => by simp [go_sem]⟩) x0 ?_
  refine HeadAt.one (i := 2) rfl (by kernel_rfl) ?_
  generalize hK : Upto _ _ = K0
  (try simp only [Act.put, List.getElem_toArray, List.getElem_cons_succ, List.getElem_cons_zero, List.setIfInBounds_toArray, List.set_cons_succ, List.set_cons_zero])
  go_wp2_with fail
  refine (joined1_any _ _ xs _ (hX0.below hb (Nat.le_refl _)) (by omega)).mono ?_
  rintro e Y1 ⟨hb1, a1, ca1, rfl, hi, -⟩
  replace x0 := x0.below hb1; replace hb := hb.trans (hb1.mono hb.size); clear hb1
  go_wp2_with fail
  subst hK
  refine ⟨x0, ?_⟩
  refine HeadAt.one (i := 3) rfl (by kernel_rfl) ?_
  generalize hK : Upto _ _ = K0
  (try simp only [List.getElem_toArray, List.getElem_cons_succ, List.getElem_cons_zero])
  go_wp2_with fail
  refine (mo _ _ _ (hN0.below hb (Nat.le_refl _)) (hC0.below hb (Nat.le_refl _)) hi).mono ?_
  rintro e Y2 ⟨rfl, hb1⟩
  replace x0 := x0.below hb1; replace hb := hb.trans (hb1.mono hb.size); clear hb1
  clear hi mo
  go_wp2_with fail
  subst hK
  refine ⟨x0, ?_⟩
  refine HeadAt.take (i := 4) (.tuple #[.int .i64 M, .int .i64 0]) rfl (by kernel_rfl) (.inl ⟨rfl, fun _ _ => by simp [go_sem]⟩) x0 ?_
  refine HeadAt.take (i := 5) (.int .i64 M) rfl (by kernel_rfl) (.inl ⟨rfl, fun _ _ => by simp [go_sem]⟩) x0 ?_
  refine HeadAt.take (i := 6) (.int .i64 0) rfl (by kernel_rfl) (.inl ⟨rfl, fun _ _ => by simp [go_sem]⟩) x0 ?_
  refine HeadAt.take (i := 7) (.int .i64 M) rfl (by kernel_rfl) (.inl ⟨rfl, fun _ _ => by simp [go_sem]⟩) x0 ?_
  refine HeadAt.done (by kernel_rfl) ?_
  (try simp only [Act.put, List.drop_succ_cons, List.drop_zero, List.getElem_toArray, List.getElem_cons_succ, List.getElem_cons_zero])
  have c0 := x0.cell 0 rfl; have c1 := x0.cell 1 rfl; have c2 := x0.cell 2 rfl
  go_wp2_with fail
  refine NoPanic.normal ?_
  go_wp2_with fail
  refine (chA _ ha (by omega) (hN0.below hb (Nat.le_refl _)) (hC0.below hb (Nat.le_refl _))).mono ?_
  rintro e Y3 ⟨rfl, hb1⟩
  (try clear c0 c1 c2); replace x0 := x0.below hb1; have c0 := x0.cell 0 rfl; have c1 := x0.cell 1 rfl; have c2 := x0.cell 2 rfl; replace hb := hb.trans (hb1.mono hb.size); clear hb1
  go_wp2_with fail
  refine (chB _ hb0 (by omega) (hN0.below hb (Nat.le_refl _)) (hC0.below hb (Nat.le_refl _))).mono ?_
  rintro e Y4 ⟨rfl, hb1⟩
  (try clear c0 c1 c2); replace x0 := x0.below hb1; have c0 := x0.cell 0 rfl; have c1 := x0.cell 1 rfl; have c2 := x0.cell 2 rfl; replace hb := hb.trans (hb1.mono hb.size); clear hb1
  go_wp2_with fail
  refine (chD _ (by omega) hab (hN0.below hb (Nat.le_refl _)) (hC0.below hb (Nat.le_refl _))).mono ?_
  rintro e Y5 ⟨rfl, hb1⟩
  (try clear c0 c1 c2); replace x0 := x0.below hb1; have c0 := x0.cell 0 rfl; have c1 := x0.cell 1 rfl; have c2 := x0.cell 2 rfl; replace hb := hb.trans (hb1.mono hb.size); clear hb1
  clear chA chB chD
  go_wp2_with fail
  refine (isKnown_0 _).mono ?_
  rintro e w' ⟨rfl, rfl⟩
  by_cases hMa : M < a
  · have hMB : decide ((M : Int) < (a : Int)) = true := by simp; omega
    clear x0 c0 c1 c2 q8
    go_wp2_with fail
    refine (works_any _).mono ?_
    rintro e V3 ⟨rfl, hb1⟩
    replace hb := hb.trans (hb1.mono hb.size)
    clear hb1
    go_wp2
    go_ret
    exact ⟨rfl, hb⟩
  · have hMB : decide ((M : Int) < (a : Int)) = false := by simp; omega
    have q9 : cA ≤ (PW : Int) := by rcases q8 with h | h <;> omega
    clear q8
    go_wp2_with fail
    refine (pw _ (hN0.below hb (Nat.le_refl _)) (hC0.below hb (Nat.le_refl _)) (hX0.below hb (Nat.le_refl _))).mono ?_
    rintro e Y6 ⟨rfl, hb1⟩
    replace hb := hb.trans (hb1.mono hb.size)
    clear x0 c0 c1 c2 hb1
    go_wp2_with fail
    refine (works_any _).mono ?_
    rintro e V3 ⟨rfl, hb1⟩
    replace hb := hb.trans (hb1.mono hb.size)
    clear hb1
    go_wp2
    go_ret
    exact ⟨rfl, hb⟩

end Go.Proofs.Ytmkmnedojgigoaa
