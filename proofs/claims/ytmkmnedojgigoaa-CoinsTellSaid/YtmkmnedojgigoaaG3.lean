import Derived.Test.YtmkmnedojgigoaaG2
namespace Go.Proofs.Ytmkmnedojgigoaa
open Go.RowKit


set_option maxRecDepth 100000 in
set_option maxHeartbeats 1000000 in
theorem Could_bad (r : Int) (an ac : Option Addr) (cn cc : Nat) (N C : List Int) (a : Option Addr) (ca : Nat) (xs : List (Int × Int)) (w : World) (hN : Ints w an N) (hC : Ints w ac C) (hv : validB r N C = false) :
    Calls Try.prog 39 #[.agg #[.int .i64 r, .slice an N.length cn, .slice ac C.length cc], .slice a xs.length ca] w fun e w' => e = .returned (.tuple #[.slice none 0 0, .int .i64 10]) ∧ Below w.heap.size w w' := by
  obtain ⟨W, hW, hb, hs, x0⟩ := boxes1 w #[.int .i64 r, .slice an N.length cn, .slice ac C.length cc] 24
  clear hs
  replace hN := hN.below hb (Nat.le_refl _); replace hC := hC.below hb (Nat.le_refl _)
  have c0 := x0.cell 0 rfl; have c1 := x0.cell 1 rfl; have c2 := x0.cell 2 rfl
  go_enter Try.func39, Try.ntmps39
  go_wp2_with fail
  refine (placesOf_bad _ _ _ _ _ _ _ _ _ xs _ hN hC hv).mono ?_
  rintro e W1 ⟨rfl, hb1⟩
  replace hb := hb.trans (hb1.mono hb.size)
  have hz := hb.size
  clear c0 c1 c2 hW x0 hb1 hN hC
  unfold noWheel
  go_wp2
  refine bodyPost_ret (v := .tuple #[.slice none 0 0, .int .i64 10]) ?_ rfl ⟨rfl, ?_⟩
  · simp [results, Try.results39, go_sem]
  · exact hb.alloc hz _

set_option maxRecDepth 100000 in
set_option maxHeartbeats 1000000 in
theorem Now_bad (r : Int) (an ac : Option Addr) (cn cc : Nat) (N C : List Int) (a : Option Addr) (ca : Nat) (xs : List (Int × Int)) (w : World) (hN : Ints w an N) (hC : Ints w ac C) (hv : validB r N C = false) :
    Calls Try.prog 41 #[.agg #[.int .i64 r, .slice an N.length cn, .slice ac C.length cc], .slice a xs.length ca] w fun e w' => e = .returned (.tuple #[.slice none 0 0, .int .i64 10]) ∧ Below w.heap.size w w' := by
  obtain ⟨W, hW, hb, hs, x0⟩ := boxes1 w #[.int .i64 r, .slice an N.length cn, .slice ac C.length cc] 24
  clear hs
  replace hN := hN.below hb (Nat.le_refl _); replace hC := hC.below hb (Nat.le_refl _)
  have c0 := x0.cell 0 rfl; have c1 := x0.cell 1 rfl; have c2 := x0.cell 2 rfl
  go_enter Try.func41, Try.ntmps41
  go_wp2_with fail
  refine (placesOf_bad _ _ _ _ _ _ _ _ _ xs _ hN hC hv).mono ?_
  rintro e W1 ⟨rfl, hb1⟩
  replace hb := hb.trans (hb1.mono hb.size)
  have hz := hb.size
  clear c0 c1 c2 hW x0 hb1 hN hC
  unfold noWheel
  go_wp2
  refine bodyPost_ret (v := .tuple #[.slice none 0 0, .int .i64 10]) ?_ rfl ⟨rfl, ?_⟩
  · simp [results, Try.results41, go_sem]
  · exact hb.alloc hz _



set_option maxRecDepth 100000 in
set_option maxHeartbeats 1000000 in
theorem Could_arg (R : Nat) (an ac : Option Addr) (cn cc : Nat) (N C : List Int) (a : Option Addr) (ca : Nat) (xs : List (Int × Int)) (w : World) (hN : Ints w an N) (hC : Ints w ac C) (hX : Prs w a xs) (hv : Vw R N C) (ho : (decide (xs.length ≤ 20) && xs.all (isSeenB C)) = false) :
    Calls Try.prog 39 #[.agg #[.int .i64 (R : Int), .slice an N.length cn, .slice ac C.length cc], .slice a xs.length ca] w fun e w' => e = .returned (.tuple #[.slice none 0 0, .int .i64 1]) ∧ Below w.heap.size w w' := by
  obtain ⟨W, hW, hb, hs, x0⟩ := boxes1 w #[.int .i64 (R : Int), .slice an N.length cn, .slice ac C.length cc] 24
  clear hs
  replace hN := hN.below hb (Nat.le_refl _); replace hC := hC.below hb (Nat.le_refl _); replace hX := hX.below hb (Nat.le_refl _)
  have c0 := x0.cell 0 rfl; have c1 := x0.cell 1 rfl; have c2 := x0.cell 2 rfl
  go_enter Try.func39, Try.ntmps39
  go_wp2_with fail
  refine (placesOf_arg _ _ _ _ _ _ _ _ _ xs _ hN hC hX hv ho).mono ?_
  rintro e W1 ⟨rfl, hb1⟩
  replace hb := hb.trans (hb1.mono hb.size)
  have hz := hb.size
  clear c0 c1 c2 hW x0 hb1 hN hC
  unfold noWheel
  go_wp2
  refine bodyPost_ret (v := .tuple #[.slice none 0 0, .int .i64 1]) ?_ rfl ⟨rfl, ?_⟩
  · simp [results, Try.results39, go_sem]
  · exact hb.alloc hz _

set_option maxRecDepth 100000 in
set_option maxHeartbeats 1000000 in
theorem Now_arg (R : Nat) (an ac : Option Addr) (cn cc : Nat) (N C : List Int) (a : Option Addr) (ca : Nat) (xs : List (Int × Int)) (w : World) (hN : Ints w an N) (hC : Ints w ac C) (hX : Prs w a xs) (hv : Vw R N C) (ho : (decide (xs.length ≤ 20) && xs.all (isSeenB C)) = false) :
    Calls Try.prog 41 #[.agg #[.int .i64 (R : Int), .slice an N.length cn, .slice ac C.length cc], .slice a xs.length ca] w fun e w' => e = .returned (.tuple #[.slice none 0 0, .int .i64 1]) ∧ Below w.heap.size w w' := by
  obtain ⟨W, hW, hb, hs, x0⟩ := boxes1 w #[.int .i64 (R : Int), .slice an N.length cn, .slice ac C.length cc] 24
  clear hs
  replace hN := hN.below hb (Nat.le_refl _); replace hC := hC.below hb (Nat.le_refl _); replace hX := hX.below hb (Nat.le_refl _)
  have c0 := x0.cell 0 rfl; have c1 := x0.cell 1 rfl; have c2 := x0.cell 2 rfl
  go_enter Try.func41, Try.ntmps41
  go_wp2_with fail
  refine (placesOf_arg _ _ _ _ _ _ _ _ _ xs _ hN hC hX hv ho).mono ?_
  rintro e W1 ⟨rfl, hb1⟩
  replace hb := hb.trans (hb1.mono hb.size)
  have hz := hb.size
  clear c0 c1 c2 hW x0 hb1 hN hC
  unfold noWheel
  go_wp2
  refine bodyPost_ret (v := .tuple #[.slice none 0 0, .int .i64 1]) ?_ rfl ⟨rfl, ?_⟩
  · simp [results, Try.results41, go_sem]
  · exact hb.alloc hz _



set_option maxRecDepth 100000 in
set_option maxHeartbeats 1000000 in
theorem Could_none (R : Nat) (an ac : Option Addr) (cn cc : Nat) (N C : List Int) (a : Option Addr) (ca : Nat) (xs : List (Int × Int)) (w : World) (hN : Ints w an N) (hC : Ints w ac C) (hX : Prs w a xs) (hv : Vw R N C) (ho : (decide (xs.length ≤ 20) && xs.all (isSeenB C)) = true) (hz : bef R N C xs R = []) :
    Calls Try.prog 39 #[.agg #[.int .i64 (R : Int), .slice an N.length cn, .slice ac C.length cc], .slice a xs.length ca] w fun e w' => e = .returned (.tuple #[.slice none 0 0, .int .i64 3]) ∧ Below w.heap.size w w' := by
  obtain ⟨W, hW, hb, hs, x0⟩ := boxes1 w #[.int .i64 (R : Int), .slice an N.length cn, .slice ac C.length cc] 24
  clear hs
  replace hN := hN.below hb (Nat.le_refl _); replace hC := hC.below hb (Nat.le_refl _); replace hX := hX.below hb (Nat.le_refl _)
  have c0 := x0.cell 0 rfl; have c1 := x0.cell 1 rfl; have c2 := x0.cell 2 rfl
  go_enter Try.func39, Try.ntmps39
  go_wp2_with fail
  refine (placesOf_none _ _ _ _ _ _ _ _ _ xs _ hN hC hX hv ho hz).mono ?_
  rintro e W1 ⟨rfl, hb1⟩
  replace hb := hb.trans (hb1.mono hb.size)
  have hz := hb.size
  clear c0 c1 c2 hW x0 hb1 hN hC
  unfold noWheel
  go_wp2
  refine bodyPost_ret (v := .tuple #[.slice none 0 0, .int .i64 3]) ?_ rfl ⟨rfl, ?_⟩
  · simp [results, Try.results39, go_sem]
  · exact hb.alloc hz _

set_option maxRecDepth 100000 in
set_option maxHeartbeats 1000000 in
theorem Now_none (R : Nat) (an ac : Option Addr) (cn cc : Nat) (N C : List Int) (a : Option Addr) (ca : Nat) (xs : List (Int × Int)) (w : World) (hN : Ints w an N) (hC : Ints w ac C) (hX : Prs w a xs) (hv : Vw R N C) (ho : (decide (xs.length ≤ 20) && xs.all (isSeenB C)) = true) (hz : bef R N C xs R = []) :
    Calls Try.prog 41 #[.agg #[.int .i64 (R : Int), .slice an N.length cn, .slice ac C.length cc], .slice a xs.length ca] w fun e w' => e = .returned (.tuple #[.slice none 0 0, .int .i64 3]) ∧ Below w.heap.size w w' := by
  obtain ⟨W, hW, hb, hs, x0⟩ := boxes1 w #[.int .i64 (R : Int), .slice an N.length cn, .slice ac C.length cc] 24
  clear hs
  replace hN := hN.below hb (Nat.le_refl _); replace hC := hC.below hb (Nat.le_refl _); replace hX := hX.below hb (Nat.le_refl _)
  have c0 := x0.cell 0 rfl; have c1 := x0.cell 1 rfl; have c2 := x0.cell 2 rfl
  go_enter Try.func41, Try.ntmps41
  go_wp2_with fail
  refine (placesOf_none _ _ _ _ _ _ _ _ _ xs _ hN hC hX hv ho hz).mono ?_
  rintro e W1 ⟨rfl, hb1⟩
  replace hb := hb.trans (hb1.mono hb.size)
  have hz := hb.size
  clear c0 c1 c2 hW x0 hb1 hN hC
  unfold noWheel
  go_wp2
  refine bodyPost_ret (v := .tuple #[.slice none 0 0, .int .i64 3]) ?_ rfl ⟨rfl, ?_⟩
  · simp [results, Try.results41, go_sem]
  · exact hb.alloc hz _


def RowPost2 (xs : List Int) (w : World) (e : Ending) (w' : World) : Prop :=
  Below w.heap.size w w' ∧ ∃ (a : Option Addr) (ca : Nat), e = .returned (.tuple #[.slice a xs.length ca, .int .i64 0]) ∧ Ints w' a xs ∧ ∀ x, a = some x → w.heap.size ≤ x.block

set_option maxRecDepth 100000 in
set_option maxHeartbeats 1000000 in
theorem Could_ok (R : Nat) (an ac : Option Addr) (cn cc : Nat) (N C : List Int) (a : Option Addr) (ca : Nat) (xs : List (Int × Int)) (w : World) (hN : Ints w an N) (hC : Ints w ac C) (hX : Prs w a xs) (hv : Vw R N C) (ho : (decide (xs.length ≤ 20) && xs.all (isSeenB C)) = true) (hz : bef R N C xs R ≠ []) :
    Calls Try.prog 39 #[.agg #[.int .i64 (R : Int), .slice an N.length cn, .slice ac C.length cc], .slice a xs.length ca] w (RowPost2 (bef R N C xs R) w) := by
  obtain ⟨W, hW, hb, hs, x0⟩ := boxes1 w #[.int .i64 (R : Int), .slice an N.length cn, .slice ac C.length cc] 24
  clear hs
  replace hN := hN.below hb (Nat.le_refl _); replace hC := hC.below hb (Nat.le_refl _); replace hX := hX.below hb (Nat.le_refl _)
  have c0 := x0.cell 0 rfl; have c1 := x0.cell 1 rfl; have c2 := x0.cell 2 rfl
  go_enter Try.func39, Try.ntmps39
  go_wp2_with fail
  refine (placesOf_ok _ _ _ _ _ _ _ _ _ xs _ hN hC hX hv ho hz).mono ?_
  rintro e W1 ⟨ap, cp, P, a2, ca2, rfl, hb1, hk, hi, hnew⟩
  have hsz := hb.size
  replace hb := hb.trans (hb1.mono hb.size)
  have hz := hb.size
  clear c0 c1 c2 hW x0 hb1 hN hC
  go_wp2
  refine bodyPost_ret (v := .tuple #[.slice a2 (bef R N C xs R).length ca2, .int .i64 0]) ?_ rfl ⟨hb.alloc hz _, a2, ca2, rfl, hi.alloc _, fun x hx => by have := hnew x hx; omega⟩
  simp [results, Try.results39, go_sem]

theorem totS_le {R : Nat} {N C : List Int} (hv : Vw R N C) : ∀ (xs : List (Int × Int)), xs.all (isSeenB C) = true → totS C xs ≤ 100 * xs.length
  | [], _ => by simp [totS]
  | x :: xs, h => by
    rw [List.all_cons, Bool.and_eq_true, isSeenB, Bool.and_eq_true] at h
    obtain ⟨n, hx, hn⟩ := kind_nat h.1.1
    have := totS_le hv xs h.2
    have := (hv.coin hn).2
    rw [totS_cons, hx, List.length_cons, Int.toNat_natCast]
    omega

set_option maxRecDepth 100000 in
set_option maxHeartbeats 2000000 in
theorem Now_ok (R : Nat) (an ac : Option Addr) (cn cc : Nat) (N C : List Int) (a : Option Addr) (ca : Nat) (xs : List (Int × Int)) (w : World) (hN : Ints w an N) (hC : Ints w ac C) (hX : Prs w a xs) (hv : Vw R N C) (ho : (decide (xs.length ≤ 20) && xs.all (isSeenB C)) = true) (hz : bef R N C xs R ≠ []) :
    Calls Try.prog 41 #[.agg #[.int .i64 (R : Int), .slice an N.length cn, .slice ac C.length cc], .slice a xs.length ca] w (RowPost2 (srt (bhd R (totS C xs) (bef R N C xs R))) w) := by
  have Ho := hid ho
  obtain ⟨W, hW, hb, hs, x0⟩ := boxes1 w #[.int .i64 (R : Int), .slice an N.length cn, .slice ac C.length cc] 24
  clear hs
  replace hN := hN.below hb (Nat.le_refl _); replace hC := hC.below hb (Nat.le_refl _); replace hX := hX.below hb (Nat.le_refl _)
  have c0 := x0.cell 0 rfl; have c1 := x0.cell 1 rfl; have c2 := x0.cell 2 rfl
  go_enter Try.func41, Try.ntmps41
  go_wp2_with fail
  refine (placesOf_ok _ _ _ _ _ _ _ _ _ xs _ hN hC hX hv ho hz).mono ?_
  rintro e W1 ⟨ap, cp, P, a2, ca2, rfl, hb1, hk, hi, hnew⟩
  have hsz := hb.size
  replace hX := hX.below hb1 (Nat.le_refl _); replace hb := hb.trans (hb1.mono hb.size); clear hb1
  clear c0 c1 c2 hW x0 hN hC hnew ho hz
  have b1 := below_one (w := W1) (.cells #[.int .i64 (R : Int), .slice an N.length cn, .slice ac C.length cc, .slice ap P.length cp] 73)
  have x0 := Bx.new W1 #[.int .i64 (R : Int), .slice an N.length cn, .slice ac C.length cc, .slice ap P.length cp] 73
  replace hk := hk.below b1 (Nat.le_refl _); replace hX := hX.below b1 (Nat.le_refl _); replace hi := hi.below b1 (Nat.le_refl _); replace hb := hb.trans (b1.mono hb.size); clear b1
  have d0 := x0.ext 0 rfl; have d1 := x0.ext 1 rfl; have d2 := x0.ext 2 rfl; have d3 := x0.ext 3 rfl
  obtain ⟨T, hT⟩ : ∃ T, T = totS C xs := ⟨_, rfl⟩
  obtain ⟨pl, hpl⟩ : ∃ pl, pl = bef R N C xs R := ⟨_, rfl⟩
  have htot : ∀ t : Ext (W1.alloc (.cells #[.int .i64 (R : Int), .slice an N.length cn, .slice ac C.length cc, .slice ap P.length cp] 73)), Calls Try.prog 89 #[.slice a xs.length ca, .func (.func 90) #[.agg #[.int .i64 (R : Int), .slice an N.length cn, .slice ac C.length cc, .slice ap P.length cp]] #[]] t.w fun e w' => e = .returned (.int .i64 T) ∧ Below t.w.heap.size t.w w' := fun t => by
    rw [hT]
    have ho := Ho.out
    simp only [Bool.and_eq_true, decide_eq_true_eq] at ho
    exact totalS_any _ _ _ _ _ _ _ _ _ _ _ _ xs _ (hk.below t.below (Nat.le_refl _)) (hX.below t.below (Nat.le_refl _)) ho.1 ho.2
  have Htot := hid htot
  clear htot
  rw [← hT, ← hpl]
  rw [← hpl] at hi
  have HT := hid hT; have HP := hid hpl
  clear hT hpl
  go_wp2_with fail
  generalize World.alloc W1 _ = W2 at *
  refine wp_region_ext_tail 6 (by kernel_rfl) (by kernel_rfl) ?_
  simp only [List.take_succ_cons, List.take_zero, List.drop_succ_cons, List.drop_zero]
  repeat (quiet_step (first | (go_at_call 89; exact quiet_ext (Htot.out _))))
  refine wpQuiet_nil ?_
  intro _ hw'
  obtain ⟨t, rfl⟩ := hw'
  replace hb := hb.trans (t.below.mono hb.size)
  replace hi := hi.below t.below (Nat.le_refl _)
  have hv := hk.v
  generalize t.w = W3 at *
  clear d0 d1 d2 d3 x0 hk hX Htot
  have hr2 := hv.r2
  have hl : pl.length ≤ 200 := by rw [HP.out]; have := bef_len R N C xs R; omega
  have hp : pl.all (fun p => inR 0 p 200) = true := List.all_eq_true.2 fun x hx => by
    rw [HP.out] at hx
    have := bef_mem R N C xs R x hx
    exact inR_iff.2 (by omega)
  have hT : T ≤ 100000 := by
    have ho := Ho.out
    simp only [Bool.and_eq_true, decide_eq_true_eq] at ho
    have := totS_le hv xs ho.2
    rw [HT.out]; omega
  go_wp2_with fail
  refine (behind_any _ _ _ _ _ _ _ _ _ _ a2 ca2 pl T _ hv hi hl hp hT).mono ?_
  rintro e W4 ⟨hb1, a3, ca3, rfl, hi3, hnew⟩
  have hz := hb.size
  replace hb := hb.trans (hb1.mono hb.size)
  clear hi hp
  generalize hss : srt (bhd R T pl) = ss at *
  have Hss := hid hss; clear hss
  go_wp2
  refine bodyPost_ret (v := .tuple #[.slice a3 ss.length ca3, .int .i64 0]) ?_ rfl ⟨hb, a3, ca3, by rw [← HT.out, ← HP.out, Hss.out], by rw [← HT.out, ← HP.out, Hss.out]; exact hi3, fun x hx => by have := hnew x hx; omega⟩
  simp [results, Try.results41, go_sem]
end Go.Proofs.Ytmkmnedojgigoaa
