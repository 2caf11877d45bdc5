import Derived.Test.YtmkmnedojgigoaaP4
import Derived.Test.YtmkmnedojgigoaaA9
namespace Go.Proofs.Ytmkmnedojgigoaa
open Go.RowKit

theorem Ints.of_pre {w : World} {g : Nat} {xs ys : List Int} {T : TypeId} (h : Bx w g (vrow (xs ++ ys)) T) (h1 : xs.length ≤ 9223372036854775807) (h2 : ∀ x ∈ xs, -9223372036854775808 ≤ x ∧ x ≤ 9223372036854775807) : Ints w (some ⟨g, 0, none⟩) xs :=
  ⟨h1, h2, fun i hi => ⟨g, 0, rfl, h.lt, by
    have := h.cell i (vrow_at (xs := xs ++ ys) (k := i) (x := xs.getD i 0) (by rw [List.getElem?_append_left hi]; simp [List.getD, hi]))
    simpa using this⟩⟩

/-- The row of costs when n of them are known. -/
def crow (R : Nat) (N xs : List Int) (m n : Nat) : List Int := csts R N xs n ++ List.replicate (m - n) 0
theorem crow_zero (R : Nat) (N xs : List Int) (m : Nat) : List.replicate (m + 1) 0 = crow R N xs m 0 := by
  simp [crow, csts, List.replicate_succ]
theorem crow_next (R : Nat) (N xs : List Int) (m n : Nat) (h : n < m) : (crow R N xs m n).set (n + 1) (xs.foldl (cst1 R N (csts R N xs n)) (-1)) = crow R N xs m (n + 1) := by
  unfold crow
  rw [List.set_append_right _ _ (by rw [csts_len]; omega), csts_len, show m - n = (m - (n + 1)) + 1 by omega, List.replicate_succ]
  simp [csts]
theorem crow_at (R : Nat) (N xs : List Int) (m : Nat) : (crow R N xs m m)[m]? = some ((csts R N xs m).getD m 0) := by
  unfold crow
  have := csts_len R N xs m
  rw [List.getElem?_append_left (by omega)]
  simp [List.getD, this]

theorem crow_in (R : Nat) (N xs : List Int) (m n : Nat) (h : n < m) : (crow R N xs m n)[n + 1]? = some ((crow R N xs m n).getD (n + 1) 0) := by
  have : (crow R N xs m n).length = m + 1 := by simp [crow, csts_len]; omega
  simp [List.getD, this, h]

def chp (R : Nat) (N C : List Int) (n : Nat) : Int := (csts R N (sml C (n * R + cw C 0)) n).getD n 0

theorem csts_rng {R : Nat} {N C : List Int} (hv : Vw R N C) (hN : N ≠ []) (hC : C ≠ []) {n m : Nat} (hn : n ≤ 20) (hm : 1 ≤ m) (hm2 : m ≤ 20) (i : Nat) :
    0 ≤ (csts R N (sml C (m * R + cw C 0)) n).getD i 0 ∧ (csts R N (sml C (m * R + cw C 0)) n).getD i 0 ≤ 82000 := by
  have hr2 := hv.r2
  have hc := (hv.coin (List.length_pos_iff.2 hC)).2
  have h1 : R ≤ m * R := Nat.le_mul_of_pos_left R hm
  have h2 : m * R ≤ 20 * R := Nat.mul_le_mul_right R hm2
  have := csts_bd (L := m * R + cw C 0) (fun x hx => sml_mem C _ x hx) (some_buys hv hN hC (show R + cw C 0 ≤ m * R + cw C 0 by omega)) n i
  have h3 : n * (m * R + cw C 0) ≤ 20 * (m * R + cw C 0) := Nat.mul_le_mul_right _ hn
  omega
theorem all_getD {xs : List Int} {p : Int → Bool} (h : ∀ i, p (xs.getD i 0) = true) : xs.all p = true := by
  rw [List.all_eq_true]
  intro x hx
  obtain ⟨i, hi, rfl⟩ := List.getElem_of_mem hx
  have := h i
  simpa [List.getD, hi] using this

set_option maxRecDepth 100000 in
set_option maxHeartbeats 1000000 in
theorem cheapest_none (R : Nat) (an ac ap : Option Addr) (cn cc cp : Nat) (N C P : List Int) (n : Nat) (w : World) (hz : N = [] ∨ C = []) :
    Calls Try.prog 83 #[.agg #[.int .i64 (R : Int), .slice an N.length cn, .slice ac C.length cc, .slice ap P.length cp], .int .i64 n] w fun e w' => e = .returned (.tuple #[.int .i64 0, .bool false]) ∧ Below w.heap.size w w' := by
  rcases N with _ | ⟨x, N⟩
  · go_enter Try.func83, Try.ntmps83
    go_wp2
    refine bodyPost_ret (v := .tuple #[.int .i64 0, .bool false]) (by simp [results, Try.results83, go_sem]) rfl ⟨rfl, ?_⟩
    (repeat (first | with_reducible assumption | with_reducible refine Below.alloc ?_ (by simp; try omega) _ | with_reducible refine Below.setCell ?_ (by simp; try omega) _ | with_reducible refine below_drewN ?_ _ | with_reducible exact Below.refl _ _))
  · obtain rfl : C = [] := by simpa using hz
    have h1 : (((x :: N).length : Int) == 0) = false := by simp; omega
    go_enter Try.func83, Try.ntmps83
    go_wp2
    refine bodyPost_ret (v := .tuple #[.int .i64 0, .bool false]) (by simp [results, Try.results83, go_sem]) rfl ⟨rfl, ?_⟩
    (repeat (first | with_reducible assumption | with_reducible refine Below.alloc ?_ (by simp; try omega) _ | with_reducible refine Below.setCell ?_ (by simp; try omega) _ | with_reducible refine below_drewN ?_ _ | with_reducible exact Below.refl _ _))

set_option maxRecDepth 100000 in
set_option maxHeartbeats 600000 in
theorem cheapest_any (R : Nat) (an ac ap : Option Addr) (cn cc cp : Nat) (N C P : List Int) (n : Nat) (w : World) (hk : Wk w R an ac ap N C P) (hN0 : N ≠ []) (hC0 : C ≠ []) (hn1 : 1 ≤ n) (hn2 : n ≤ 20) :
    Calls Try.prog 83 #[.agg #[.int .i64 (R : Int), .slice an N.length cn, .slice ac C.length cc, .slice ap P.length cp], .int .i64 n] w fun e w' => e = .returned (.tuple #[.int .i64 (chp R N C n), .bool true]) ∧ Below w.heap.size w w' := by
  obtain ⟨i0, hi, hz0, hz1, hz2⟩ := info_parts info3
  have hv := hk.v
  have hr1 := hv.r1
  have hr2 := hv.r2
  have hNl := List.length_pos_iff.2 hN0
  have hCl := List.length_pos_iff.2 hC0
  have hnB : ((N.length : Int) == 0) = false := by simp; omega
  have hcB : ((C.length : Int) == 0) = false := by simp; omega
  have hc4 := hv.c4
  have hrng := hid (fun (j : Nat) (hj : j ≤ 20) (i : Nat) => csts_rng hv hN0 hC0 (n := j) (m := n) hj hn1 hn2 i)
  obtain ⟨q, hq⟩ : ∃ q, q = n * R := ⟨_, rfl⟩
  have hq2 : q ≤ 4000 := by rw [hq]; have := Nat.mul_le_mul hn2 hr2; omega
  have hq1 : R ≤ q := by rw [hq]; exact Nat.le_mul_of_pos_left R hn1
  have hqI : (n : Int) * (R : Int) = (q : Int) := by rw [hq]; simp
  obtain ⟨W, hW, hb, hs, x0⟩ := boxes1 w #[.int .i64 (R : Int), .slice an N.length cn, .slice ac C.length cc, .slice ap P.length cp] 73
  clear hs
  replace hk := hk.below hb (Nat.le_refl _)
  obtain ⟨ba, off, x, rfl, hbs, hc, _, _, hx, hd⟩ := hk.hC.at hCl
  have hco := hv.coin hCl
  have hxe : x = (cw C 0 : Int) := by have := hx.out; rw [hco.1] at this; simpa using this.symm
  subst hxe
  rw [Nat.add_zero] at hc
  have hco2 := hco.2
  clear hd hx hco
  obtain ⟨c, hce⟩ : ∃ c, c = cw C 0 := ⟨_, rfl⟩
  rw [← hce] at hc hco2
  have Hce := hid hce; clear hce
  have Hq := hid hq; clear hq
  obtain ⟨L, hL⟩ : ∃ L, L = q + c := ⟨_, rfl⟩
  have ew : IntKind.i64.wrap ((n : Int) * (R : Int)) = (q : Int) := by rw [hqI]; exact IntWalk.i64_in _ (by omega)
  have ew2 : IntKind.i64.wrap ((q : Int) + (c : Int)) = (L : Int) := by rw [hL]; exact IntWalk.i64_in _ (by omega)
  have HL := hid hL; clear hL
  have c0 := x0.cell 0 rfl; have c1 := x0.cell 1 rfl; have c2 := x0.cell 2 rfl; have c3 := x0.cell 3 rfl
  have d0 := Ext.cell c0; have d1 := Ext.cell c1; have d2 := Ext.cell c2; have d3 := Ext.cell c3; have hcx := Ext.cell hc
  go_enter Try.func83, Try.ntmps83
  go_wp2_with fail
  clear hW
  refine wp_region_ext_tail 12 (by kernel_rfl) (by kernel_rfl) ?_
  simp only [List.take_succ_cons, List.take_zero, List.drop_succ_cons, List.drop_zero]
  repeat (quiet_step (fail))
  refine wpQuiet_nil ?_
  intro _ hw'
  obtain ⟨t, rfl⟩ := hw'
  replace hb := hb.trans (t.below.mono hb.size)
  replace hk := hk.below t.below (Nat.le_refl _)
  replace x0 := x0.below t.below
  generalize t.w = W1 at *
  clear c0 c1 c2 c3 d0 d1 d2 d3 hcx hc hbs
  go_wp2_with fail
  rw [show (q : Int) + (c : Int) = (L : Int) by have := HL.out; omega]
  refine (sums_any _ _ _ _ _ _ _ _ _ _ L _ hk (by have := HL.out; omega) (by have := HL.out; omega)).mono ?_
  rintro e W2 ⟨hb1, _, a, ca, rfl, rfl, hX⟩
  replace hk := hk.below hb1 (Nat.le_refl _); replace x0 := x0.below hb1; replace hb := hb.trans (hb1.mono hb.size); clear hb1
  have hlen := sml_len C L
  have hL5 : L ≤ 5000 := by have := HL.out; omega
  have hg0 := x0.lt
  go_wp2_with (first | (at_make; go_must (refine wpList_make_full _ rfl _ _ 22 rfl (w.heap.size + 1) 3 i0 (.int .i64 0) 1 under22 hi hz0 hz1 _ _ _ _ (n + 1) rfl rfl (by omega) (by omega) (by rw [hz2]; omega) (by unfold maxLen; omega) (by omega) ?_); intro W3 hown hgrow; have hb1 : Below W2.heap.size W2 W3 := (Below.refl _ _).grown hgrow (Nat.le_refl _) (fun k hk => by cases hk); have y := Bx.of_own hown; rw [made_ints, crow_zero R N (sml C L) n] at y))
  have hLe : L = n * R + cw C 0 := by rw [HL.out, Hq.out, Hce.out]
  have hrng2 : ∀ (j : Nat), j ≤ 20 → ∀ (i : Nat), 0 ≤ (csts R N (sml C L) j).getD i 0 ∧ (csts R N (sml C L) j).getD i 0 ≤ 82000 := by rw [hLe]; exact hrng.out
  have Hrng := hid hrng2
  have HLe := hid hLe
  have hxs : (sml C L).all (fun x => inR 1 x 100000) = true := List.all_eq_true.2 fun x hx => by
    have := sml_mem C L x hx
    have := HL.out
    exact inR_iff.2 (by omega)
  have Hxs := hid hxs
  clear hrng hrng2 hLe hxs HL hqI hown hgrow Hq Hce t W1 ew ew2
  generalize hxx : sml C L = xs at *
  have Hxx := hid hxx; clear hxx
  go_loopw [8] (fun v8 wr => ∃ (k : Nat), k ≤ n ∧ v8 = .int .i64 ((k : Int) + 1) ∧ Below W2.heap.size W2 wr ∧ Bx wr W2.heap.size (vrow (crow R N xs n k)) 3) (fun v8 _ => n + 1 - (intOf v8).toNat)
  case atStart => exact ⟨0, Nat.zero_le _, rfl, hb1, y⟩
  case round =>
    clear hb1 y
    obtain ⟨k, hkn, rfl, hb1, y⟩ := hrel
    by_cases hlt : k < n
    · have hltB : decide ((k : Int) + 1 ≤ (n : Int)) = true := by simp; omega
      replace hk := hk.below hb1 (Nat.le_refl _)
      replace hX := hX.below hb1 (Nat.le_refl _)
      replace x0 := x0.below hb1
      obtain ⟨F, hF⟩ : ∃ F, F = xs.foldl (cst1 R N (csts R N xs k)) (-1) := ⟨_, rfl⟩
      have hcost : ∀ t : Ext wr, Calls Try.prog 106 #[.agg #[.int .i64 (R : Int), .slice an N.length cn, .slice (some ⟨ba, off, none⟩) C.length cc, .slice ap P.length cp], .slice a xs.length ca, .slice (some ⟨W2.heap.size, 0, none⟩) (k + 1) (n + 1)] t.w fun e w' => e = .returned (.int .i64 F) ∧ Below t.w.heap.size t.w w' := fun t => by
        have hY := Ints.of_pre (xs := csts R N xs k) (y.below t.below) (by rw [csts_len]; omega) (fun x hx => by
          obtain ⟨i, hi, rfl⟩ := List.getElem_of_mem hx
          have := Hrng.out k (by omega) i
          simp [List.getD, hi] at this
          omega)
        have := cost_any R an (some ⟨ba, off, none⟩) ap cn cc cp N C P a (some ⟨W2.heap.size, 0, none⟩) ca (n + 1) xs (csts R N xs k) t.w (hk.below t.below (Nat.le_refl _)) (hX.below t.below (Nat.le_refl _)) hY Hxs.out (all_getD fun i => by have := Hrng.out k (by omega) i; exact inR_iff.2 (by omega)) (by rw [csts_len]; omega) (by rw [csts_len]; omega)
        rwa [csts_len, ← hF] at this
      have Hcost := hid hcost
      have HF := hid hF
      clear hcost hF hk hX
      have d0 := x0.ext 0 rfl; have d1 := x0.ext 1 rfl; have d2 := x0.ext 2 rfl; have d3 := x0.ext 3 rfl
      go_wp2_with fail
      refine wp_region_ext_tail 8 (by kernel_rfl) (by kernel_rfl) ?_
      simp only [List.take_succ_cons, List.take_zero, List.drop_succ_cons, List.drop_zero]
      have hs0 : (0 : Int) ≤ (k : Int) + 1 := by omega
      have hs1 : (k : Int) + 1 ≤ (n : Int) + 1 := by omega
      have hs2 : ((k : Int) + 1).toNat = k + 1 := by omega
      repeat (quiet_step (first | (go_at_call 106; exact quiet_ext (Hcost.out _))))
      refine wpQuiet_nil ?_
      intro _ hw'
      obtain ⟨t, rfl⟩ := hw'
      replace y := y.below t.below
      have hbt := t.below.mono hb1.size
      replace hb1 := hb1.trans hbt
      generalize t.w = W4 at *
      clear d0 d1 d2 d3 Hcost hbt
      have f1 := y.free (k + 1)
      have z1 := y.cell (k + 1) (vrow_at (crow_in R N xs n k hlt))
      go_wp2
      go_roundw
      case rel => exact ⟨k + 1, by omega, by go_num, hb1.setCell (Nat.le_refl _) _, by have := y.set (k + 1) (.int .i64 F); have hF' := crow_next R N xs n k hlt; rw [← HF.out] at hF'; rwa [vrow_set, hF'] at this⟩
      case measure => simp [intOf]; omega
    · obtain rfl : k = n := by omega
      have z1 := y.cell k (vrow_at (crow_at R N xs k))
      have hltB : decide ((k : Int) + 1 ≤ (k : Int)) = false := by simp; omega
      go_wp2
      refine bodyPost_ret (v := .tuple #[.int .i64 (chp R N C k), .bool true]) ?_ rfl ⟨rfl, hb.trans (hb1.mono hb.size)⟩
      simp [results, Try.results83, go_sem, chp, ← HLe.out, Hxx.out]
end Go.Proofs.Ytmkmnedojgigoaa
namespace Go.Proofs.Ytmkmnedojgigoaa
open Go.RowKit

set_option maxRecDepth 100000 in
set_option maxHeartbeats 1000000 in
theorem Cheapest_bad (r : Int) (an ac : Option Addr) (cn cc : Nat) (N C : List Int) (m : Int) (w : World) (hN : Ints w an N) (hC : Ints w ac C) (hv : validB r N C = false) :
    Calls Try.prog 37 #[.agg #[.int .i64 r, .slice an N.length cn, .slice ac C.length cc], .int .i64 m] w fun e w' => e = .returned (.tuple #[.int .i64 0, .int .i64 10]) ∧ Below w.heap.size w w' := by
  obtain ⟨W, hW, hb, hs, x0⟩ := boxes1 w #[.int .i64 r, .slice an N.length cn, .slice ac C.length cc] 24
  clear hs
  replace hN := hN.below hb (Nat.le_refl _); replace hC := hC.below hb (Nat.le_refl _)
  have c0 := x0.cell 0 rfl; have c1 := x0.cell 1 rfl; have c2 := x0.cell 2 rfl
  go_enter Try.func37, Try.ntmps37
  go_wp2_with fail
  refine (valid_any _ _ _ _ _ _ _ _ hN hC).mono ?_
  rintro e W1 ⟨rfl, hb1⟩
  replace hb := hb.trans (hb1.mono hb.size)
  clear c0 c1 c2 hW
  go_wp2
  refine bodyPost_ret (v := .tuple #[.int .i64 0, .int .i64 10]) ?_ rfl ⟨rfl, hb⟩
  simp [results, Try.results37, go_sem]

set_option maxRecDepth 100000 in
set_option maxHeartbeats 1000000 in
theorem Cheapest_arg (R : Nat) (an ac : Option Addr) (cn cc : Nat) (N C : List Int) (m : Int) (w : World) (hN : Ints w an N) (hC : Ints w ac C) (hv : Vw R N C) (hm : inR 1 m 20 = false) :
    Calls Try.prog 37 #[.agg #[.int .i64 (R : Int), .slice an N.length cn, .slice ac C.length cc], .int .i64 m] w fun e w' => e = .returned (.tuple #[.int .i64 0, .int .i64 1]) ∧ Below w.heap.size w w' := by
  obtain ⟨W, hW, hb, hs, x0⟩ := boxes1 w #[.int .i64 (R : Int), .slice an N.length cn, .slice ac C.length cc] 24
  clear hs
  replace hN := hN.below hb (Nat.le_refl _); replace hC := hC.below hb (Nat.le_refl _)
  have c0 := x0.cell 0 rfl; have c1 := x0.cell 1 rfl; have c2 := x0.cell 2 rfl
  have hval := hv.valid
  go_enter Try.func37, Try.ntmps37
  go_wp2_with fail
  refine (valid_any _ _ _ _ _ _ _ _ hN hC).mono ?_
  rintro e W1 ⟨rfl, hb1⟩
  clear hW
  replace hb := hb.trans (hb1.mono hb.size)
  clear c0 c1 c2
  go_wp2_with (first | (go_at_call 82; refine (isFrom_any _ _ _ _).mono ?_; rintro e w' ⟨rfl, rfl⟩))
  refine bodyPost_ret (v := .tuple #[.int .i64 0, .int .i64 1]) ?_ rfl ⟨rfl, hb⟩
  simp [results, Try.results37, go_sem]

set_option maxRecDepth 100000 in
set_option maxHeartbeats 1000000 in
theorem Cheapest_none (R : Nat) (an ac : Option Addr) (cn cc : Nat) (N C : List Int) (n : Nat) (w : World) (hN : Ints w an N) (hC : Ints w ac C) (hv : Vw R N C) (hn1 : 1 ≤ n) (hn2 : n ≤ 20) (hz : N = [] ∨ C = []) :
    Calls Try.prog 37 #[.agg #[.int .i64 (R : Int), .slice an N.length cn, .slice ac C.length cc], .int .i64 n] w fun e w' => e = .returned (.tuple #[.int .i64 0, .int .i64 3]) ∧ Below w.heap.size w w' := by
  have hm : inR 1 (n : Int) 20 = true := inR_iff.2 (by omega)
  have Hz := hid hz; clear hz
  obtain ⟨W, hW, hb, hs, x0⟩ := boxes1 w #[.int .i64 (R : Int), .slice an N.length cn, .slice ac C.length cc] 24
  clear hs
  replace hN := hN.below hb (Nat.le_refl _); replace hC := hC.below hb (Nat.le_refl _)
  have c0 := x0.cell 0 rfl; have c1 := x0.cell 1 rfl; have c2 := x0.cell 2 rfl
  have hval := hv.valid
  go_enter Try.func37, Try.ntmps37
  go_wp2_with fail
  refine (valid_any _ _ _ _ _ _ _ _ hN hC).mono ?_
  rintro e W1 ⟨rfl, hb1⟩
  clear hW
  replace hN := hN.below hb1 (Nat.le_refl _); replace hC := hC.below hb1 (Nat.le_refl _); (try clear c0 c1 c2); replace x0 := x0.below hb1; have c0 := x0.cell 0 rfl; have c1 := x0.cell 1 rfl; have c2 := x0.cell 2 rfl; replace hb := hb.trans (hb1.mono hb.size); clear hb1
  go_wp2_with (first | (go_at_call 82; refine (isFrom_any _ _ _ _).mono ?_; rintro e w' ⟨rfl, rfl⟩))
  refine (newWheel_any _ _ _ _ _ _ _ _ hN hC hv).mono ?_
  rintro e W2 ⟨ap, cp, P, rfl, hk, hb1, hap⟩
  replace hb := hb.trans (hb1.mono hb.size)
  clear hN hC x0 c0 c1 c2 hval hb1
  go_wp2_with fail
  refine (cheapest_none _ _ _ _ _ _ _ _ _ _ n _ Hz.out).mono ?_
  rintro e W3 ⟨rfl, hb1⟩
  replace hb := hb.trans (hb1.mono hb.size)
  clear hk hb1
  go_wp2
  refine bodyPost_ret (v := .tuple #[.int .i64 0, .int .i64 3]) ?_ rfl ⟨rfl, hb⟩
  simp [results, Try.results37, go_sem]

set_option maxRecDepth 100000 in
set_option maxHeartbeats 1000000 in
theorem Cheapest_ok (R : Nat) (an ac : Option Addr) (cn cc : Nat) (N C : List Int) (n : Nat) (w : World) (hN : Ints w an N) (hC : Ints w ac C) (hv : Vw R N C) (hn1 : 1 ≤ n) (hn2 : n ≤ 20) (hN0 : N ≠ []) (hC0 : C ≠ []) :
    Calls Try.prog 37 #[.agg #[.int .i64 (R : Int), .slice an N.length cn, .slice ac C.length cc], .int .i64 n] w fun e w' => e = .returned (.tuple #[.int .i64 (chp R N C n), .int .i64 0]) ∧ Below w.heap.size w w' := by
  have hm : inR 1 (n : Int) 20 = true := inR_iff.2 (by omega)
  have Hz := hid (And.intro hN0 hC0); clear hN0 hC0
  obtain ⟨W, hW, hb, hs, x0⟩ := boxes1 w #[.int .i64 (R : Int), .slice an N.length cn, .slice ac C.length cc] 24
  clear hs
  replace hN := hN.below hb (Nat.le_refl _); replace hC := hC.below hb (Nat.le_refl _)
  have c0 := x0.cell 0 rfl; have c1 := x0.cell 1 rfl; have c2 := x0.cell 2 rfl
  have hval := hv.valid
  go_enter Try.func37, Try.ntmps37
  go_wp2_with fail
  refine (valid_any _ _ _ _ _ _ _ _ hN hC).mono ?_
  rintro e W1 ⟨rfl, hb1⟩
  clear hW
  replace hN := hN.below hb1 (Nat.le_refl _); replace hC := hC.below hb1 (Nat.le_refl _); (try clear c0 c1 c2); replace x0 := x0.below hb1; have c0 := x0.cell 0 rfl; have c1 := x0.cell 1 rfl; have c2 := x0.cell 2 rfl; replace hb := hb.trans (hb1.mono hb.size); clear hb1
  go_wp2_with (first | (go_at_call 82; refine (isFrom_any _ _ _ _).mono ?_; rintro e w' ⟨rfl, rfl⟩))
  refine (newWheel_any _ _ _ _ _ _ _ _ hN hC hv).mono ?_
  rintro e W2 ⟨ap, cp, P, rfl, hk, hb1, hap⟩
  replace hb := hb.trans (hb1.mono hb.size)
  clear hN hC x0 c0 c1 c2 hval hb1
  go_wp2_with fail
  refine (cheapest_any _ _ _ _ _ _ _ _ _ _ n _ hk Hz.out.1 Hz.out.2 hn1 hn2).mono ?_
  rintro e W3 ⟨rfl, hb1⟩
  replace hb := hb.trans (hb1.mono hb.size)
  clear hk hb1
  go_wp2
  refine bodyPost_ret (v := .tuple #[.int .i64 (chp R N C n), .int .i64 0]) ?_ rfl ⟨rfl, hb⟩
  simp [results, Try.results37, go_sem]
end Go.Proofs.Ytmkmnedojgigoaa
