import Derived.Test.YtmkmnedojgigoaaD3
import Derived.Test.YtmkmnedojgigoaaA9
namespace Go.Proofs.Ytmkmnedojgigoaa
open Go.RowKit

set_option maxRecDepth 100000 in
set_option maxHeartbeats 1000000 in
theorem Cheapest_bad (r : Int) (an ac : Option Addr) (cn cc : Nat) (N C : List Int) (m : Int) (w : World) (hN : Ints w an N) (hC : Ints w ac C) (hv : validB r N C = false) :
    Calls Try.prog 37 #[.agg #[.int .i64 r, .slice an N.length cn, .slice ac C.length cc], .int .i64 m] w fun e w' => e = .returned (.tuple #[.int .i64 0, .int .i64 10]) ∧ Below w.heap.size w w' := by
  obtain ⟨W, hW, hb, hs, x0⟩ := boxes1 w #[.int .i64 r, .slice an N.length cn, .slice ac C.length cc] 24
  clear hs
  replace hN := hN.below hb (Nat.le_refl _); replace hC := hC.below hb (Nat.le_refl _)
  have c0 := x0.cell 0 rfl; have c1 := x0.cell 1 rfl; have c2 := x0.cell 2 rfl
  go_enter Try.func37, Try.ntmps37
  go_wp2_with fail
  refine (valid_any _ _ _ _ _ _ _ _ hN hC).mono ?_
  rintro e W1 ⟨rfl, hb1⟩
  replace hb := hb.trans (hb1.mono hb.size)
  clear c0 c1 c2 hW
  go_wp2
  refine bodyPost_ret (v := .tuple #[.int .i64 0, .int .i64 10]) ?_ rfl ⟨rfl, hb⟩
  simp [results, Try.results37, go_sem]

set_option maxRecDepth 100000 in
set_option maxHeartbeats 1000000 in
theorem Cheapest_arg (R : Nat) (an ac : Option Addr) (cn cc : Nat) (N C : List Int) (m : Int) (w : World) (hN : Ints w an N) (hC : Ints w ac C) (hv : Vw R N C) (hm : inR 1 m 20 = false) :
    Calls Try.prog 37 #[.agg #[.int .i64 (R : Int), .slice an N.length cn, .slice ac C.length cc], .int .i64 m] w fun e w' => e = .returned (.tuple #[.int .i64 0, .int .i64 1]) ∧ Below w.heap.size w w' := by
  obtain ⟨W, hW, hb, hs, x0⟩ := boxes1 w #[.int .i64 (R : Int), .slice an N.length cn, .slice ac C.length cc] 24
  clear hs
  replace hN := hN.below hb (Nat.le_refl _); replace hC := hC.below hb (Nat.le_refl _)
  have c0 := x0.cell 0 rfl; have c1 := x0.cell 1 rfl; have c2 := x0.cell 2 rfl
  have hval := hv.valid
  go_enter Try.func37, Try.ntmps37
  go_wp2_with fail
  refine (valid_any _ _ _ _ _ _ _ _ hN hC).mono ?_
  rintro e W1 ⟨rfl, hb1⟩
  clear hW
  replace hb := hb.trans (hb1.mono hb.size)
  clear c0 c1 c2
  go_wp2_with (first | (go_at_call 82; refine (isFrom_any _ _ _ _).mono ?_; rintro e w' ⟨rfl, rfl⟩))
  refine bodyPost_ret (v := .tuple #[.int .i64 0, .int .i64 1]) ?_ rfl ⟨rfl, hb⟩
  simp [results, Try.results37, go_sem]

set_option maxRecDepth 100000 in
set_option maxHeartbeats 1000000 in
theorem Cheapest_none (R : Nat) (an ac : Option Addr) (cn cc : Nat) (N C : List Int) (n : Nat) (w : World) (hN : Ints w an N) (hC : Ints w ac C) (hv : Vw R N C) (hn1 : 1 ≤ n) (hn2 : n ≤ 20) (hz : N = [] ∨ C = []) :
    Calls Try.prog 37 #[.agg #[.int .i64 (R : Int), .slice an N.length cn, .slice ac C.length cc], .int .i64 n] w fun e w' => e = .returned (.tuple #[.int .i64 0, .int .i64 3]) ∧ Below w.heap.size w w' := by
  have hm : inR 1 (n : Int) 20 = true := inR_iff.2 (by omega)
  have Hz := hid hz; clear hz
  obtain ⟨W, hW, hb, hs, x0⟩ := boxes1 w #[.int .i64 (R : Int), .slice an N.length cn, .slice ac C.length cc] 24
  clear hs
  replace hN := hN.below hb (Nat.le_refl _); replace hC := hC.below hb (Nat.le_refl _)
  have c0 := x0.cell 0 rfl; have c1 := x0.cell 1 rfl; have c2 := x0.cell 2 rfl
  have hval := hv.valid
  go_enter Try.func37, Try.ntmps37
  go_wp2_with fail
  refine (valid_any _ _ _ _ _ _ _ _ hN hC).mono ?_
  rintro e W1 ⟨rfl, hb1⟩
  clear hW
  replace hN := hN.below hb1 (Nat.le_refl _); replace hC := hC.below hb1 (Nat.le_refl _); (try clear c0 c1 c2); replace x0 := x0.below hb1; have c0 := x0.cell 0 rfl; have c1 := x0.cell 1 rfl; have c2 := x0.cell 2 rfl; replace hb := hb.trans (hb1.mono hb.size); clear hb1
  go_wp2_with (first | (go_at_call 82; refine (isFrom_any _ _ _ _).mono ?_; rintro e w' ⟨rfl, rfl⟩))
  refine (newWheel_any _ _ _ _ _ _ _ _ hN hC hv).mono ?_
  rintro e W2 ⟨ap, cp, P, rfl, hk, hb1, hap⟩
  replace hb := hb.trans (hb1.mono hb.size)
  clear hN hC x0 c0 c1 c2 hval hb1
  go_wp2_with fail
  refine (cheapest_none _ _ _ _ _ _ _ _ _ _ n _ Hz.out).mono ?_
  rintro e W3 ⟨rfl, hb1⟩
  replace hb := hb.trans (hb1.mono hb.size)
  clear hk hb1
  go_wp2
  refine bodyPost_ret (v := .tuple #[.int .i64 0, .int .i64 3]) ?_ rfl ⟨rfl, hb⟩
  simp [results, Try.results37, go_sem]

set_option maxRecDepth 100000 in
set_option maxHeartbeats 1000000 in
theorem Cheapest_ok (R : Nat) (an ac : Option Addr) (cn cc : Nat) (N C : List Int) (n : Nat) (w : World) (hN : Ints w an N) (hC : Ints w ac C) (hv : Vw R N C) (hn1 : 1 ≤ n) (hn2 : n ≤ 20) (hN0 : N ≠ []) (hC0 : C ≠ []) :
    Calls Try.prog 37 #[.agg #[.int .i64 (R : Int), .slice an N.length cn, .slice ac C.length cc], .int .i64 n] w fun e w' => e = .returned (.tuple #[.int .i64 (chp R N C n), .int .i64 0]) ∧ Below w.heap.size w w' := by
  have hm : inR 1 (n : Int) 20 = true := inR_iff.2 (by omega)
  have Hz := hid (And.intro hN0 hC0); clear hN0 hC0
  obtain ⟨W, hW, hb, hs, x0⟩ := boxes1 w #[.int .i64 (R : Int), .slice an N.length cn, .slice ac C.length cc] 24
  clear hs
  replace hN := hN.below hb (Nat.le_refl _); replace hC := hC.below hb (Nat.le_refl _)
  have c0 := x0.cell 0 rfl; have c1 := x0.cell 1 rfl; have c2 := x0.cell 2 rfl
  have hval := hv.valid
  go_enter Try.func37, Try.ntmps37
  go_wp2_with fail
  refine (valid_any _ _ _ _ _ _ _ _ hN hC).mono ?_
  rintro e W1 ⟨rfl, hb1⟩
  clear hW
  replace hN := hN.below hb1 (Nat.le_refl _); replace hC := hC.below hb1 (Nat.le_refl _); (try clear c0 c1 c2); replace x0 := x0.below hb1; have c0 := x0.cell 0 rfl; have c1 := x0.cell 1 rfl; have c2 := x0.cell 2 rfl; replace hb := hb.trans (hb1.mono hb.size); clear hb1
  go_wp2_with (first | (go_at_call 82; refine (isFrom_any _ _ _ _).mono ?_; rintro e w' ⟨rfl, rfl⟩))
  refine (newWheel_any _ _ _ _ _ _ _ _ hN hC hv).mono ?_
  rintro e W2 ⟨ap, cp, P, rfl, hk, hb1, hap⟩
  replace hb := hb.trans (hb1.mono hb.size)
  clear hN hC x0 c0 c1 c2 hval hb1
  go_wp2_with fail
  refine (cheapest_any _ _ _ _ _ _ _ _ _ _ n _ hk Hz.out.1 Hz.out.2 hn1 hn2).mono ?_
  rintro e W3 ⟨rfl, hb1⟩
  replace hb := hb.trans (hb1.mono hb.size)
  clear hk hb1
  go_wp2
  refine bodyPost_ret (v := .tuple #[.int .i64 (chp R N C n), .int .i64 0]) ?_ rfl ⟨rfl, hb⟩
  simp [results, Try.results37, go_sem]
end Go.Proofs.Ytmkmnedojgigoaa
