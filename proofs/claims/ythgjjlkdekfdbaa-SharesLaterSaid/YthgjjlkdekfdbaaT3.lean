import Derived.Test.YthgjjlkdekfdbaaT1
/-! What the kinds of clauses ask for. -/
namespace Go.Proofs.Ythgjjlkdekfdbaa
set_option linter.unusedSimpArgs false
set_option linter.unusedVariables false
open Go Go.RowKit

set_option maxRecDepth 100000 in
set_option maxHeartbeats 1000000 in
theorem inCoins_any (h r : Int) (h0 : 0 ≤ h) (h1 : h ≤ 1000000000000) (hr : r = h / 500 * 5) (w : World) : Calls Try.prog 81 #[.int .i64 h] w fun e w' => e = .returned (.int .i64 r) ∧ w = w' := by
  have e0 : h.tdiv 500 = h / 500 := Int.tdiv_eq_ediv_of_nonneg h0
  obtain ⟨q, hq⟩ : ∃ q, q = h / 500 := ⟨_, rfl⟩
  have hq1 : 0 ≤ q ∧ q ≤ 1000000000000 := by omega
  rw [← hq] at e0 hr
  have e1 : IntKind.i64.wrap q = q := IntWalk.i64_in _ (by omega)
  have e2 : IntKind.i64.wrap (q * 5) = q * 5 := IntWalk.i64_in _ (by omega)
  clear hq
  subst hr
  go_enter Try.func81, Try.ntmps81
  go_wp2
  go_ret
  exact ⟨rfl, rfl⟩

/-- What is so of the numbers of a week. -/
structure Wb (w : Wk) : Prop where
  op : 0 ≤ w.op ∧ w.op ≤ 1000000
  ow : 0 ≤ w.ow ∧ w.ow ≤ 1000000
  rp : 0 ≤ w.rp ∧ w.rp ≤ 1000000
  rest : 0 ≤ w.rest ∧ w.rest ≤ 1000000
  owed : 0 ≤ w.owed ∧ w.owed ≤ 1000000
theorem Inv.wb {T L : Int} {w : Wk} (h : Inv T L w) (hT : T ≤ 1000000) (hL : L ≤ 1000000) : Wb w := by
  obtain ⟨h1, h2, h3, h4, h5, h6, h7, h8⟩ := h
  constructor <;> omega

set_option maxRecDepth 100000 in
set_option maxHeartbeats 1000000 in
theorem front_any (u : Wk) (x : Cl) (w : World) : Calls Try.prog 74 #[.agg #[.int .i64 u.op, .int .i64 u.ow, .int .i64 u.rp, .int .i64 u.rest, .int .i64 u.owed], .agg #[.int .i64 x.k, .int .i64 x.c, .int .i64 x.p, .int .i64 x.m]] w fun e w' => e = .returned (.int .i64 x.c) ∧ Below w.heap.size w w' := by
  obtain ⟨W, hW, hb, _, x0, x1⟩ := boxes2 w #[.int .i64 u.op, .int .i64 u.ow, .int .i64 u.rp, .int .i64 u.rest, .int .i64 u.owed] 70 #[.int .i64 x.k, .int .i64 x.c, .int .i64 x.p, .int .i64 x.m] 56
  have c0 := x0.cell 0 rfl; have c1 := x0.cell 1 rfl; have c2 := x0.cell 2 rfl; have c3 := x0.cell 3 rfl; have c4 := x0.cell 4 rfl; have d0 := x1.cell 0 rfl; have d1 := x1.cell 1 rfl; have d2 := x1.cell 2 rfl; have d3 := x1.cell 3 rfl
  go_enter Try.func74, Try.ntmps74
  go_wp2
  go_ret
  exact ⟨rfl, hb⟩
set_option maxRecDepth 100000 in
set_option maxHeartbeats 1000000 in
theorem repay_any (u : Wk) (x : Cl) (w : World) : Calls Try.prog 75 #[.agg #[.int .i64 u.op, .int .i64 u.ow, .int .i64 u.rp, .int .i64 u.rest, .int .i64 u.owed], .agg #[.int .i64 x.k, .int .i64 x.c, .int .i64 x.p, .int .i64 x.m]] w fun e w' => e = .returned (.int .i64 (min x.c u.owed)) ∧ Below w.heap.size w w' := by
  obtain ⟨W, hW, hb, _, x0, x1⟩ := boxes2 w #[.int .i64 u.op, .int .i64 u.ow, .int .i64 u.rp, .int .i64 u.rest, .int .i64 u.owed] 70 #[.int .i64 x.k, .int .i64 x.c, .int .i64 x.p, .int .i64 x.m] 56
  have c0 := x0.cell 0 rfl; have c1 := x0.cell 1 rfl; have c2 := x0.cell 2 rfl; have c3 := x0.cell 3 rfl; have c4 := x0.cell 4 rfl; have d0 := x1.cell 0 rfl; have d1 := x1.cell 1 rfl; have d2 := x1.cell 2 rfl; have d3 := x1.cell 3 rfl
  by_cases h : x.c ≤ u.owed
  · go_enter Try.func75, Try.ntmps75
    go_wp2
    go_ret
    exact ⟨ret_int (by omega), hb⟩
  · have h' : u.owed < x.c := by omega
    go_enter Try.func75, Try.ntmps75
    go_wp2
    go_ret
    exact ⟨ret_int (by omega), hb⟩
set_option maxRecDepth 100000 in
set_option maxHeartbeats 1000000 in
theorem percent_any (u : Wk) (x : Cl) (hu : Wb u) (hx : x.ok) (w : World) : Calls Try.prog 76 #[.agg #[.int .i64 u.op, .int .i64 u.ow, .int .i64 u.rp, .int .i64 u.rest, .int .i64 u.owed], .agg #[.int .i64 x.k, .int .i64 x.c, .int .i64 x.p, .int .i64 x.m]] w fun e w' => e = .returned (.int .i64 (u.rest * x.p / 500 * 5)) ∧ Below w.heap.size w w' := by
  obtain ⟨W, hW, hb, _, x0, x1⟩ := boxes2 w #[.int .i64 u.op, .int .i64 u.ow, .int .i64 u.rp, .int .i64 u.rest, .int .i64 u.owed] 70 #[.int .i64 x.k, .int .i64 x.c, .int .i64 x.p, .int .i64 x.m] 56
  have c0 := x0.cell 0 rfl; have c1 := x0.cell 1 rfl; have c2 := x0.cell 2 rfl; have c3 := x0.cell 3 rfl; have c4 := x0.cell 4 rfl; have d0 := x1.cell 0 rfl; have d1 := x1.cell 1 rfl; have d2 := x1.cell 2 rfl; have d3 := x1.cell 3 rfl
  have hp := part_le hu.rest.1 hx.2.2.1
  have hr := hu.rest
  have e1 : IntKind.i64.wrap (u.rest * x.p) = u.rest * x.p := IntWalk.i64_in _ (by omega)
  obtain ⟨r, hr⟩ : ∃ r, r = u.rest * x.p / 500 * 5 := ⟨_, rfl⟩
  have hi := inCoins_any (u.rest * x.p) r hp.1 (by omega) hr W
  rw [← hr]
  clear hu hx hp hr
  go_enter Try.func76, Try.ntmps76
  go_wp2_with fail
  refine hi.mono ?_
  rintro e W1 ⟨rfl, rfl⟩
  go_wp2
  go_ret
  exact ⟨rfl, hb⟩
set_option maxRecDepth 100000 in
set_option maxHeartbeats 1000000 in
theorem steps_any (u : Wk) (x : Cl) (hu : Wb u) (hx : x.ok) (w : World) : Calls Try.prog 77 #[.agg #[.int .i64 u.op, .int .i64 u.ow, .int .i64 u.rp, .int .i64 u.rest, .int .i64 u.owed], .agg #[.int .i64 x.k, .int .i64 x.c, .int .i64 x.p, .int .i64 x.m]] w fun e w' => e = .returned (.int .i64 ((min u.rest x.c * x.p + (u.rest - min u.rest x.c) * x.m) / 500 * 5)) ∧ Below w.heap.size w w' := by
  obtain ⟨W, hW, hb, _, x0, x1⟩ := boxes2 w #[.int .i64 u.op, .int .i64 u.ow, .int .i64 u.rp, .int .i64 u.rest, .int .i64 u.owed] 70 #[.int .i64 x.k, .int .i64 x.c, .int .i64 x.p, .int .i64 x.m] 56
  have c0 := x0.cell 0 rfl; have c1 := x0.cell 1 rfl; have c2 := x0.cell 2 rfl; have c3 := x0.cell 3 rfl; have c4 := x0.cell 4 rfl; have d0 := x1.cell 0 rfl; have d1 := x1.cell 1 rfl; have d2 := x1.cell 2 rfl; have d3 := x1.cell 3 rfl
  have hc := hx.2.1
  have hrr := hu.rest
  obtain ⟨a, ha⟩ : ∃ a, a = min u.rest x.c := ⟨_, rfl⟩
  rw [← ha]
  have ha1 : 0 ≤ a ∧ a ≤ 9999 := by omega
  have hb1 : 0 ≤ u.rest - a ∧ u.rest - a ≤ 1000000 := by omega
  have hp := part_le ha1.1 hx.2.2.1
  have hm := part_le hb1.1 hx.2.2.2
  have e0 : IntKind.i64.wrap (u.rest - a) = u.rest - a := IntWalk.i64_in _ (by omega)
  have e1 : IntKind.i64.wrap (a * x.p) = a * x.p := IntWalk.i64_in _ (by omega)
  have e2 : IntKind.i64.wrap ((u.rest - a) * x.m) = (u.rest - a) * x.m := IntWalk.i64_in _ (by omega)
  have e3 : IntKind.i64.wrap (a * x.p + (u.rest - a) * x.m) = a * x.p + (u.rest - a) * x.m := IntWalk.i64_in _ (by omega)
  obtain ⟨r, hr⟩ : ∃ r, r = (a * x.p + (u.rest - a) * x.m) / 500 * 5 := ⟨_, rfl⟩
  have hi := inCoins_any (a * x.p + (u.rest - a) * x.m) r (by omega) (by omega) hr W
  rw [← hr]
  clear hu hx hp hm hr hc hrr ha1 hb1
  by_cases h : u.rest ≤ x.c
  · obtain rfl : a = u.rest := by omega
    clear ha
    rw [Int.sub_self, Int.zero_mul, Int.add_zero] at hi
    go_enter Try.func77, Try.ntmps77
    go_wp2_with fail
    refine hi.mono ?_
    rintro e W1 ⟨rfl, rfl⟩
    go_wp2
    go_ret
    exact ⟨rfl, hb⟩
  · have h' : x.c < u.rest := by omega
    obtain rfl : a = x.c := by omega
    clear ha
    go_enter Try.func77, Try.ntmps77
    go_wp2_with fail
    refine hi.mono ?_
    rintro e W1 ⟨rfl, rfl⟩
    go_wp2
    go_ret
    exact ⟨rfl, hb⟩
set_option maxRecDepth 100000 in
set_option maxHeartbeats 1000000 in
theorem minimum_any (u : Wk) (x : Cl) (hu : Wb u) (hx : x.ok) (w : World) : Calls Try.prog 78 #[.agg #[.int .i64 u.op, .int .i64 u.ow, .int .i64 u.rp, .int .i64 u.rest, .int .i64 u.owed], .agg #[.int .i64 x.k, .int .i64 x.c, .int .i64 x.p, .int .i64 x.m]] w fun e w' => e = .returned (.int .i64 (max 0 (x.c - u.ow))) ∧ Below w.heap.size w w' := by
  obtain ⟨W, hW, hb, _, x0, x1⟩ := boxes2 w #[.int .i64 u.op, .int .i64 u.ow, .int .i64 u.rp, .int .i64 u.rest, .int .i64 u.owed] 70 #[.int .i64 x.k, .int .i64 x.c, .int .i64 x.p, .int .i64 x.m] 56
  have c0 := x0.cell 0 rfl; have c1 := x0.cell 1 rfl; have c2 := x0.cell 2 rfl; have c3 := x0.cell 3 rfl; have c4 := x0.cell 4 rfl; have d0 := x1.cell 0 rfl; have d1 := x1.cell 1 rfl; have d2 := x1.cell 2 rfl; have d3 := x1.cell 3 rfl
  have hc := hx.2.1
  have hrr := hu.ow
  have e0 : IntKind.i64.wrap (x.c - u.ow) = x.c - u.ow := IntWalk.i64_in _ (by omega)
  clear hu hx
  by_cases h : u.ow < x.c
  · have h2 : 0 < x.c - u.ow := by omega
    go_enter Try.func78, Try.ntmps78
    go_wp2
    go_ret
    exact ⟨ret_int (by omega), hb⟩
  · have h' : x.c ≤ u.ow := by omega
    have h2 : x.c - u.ow ≤ 0 := by omega
    go_enter Try.func78, Try.ntmps78
    go_wp2
    go_ret
    exact ⟨ret_int (by omega), hb⟩
end Go.Proofs.Ythgjjlkdekfdbaa
