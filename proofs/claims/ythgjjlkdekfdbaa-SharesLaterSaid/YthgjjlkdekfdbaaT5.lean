import Derived.Test.YthgjjlkdekfdbaaT4
/-! What a clause gives. -/
namespace Go.Proofs.Ythgjjlkdekfdbaa
set_option linter.unusedSimpArgs false
set_option linter.unusedVariables false
open Go Go.RowKit


set_option maxRecDepth 100000 in
set_option maxHeartbeats 2000000 in
theorem gives_1 (u : Wk) (c p m : Int) (hu : Wb u) (hx : Cl.ok ⟨1, c, p, m⟩) (w : World) (a : Int) (ha : a = asks ⟨1, c, p, m⟩ u) (n : Int) (hn : n = min u.rest a) : Calls Try.prog 60 #[.agg #[.int .i64 u.op, .int .i64 u.ow, .int .i64 u.rp, .int .i64 u.rest, .int .i64 u.owed], .agg #[.int .i64 1, .int .i64 c, .int .i64 p, .int .i64 m]] w fun e w' => e = .returned (.int .i64 n) ∧ Below w.heap.size w w' := by
  obtain ⟨W, hW, hb, _, x0, x1⟩ := boxes2 w #[.int .i64 u.op, .int .i64 u.ow, .int .i64 u.rp, .int .i64 u.rest, .int .i64 u.owed] 70 #[.int .i64 1, .int .i64 c, .int .i64 p, .int .i64 m] 56
  have hk := fun (t : Ext W) => front_any u ⟨1, c, p, m⟩  t.w
  have hr := fun (t : Ext W) => rules_any t.w
  have e : asks ⟨1, c, p, m⟩ u = a := ha.symm
  simp only [asks, if_true, if_false, show ¬ ((2 : Int) = 1) from by decide, show ¬ ((3 : Int) = 1) from by decide, show ¬ ((3 : Int) = 2) from by decide, show ¬ ((4 : Int) = 1) from by decide, show ¬ ((4 : Int) = 2) from by decide, show ¬ ((4 : Int) = 3) from by decide, show ¬ ((5 : Int) = 1) from by decide, show ¬ ((5 : Int) = 2) from by decide, show ¬ ((5 : Int) = 3) from by decide, show ¬ ((5 : Int) = 4) from by decide] at e
  replace hk := fun (t : Ext W) => (hk t).mono (fun e' w' h => And.intro (h.1.trans (ret_int e)) h.2)
  unfold rulesA at hr
  have hix := rules_at1
  have hf0 := fun W => (rule_f 74 (partyOf 1) W).1
  simp only [partyOf, if_true, if_false, show ¬ ((2 : Int) = 1) from by decide, show ¬ ((3 : Int) = 1) from by decide, show ¬ ((3 : Int) = 2) from by decide, show ¬ ((4 : Int) = 1) from by decide, show ¬ ((4 : Int) = 2) from by decide, show ¬ ((5 : Int) = 1) from by decide, show ¬ ((5 : Int) = 2) from by decide] at hf0
  have c0 := x0.ext 0 rfl; have c1 := x0.ext 1 rfl; have c2 := x0.ext 2 rfl; have c3 := x0.ext 3 rfl; have c4 := x0.ext 4 rfl
  have d0 := x1.ext 0 rfl; have d1 := x1.ext 1 rfl; have d2 := x1.ext 2 rfl; have d3 := x1.ext 3 rfl
  clear ha e hu hx x0 x1
  rcases Int.lt_or_le a u.rest with hh | hh
  · obtain rfl : n = a := by omega
    clear hn
    go_enter Try.func60, Try.ntmps60
    go_upto_region 1 with fail
    refine wp_region_ext_lit (by kernel_rfl) (by kernel_rfl) ?_
    repeat (quiet_step (first | (go_at_call 70; exact quiet_ext (hr _)) | (go_at_call 74; exact quiet_ext (hk _))))
    refine wpQuiet_nil ?_
    intro _ hw'
    obtain ⟨t, rfl⟩ := hw'
    go_wp2
    go_ret
    exact ⟨rfl, hb.trans (t.below.mono hb.size)⟩
  · obtain rfl : n = u.rest := by omega
    clear hn
    go_enter Try.func60, Try.ntmps60
    go_upto_region 1 with fail
    refine wp_region_ext_lit (by kernel_rfl) (by kernel_rfl) ?_
    repeat (quiet_step (first | (go_at_call 70; exact quiet_ext (hr _)) | (go_at_call 74; exact quiet_ext (hk _))))
    refine wpQuiet_nil ?_
    intro _ hw'
    obtain ⟨t, rfl⟩ := hw'
    go_wp2
    go_ret
    exact ⟨rfl, hb.trans (t.below.mono hb.size)⟩

set_option maxRecDepth 100000 in
set_option maxHeartbeats 2000000 in
theorem gives_2 (u : Wk) (c p m : Int) (hu : Wb u) (hx : Cl.ok ⟨2, c, p, m⟩) (w : World) (a : Int) (ha : a = asks ⟨2, c, p, m⟩ u) (n : Int) (hn : n = min u.rest a) : Calls Try.prog 60 #[.agg #[.int .i64 u.op, .int .i64 u.ow, .int .i64 u.rp, .int .i64 u.rest, .int .i64 u.owed], .agg #[.int .i64 2, .int .i64 c, .int .i64 p, .int .i64 m]] w fun e w' => e = .returned (.int .i64 n) ∧ Below w.heap.size w w' := by
  obtain ⟨W, hW, hb, _, x0, x1⟩ := boxes2 w #[.int .i64 u.op, .int .i64 u.ow, .int .i64 u.rp, .int .i64 u.rest, .int .i64 u.owed] 70 #[.int .i64 2, .int .i64 c, .int .i64 p, .int .i64 m] 56
  have hk := fun (t : Ext W) => repay_any u ⟨2, c, p, m⟩  t.w
  have hr := fun (t : Ext W) => rules_any t.w
  have e : asks ⟨2, c, p, m⟩ u = a := ha.symm
  simp only [asks, if_true, if_false, show ¬ ((2 : Int) = 1) from by decide, show ¬ ((3 : Int) = 1) from by decide, show ¬ ((3 : Int) = 2) from by decide, show ¬ ((4 : Int) = 1) from by decide, show ¬ ((4 : Int) = 2) from by decide, show ¬ ((4 : Int) = 3) from by decide, show ¬ ((5 : Int) = 1) from by decide, show ¬ ((5 : Int) = 2) from by decide, show ¬ ((5 : Int) = 3) from by decide, show ¬ ((5 : Int) = 4) from by decide] at e
  replace hk := fun (t : Ext W) => (hk t).mono (fun e' w' h => And.intro (h.1.trans (ret_int e)) h.2)
  unfold rulesA at hr
  have hix := rules_at2
  have hf0 := fun W => (rule_f 75 (partyOf 2) W).1
  simp only [partyOf, if_true, if_false, show ¬ ((2 : Int) = 1) from by decide, show ¬ ((3 : Int) = 1) from by decide, show ¬ ((3 : Int) = 2) from by decide, show ¬ ((4 : Int) = 1) from by decide, show ¬ ((4 : Int) = 2) from by decide, show ¬ ((5 : Int) = 1) from by decide, show ¬ ((5 : Int) = 2) from by decide] at hf0
  have c0 := x0.ext 0 rfl; have c1 := x0.ext 1 rfl; have c2 := x0.ext 2 rfl; have c3 := x0.ext 3 rfl; have c4 := x0.ext 4 rfl
  have d0 := x1.ext 0 rfl; have d1 := x1.ext 1 rfl; have d2 := x1.ext 2 rfl; have d3 := x1.ext 3 rfl
  clear ha e hu hx x0 x1
  rcases Int.lt_or_le a u.rest with hh | hh
  · obtain rfl : n = a := by omega
    clear hn
    go_enter Try.func60, Try.ntmps60
    go_upto_region 1 with fail
    refine wp_region_ext_lit (by kernel_rfl) (by kernel_rfl) ?_
    repeat (quiet_step (first | (go_at_call 70; exact quiet_ext (hr _)) | (go_at_call 75; exact quiet_ext (hk _))))
    refine wpQuiet_nil ?_
    intro _ hw'
    obtain ⟨t, rfl⟩ := hw'
    go_wp2
    go_ret
    exact ⟨rfl, hb.trans (t.below.mono hb.size)⟩
  · obtain rfl : n = u.rest := by omega
    clear hn
    go_enter Try.func60, Try.ntmps60
    go_upto_region 1 with fail
    refine wp_region_ext_lit (by kernel_rfl) (by kernel_rfl) ?_
    repeat (quiet_step (first | (go_at_call 70; exact quiet_ext (hr _)) | (go_at_call 75; exact quiet_ext (hk _))))
    refine wpQuiet_nil ?_
    intro _ hw'
    obtain ⟨t, rfl⟩ := hw'
    go_wp2
    go_ret
    exact ⟨rfl, hb.trans (t.below.mono hb.size)⟩

set_option maxRecDepth 100000 in
set_option maxHeartbeats 2000000 in
theorem gives_3 (u : Wk) (c p m : Int) (hu : Wb u) (hx : Cl.ok ⟨3, c, p, m⟩) (w : World) (a : Int) (ha : a = asks ⟨3, c, p, m⟩ u) (n : Int) (hn : n = min u.rest a) : Calls Try.prog 60 #[.agg #[.int .i64 u.op, .int .i64 u.ow, .int .i64 u.rp, .int .i64 u.rest, .int .i64 u.owed], .agg #[.int .i64 3, .int .i64 c, .int .i64 p, .int .i64 m]] w fun e w' => e = .returned (.int .i64 n) ∧ Below w.heap.size w w' := by
  obtain ⟨W, hW, hb, _, x0, x1⟩ := boxes2 w #[.int .i64 u.op, .int .i64 u.ow, .int .i64 u.rp, .int .i64 u.rest, .int .i64 u.owed] 70 #[.int .i64 3, .int .i64 c, .int .i64 p, .int .i64 m] 56
  have hk := fun (t : Ext W) => percent_any u ⟨3, c, p, m⟩ hu hx t.w
  have hr := fun (t : Ext W) => rules_any t.w
  have e : asks ⟨3, c, p, m⟩ u = a := ha.symm
  simp only [asks, if_true, if_false, show ¬ ((2 : Int) = 1) from by decide, show ¬ ((3 : Int) = 1) from by decide, show ¬ ((3 : Int) = 2) from by decide, show ¬ ((4 : Int) = 1) from by decide, show ¬ ((4 : Int) = 2) from by decide, show ¬ ((4 : Int) = 3) from by decide, show ¬ ((5 : Int) = 1) from by decide, show ¬ ((5 : Int) = 2) from by decide, show ¬ ((5 : Int) = 3) from by decide, show ¬ ((5 : Int) = 4) from by decide] at e
  replace hk := fun (t : Ext W) => (hk t).mono (fun e' w' h => And.intro (h.1.trans (ret_int e)) h.2)
  unfold rulesA at hr
  have hix := rules_at3
  have hf0 := fun W => (rule_f 76 (partyOf 3) W).1
  simp only [partyOf, if_true, if_false, show ¬ ((2 : Int) = 1) from by decide, show ¬ ((3 : Int) = 1) from by decide, show ¬ ((3 : Int) = 2) from by decide, show ¬ ((4 : Int) = 1) from by decide, show ¬ ((4 : Int) = 2) from by decide, show ¬ ((5 : Int) = 1) from by decide, show ¬ ((5 : Int) = 2) from by decide] at hf0
  have c0 := x0.ext 0 rfl; have c1 := x0.ext 1 rfl; have c2 := x0.ext 2 rfl; have c3 := x0.ext 3 rfl; have c4 := x0.ext 4 rfl
  have d0 := x1.ext 0 rfl; have d1 := x1.ext 1 rfl; have d2 := x1.ext 2 rfl; have d3 := x1.ext 3 rfl
  clear ha e hu hx x0 x1
  rcases Int.lt_or_le a u.rest with hh | hh
  · obtain rfl : n = a := by omega
    clear hn
    go_enter Try.func60, Try.ntmps60
    go_upto_region 1 with fail
    refine wp_region_ext_lit (by kernel_rfl) (by kernel_rfl) ?_
    repeat (quiet_step (first | (go_at_call 70; exact quiet_ext (hr _)) | (go_at_call 76; exact quiet_ext (hk _))))
    refine wpQuiet_nil ?_
    intro _ hw'
    obtain ⟨t, rfl⟩ := hw'
    go_wp2
    go_ret
    exact ⟨rfl, hb.trans (t.below.mono hb.size)⟩
  · obtain rfl : n = u.rest := by omega
    clear hn
    go_enter Try.func60, Try.ntmps60
    go_upto_region 1 with fail
    refine wp_region_ext_lit (by kernel_rfl) (by kernel_rfl) ?_
    repeat (quiet_step (first | (go_at_call 70; exact quiet_ext (hr _)) | (go_at_call 76; exact quiet_ext (hk _))))
    refine wpQuiet_nil ?_
    intro _ hw'
    obtain ⟨t, rfl⟩ := hw'
    go_wp2
    go_ret
    exact ⟨rfl, hb.trans (t.below.mono hb.size)⟩

set_option maxRecDepth 100000 in
set_option maxHeartbeats 2000000 in
theorem gives_4 (u : Wk) (c p m : Int) (hu : Wb u) (hx : Cl.ok ⟨4, c, p, m⟩) (w : World) (a : Int) (ha : a = asks ⟨4, c, p, m⟩ u) (n : Int) (hn : n = min u.rest a) : Calls Try.prog 60 #[.agg #[.int .i64 u.op, .int .i64 u.ow, .int .i64 u.rp, .int .i64 u.rest, .int .i64 u.owed], .agg #[.int .i64 4, .int .i64 c, .int .i64 p, .int .i64 m]] w fun e w' => e = .returned (.int .i64 n) ∧ Below w.heap.size w w' := by
  obtain ⟨W, hW, hb, _, x0, x1⟩ := boxes2 w #[.int .i64 u.op, .int .i64 u.ow, .int .i64 u.rp, .int .i64 u.rest, .int .i64 u.owed] 70 #[.int .i64 4, .int .i64 c, .int .i64 p, .int .i64 m] 56
  have hk := fun (t : Ext W) => steps_any u ⟨4, c, p, m⟩ hu hx t.w
  have hr := fun (t : Ext W) => rules_any t.w
  have e : asks ⟨4, c, p, m⟩ u = a := ha.symm
  simp only [asks, if_true, if_false, show ¬ ((2 : Int) = 1) from by decide, show ¬ ((3 : Int) = 1) from by decide, show ¬ ((3 : Int) = 2) from by decide, show ¬ ((4 : Int) = 1) from by decide, show ¬ ((4 : Int) = 2) from by decide, show ¬ ((4 : Int) = 3) from by decide, show ¬ ((5 : Int) = 1) from by decide, show ¬ ((5 : Int) = 2) from by decide, show ¬ ((5 : Int) = 3) from by decide, show ¬ ((5 : Int) = 4) from by decide] at e
  replace hk := fun (t : Ext W) => (hk t).mono (fun e' w' h => And.intro (h.1.trans (ret_int e)) h.2)
  unfold rulesA at hr
  have hix := rules_at4
  have hf0 := fun W => (rule_f 77 (partyOf 4) W).1
  simp only [partyOf, if_true, if_false, show ¬ ((2 : Int) = 1) from by decide, show ¬ ((3 : Int) = 1) from by decide, show ¬ ((3 : Int) = 2) from by decide, show ¬ ((4 : Int) = 1) from by decide, show ¬ ((4 : Int) = 2) from by decide, show ¬ ((5 : Int) = 1) from by decide, show ¬ ((5 : Int) = 2) from by decide] at hf0
  have c0 := x0.ext 0 rfl; have c1 := x0.ext 1 rfl; have c2 := x0.ext 2 rfl; have c3 := x0.ext 3 rfl; have c4 := x0.ext 4 rfl
  have d0 := x1.ext 0 rfl; have d1 := x1.ext 1 rfl; have d2 := x1.ext 2 rfl; have d3 := x1.ext 3 rfl
  clear ha e hu hx x0 x1
  rcases Int.lt_or_le a u.rest with hh | hh
  · obtain rfl : n = a := by omega
    clear hn
    go_enter Try.func60, Try.ntmps60
    go_upto_region 1 with fail
    refine wp_region_ext_lit (by kernel_rfl) (by kernel_rfl) ?_
    repeat (quiet_step (first | (go_at_call 70; exact quiet_ext (hr _)) | (go_at_call 77; exact quiet_ext (hk _))))
    refine wpQuiet_nil ?_
    intro _ hw'
    obtain ⟨t, rfl⟩ := hw'
    go_wp2
    go_ret
    exact ⟨rfl, hb.trans (t.below.mono hb.size)⟩
  · obtain rfl : n = u.rest := by omega
    clear hn
    go_enter Try.func60, Try.ntmps60
    go_upto_region 1 with fail
    refine wp_region_ext_lit (by kernel_rfl) (by kernel_rfl) ?_
    repeat (quiet_step (first | (go_at_call 70; exact quiet_ext (hr _)) | (go_at_call 77; exact quiet_ext (hk _))))
    refine wpQuiet_nil ?_
    intro _ hw'
    obtain ⟨t, rfl⟩ := hw'
    go_wp2
    go_ret
    exact ⟨rfl, hb.trans (t.below.mono hb.size)⟩

set_option maxRecDepth 100000 in
set_option maxHeartbeats 2000000 in
theorem gives_5 (u : Wk) (c p m : Int) (hu : Wb u) (hx : Cl.ok ⟨5, c, p, m⟩) (w : World) (a : Int) (ha : a = asks ⟨5, c, p, m⟩ u) (n : Int) (hn : n = min u.rest a) : Calls Try.prog 60 #[.agg #[.int .i64 u.op, .int .i64 u.ow, .int .i64 u.rp, .int .i64 u.rest, .int .i64 u.owed], .agg #[.int .i64 5, .int .i64 c, .int .i64 p, .int .i64 m]] w fun e w' => e = .returned (.int .i64 n) ∧ Below w.heap.size w w' := by
  obtain ⟨W, hW, hb, _, x0, x1⟩ := boxes2 w #[.int .i64 u.op, .int .i64 u.ow, .int .i64 u.rp, .int .i64 u.rest, .int .i64 u.owed] 70 #[.int .i64 5, .int .i64 c, .int .i64 p, .int .i64 m] 56
  have hk := fun (t : Ext W) => minimum_any u ⟨5, c, p, m⟩ hu hx t.w
  have hr := fun (t : Ext W) => rules_any t.w
  have e : asks ⟨5, c, p, m⟩ u = a := ha.symm
  simp only [asks, if_true, if_false, show ¬ ((2 : Int) = 1) from by decide, show ¬ ((3 : Int) = 1) from by decide, show ¬ ((3 : Int) = 2) from by decide, show ¬ ((4 : Int) = 1) from by decide, show ¬ ((4 : Int) = 2) from by decide, show ¬ ((4 : Int) = 3) from by decide, show ¬ ((5 : Int) = 1) from by decide, show ¬ ((5 : Int) = 2) from by decide, show ¬ ((5 : Int) = 3) from by decide, show ¬ ((5 : Int) = 4) from by decide] at e
  replace hk := fun (t : Ext W) => (hk t).mono (fun e' w' h => And.intro (h.1.trans (ret_int e)) h.2)
  unfold rulesA at hr
  have hix := rules_at5
  have hf0 := fun W => (rule_f 78 (partyOf 5) W).1
  simp only [partyOf, if_true, if_false, show ¬ ((2 : Int) = 1) from by decide, show ¬ ((3 : Int) = 1) from by decide, show ¬ ((3 : Int) = 2) from by decide, show ¬ ((4 : Int) = 1) from by decide, show ¬ ((4 : Int) = 2) from by decide, show ¬ ((5 : Int) = 1) from by decide, show ¬ ((5 : Int) = 2) from by decide] at hf0
  have c0 := x0.ext 0 rfl; have c1 := x0.ext 1 rfl; have c2 := x0.ext 2 rfl; have c3 := x0.ext 3 rfl; have c4 := x0.ext 4 rfl
  have d0 := x1.ext 0 rfl; have d1 := x1.ext 1 rfl; have d2 := x1.ext 2 rfl; have d3 := x1.ext 3 rfl
  clear ha e hu hx x0 x1
  rcases Int.lt_or_le a u.rest with hh | hh
  · obtain rfl : n = a := by omega
    clear hn
    go_enter Try.func60, Try.ntmps60
    go_upto_region 1 with fail
    refine wp_region_ext_lit (by kernel_rfl) (by kernel_rfl) ?_
    repeat (quiet_step (first | (go_at_call 70; exact quiet_ext (hr _)) | (go_at_call 78; exact quiet_ext (hk _))))
    refine wpQuiet_nil ?_
    intro _ hw'
    obtain ⟨t, rfl⟩ := hw'
    go_wp2
    go_ret
    exact ⟨rfl, hb.trans (t.below.mono hb.size)⟩
  · obtain rfl : n = u.rest := by omega
    clear hn
    go_enter Try.func60, Try.ntmps60
    go_upto_region 1 with fail
    refine wp_region_ext_lit (by kernel_rfl) (by kernel_rfl) ?_
    repeat (quiet_step (first | (go_at_call 70; exact quiet_ext (hr _)) | (go_at_call 78; exact quiet_ext (hk _))))
    refine wpQuiet_nil ?_
    intro _ hw'
    obtain ⟨t, rfl⟩ := hw'
    go_wp2
    go_ret
    exact ⟨rfl, hb.trans (t.below.mono hb.size)⟩

theorem gives_any (u : Wk) (x : Cl) (hu : Wb u) (hx : x.ok) (w : World) : Calls Try.prog 60 #[.agg #[.int .i64 u.op, .int .i64 u.ow, .int .i64 u.rp, .int .i64 u.rest, .int .i64 u.owed], .agg #[.int .i64 x.k, .int .i64 x.c, .int .i64 x.p, .int .i64 x.m]] w fun e w' => e = .returned (.int .i64 (givesW u x)) ∧ Below w.heap.size w w' := by
  obtain ⟨k, c, p, m⟩ := x
  have h := hx.1
  obtain rfl | rfl | rfl | rfl | rfl : k = 1 ∨ k = 2 ∨ k = 3 ∨ k = 4 ∨ k = 5 := by
    simp only at h; omega
  · exact gives_1 u c p m hu hx w _ rfl _ rfl
  · exact gives_2 u c p m hu hx w _ rfl _ rfl
  · exact gives_3 u c p m hu hx w _ rfl _ rfl
  · exact gives_4 u c p m hu hx w _ rfl _ rfl
  · exact gives_5 u c p m hu hx w _ rfl _ rfl
end Go.Proofs.Ythgjjlkdekfdbaa
