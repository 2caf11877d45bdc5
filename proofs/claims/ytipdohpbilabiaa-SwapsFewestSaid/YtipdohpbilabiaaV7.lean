import Derived.Test.YtipdohpbilabiaaV6
/-! Best and Fair. -/
namespace Go.Proofs.Ytipdohpbilabiaa
set_option linter.unusedSimpArgs false
set_option linter.unusedVariables false
open Go Go.RowKit

theorem best_X (ab ast ae ak : Option Addr) (cb cs ce ck : Nat) (X : Sw) (hok : XOk X) (p q : Pl) (hp : p = planM X.bs) (hq : q = stayF X.ks) (w : World) (hX : Swp w ab ast ae ak X) : Calls Try.prog 60 #[.agg #[.slice ab X.bs.length cb, .slice ast X.st.length cs, .slice ae X.er.length ce, .slice ak X.ks.length ck, .int .i64 X.ch, .int .u8 (p.a : Int), .int .u8 (p.b : Int), .int .u8 (p.c : Int), .int .u8 (q.a : Int), .int .u8 (q.b : Int), .int .u8 (q.c : Int)]] w fun e w' => e = .returned (.int .i64 (earn X.vz (bestP X.vz))) ∧ Below w.heap.size w w' := by
  subst hp hq
  exact best_any ab ast ae ak cb cs ce X.ks.length ck X.vz (vz_ok hok) w ⟨hX.2.1, hX.2.2.1⟩
theorem fair_X (ab ast ae ak : Option Addr) (cb cs ce ck : Nat) (X : Sw) (hok : XOk X) (p q : Pl) (hp : p = planM X.bs) (hq : q = stayF X.ks) (w : World) (hX : Swp w ab ast ae ak X) (h1 : 1 ≤ X.bs.length) : Calls Try.prog 65 #[.agg #[.slice ab X.bs.length cb, .slice ast X.st.length cs, .slice ae X.er.length ce, .slice ak X.ks.length ck, .int .i64 X.ch, .int .u8 (p.a : Int), .int .u8 (p.b : Int), .int .u8 (p.c : Int), .int .u8 (q.a : Int), .int .u8 (q.b : Int), .int .u8 (q.c : Int)]] w fun e w' => e = .returned (.int .i64 (fairV X.vz)) ∧ Below w.heap.size w w' := by
  subst hp hq
  exact fair_any ab ast ae ak cb cs ce X.ks.length ck X.vz (vz_ok hok) w ⟨hX.2.1, hX.2.2.1⟩ h1
theorem fewest_X (ab ast ae ak : Option Addr) (cb cs ce ck : Nat) (X : Sw) (hok : XOk X) (p q : Pl) (hp : p = planM X.bs) (hq : q = stayF X.ks) (goal : Int) (w : World) (hX : Swp w ab ast ae ak X) (y : Int) (o : Bool) (hy : (y, o) = fewV X.vz goal) : Calls Try.prog 71 #[.agg #[.slice ab X.bs.length cb, .slice ast X.st.length cs, .slice ae X.er.length ce, .slice ak X.ks.length ck, .int .i64 X.ch, .int .u8 (p.a : Int), .int .u8 (p.b : Int), .int .u8 (p.c : Int), .int .u8 (q.a : Int), .int .u8 (q.b : Int), .int .u8 (q.c : Int)], .int .i64 goal] w fun e w' => e = .returned (.tuple #[.int .i64 y, .bool o]) ∧ Below w.heap.size w w' := by
  subst hp hq
  exact fewest_any ab ast ae ak cb cs ce X.ks.length ck X.vz (vz_ok hok) goal w ⟨hX.2.1, hX.2.2.1⟩ y o hy
theorem fits_X (ab ast ae ak : Option Addr) (cb cs ce ck : Nat) (X : Sw) (hok : XOk X) (p q : Pl) (hp : p = planM X.bs) (hq : q = stayF X.ks) (r : Pl) (hr : r.ok 64) (w : World) (hX : Swp w ab ast ae ak X) : Calls Try.prog 55 #[.agg #[.slice ab X.bs.length cb, .slice ast X.st.length cs, .slice ae X.er.length ce, .slice ak X.ks.length ck, .int .i64 X.ch, .int .u8 (p.a : Int), .int .u8 (p.b : Int), .int .u8 (p.c : Int), .int .u8 (q.a : Int), .int .u8 (q.b : Int), .int .u8 (q.c : Int)], .agg #[.int .u8 (r.a : Int), .int .u8 (r.b : Int), .int .u8 (r.c : Int)]] w fun e w' => e = .returned (.bool (fitA X.vz r)) ∧ Below w.heap.size w w' := by
  subst hp hq
  exact fits_any ab ast ae ak cb cs ce X.ks.length ck X.vz (vz_ok hok) r hr w hX.2.1

set_option maxRecDepth 100000 in
set_option maxHeartbeats 2000000 in
theorem Best_bad (ab ast ae ak : Option Addr) (cb cs ce ck : Nat) (X : Sw) (w : World) (hX : Swp w ab ast ae ak X) (hv : vB X = false) : Calls Try.prog 27 #[.agg #[.slice ab X.bs.length cb, .slice ast X.st.length cs, .slice ae X.er.length ce, .slice ak X.ks.length ck, .int .i64 X.ch]] w fun e w' => e = .returned (.tuple #[.int .i64 0, .int .i64 70]) ∧ Below w.heap.size w w' := by
  obtain ⟨W, hW, hbw, _, x0⟩ := boxes1 w #[.slice ab X.bs.length cb, .slice ast X.st.length cs, .slice ae X.er.length ce, .slice ak X.ks.length ck, .int .i64 X.ch] 26
  have hvo := visitOf_bad ab ast ae ak cb cs ce ck X true W (hX.below hbw (Nat.le_refl _)) 70 (by rw [hv]; rfl) (fun h => by rw [hv] at h; cases h)
  clear hX
  have c0 := x0.cell 0 rfl; have c1 := x0.cell 1 rfl; have c2 := x0.cell 2 rfl; have c3 := x0.cell 3 rfl; have c4 := x0.cell 4 rfl
  go_enter Try.func27, Try.ntmps27
  go_wp2_with fail
  refine hvo.mono ?_
  rintro e W1 ⟨rfl, hb1⟩
  replace hbw := hbw.trans (hb1.mono hbw.size)
  have hb2 := hbw.trans ((below_one (w := W1) (.cells #[.slice none 0 0, .slice none 0 0, .slice none 0 0, .slice none 0 0, .int .i64 0, .int .u8 0, .int .u8 0, .int .u8 0, .int .u8 0, .int .u8 0, .int .u8 0] 72)).mono hbw.size)
  clear hW c0 c1 c2 c3 c4 hb1 hvo x0
  go_wp2
  go_ret2
  exact ⟨rfl, hb2⟩

set_option maxRecDepth 100000 in
set_option maxHeartbeats 2000000 in
theorem Best_ok (ab ast ae ak : Option Addr) (cb cs ce ck : Nat) (X : Sw) (w : World) (hX : Swp w ab ast ae ak X) (hv : vB X = true) : Calls Try.prog 27 #[.agg #[.slice ab X.bs.length cb, .slice ast X.st.length cs, .slice ae X.er.length ce, .slice ak X.ks.length ck, .int .i64 X.ch]] w fun e w' => e = .returned (.tuple #[.int .i64 (earn X.vz (bestP X.vz)), .int .i64 0]) ∧ Below w.heap.size w w' := by
  obtain ⟨p, hp⟩ : ∃ p, p = planM X.bs := ⟨_, rfl⟩
  obtain ⟨q, hq⟩ : ∃ q, q = stayF X.ks := ⟨_, rfl⟩
  obtain ⟨W, hW, hbw, _, x0⟩ := boxes1 w #[.slice ab X.bs.length cb, .slice ast X.st.length cs, .slice ae X.er.length ce, .slice ak X.ks.length ck, .int .i64 X.ch] 26
  have hvo := visitOf_ok ab ast ae ak cb cs ce ck X W (hX.below hbw (Nat.le_refl _)) hv p q hp hq
  have hbe := fun W' (h : Below w.heap.size w W') => best_X ab ast ae ak cb cs ce ck X (vB_iff hv) p q hp hq W' (hX.below h (Nat.le_refl _))
  generalize earn X.vz (bestP X.vz) = be at *
  clear hX hp hq
  have c0 := x0.cell 0 rfl; have c1 := x0.cell 1 rfl; have c2 := x0.cell 2 rfl; have c3 := x0.cell 3 rfl; have c4 := x0.cell 4 rfl
  go_enter Try.func27, Try.ntmps27
  go_wp2_with fail
  refine hvo.mono ?_
  rintro e W1 ⟨rfl, hb1⟩
  replace hbw := hbw.trans (hb1.mono hbw.size)
  obtain ⟨W2, hW2, hb2, _, x4⟩ := boxes1 W1 #[.slice ab X.bs.length cb, .slice ast X.st.length cs, .slice ae X.er.length ce, .slice ak X.ks.length ck, .int .i64 X.ch, .int .u8 (p.a : Int), .int .u8 (p.b : Int), .int .u8 (p.c : Int), .int .u8 (q.a : Int), .int .u8 (q.b : Int), .int .u8 (q.c : Int)] 72
  replace hbw := hbw.trans (hb2.mono hbw.size)
  replace x0 := (x0.below hb1).below hb2
  clear hW c0 c1 c2 c3 c4 hvo
  have d0 := x4.cell 0 rfl; have d1 := x4.cell 1 rfl; have d2 := x4.cell 2 rfl; have d3 := x4.cell 3 rfl; have d4 := x4.cell 4 rfl; have d5 := x4.cell 5 rfl; have d6 := x4.cell 6 rfl; have d7 := x4.cell 7 rfl; have d8 := x4.cell 8 rfl; have d9 := x4.cell 9 rfl; have d10 := x4.cell 10 rfl
  have c0 := x0.cell 0 rfl; have c1 := x0.cell 1 rfl; have c2 := x0.cell 2 rfl; have c3 := x0.cell 3 rfl; have c4 := x0.cell 4 rfl
  go_wp2_with fail
  refine (hbe _ hbw).mono ?_
  rintro e W3 ⟨rfl, hb3⟩
  replace hbw := hbw.trans (hb3.mono hbw.size)
  clear c0 c1 c2 c3 c4 d0 d1 d2 d3 d4 d5 d6 d7 d8 d9 d10 hW2 hbe x0 x4
  go_wp2
  go_ret2
  exact ⟨rfl, hbw⟩

set_option maxRecDepth 100000 in
set_option maxHeartbeats 2000000 in
theorem Fair_bad (ab ast ae ak : Option Addr) (cb cs ce ck : Nat) (X : Sw) (w : World) (hX : Swp w ab ast ae ak X) (hv : vB X = false) : Calls Try.prog 31 #[.agg #[.slice ab X.bs.length cb, .slice ast X.st.length cs, .slice ae X.er.length ce, .slice ak X.ks.length ck, .int .i64 X.ch]] w fun e w' => e = .returned (.tuple #[.int .i64 0, .int .i64 70]) ∧ Below w.heap.size w w' := by
  obtain ⟨W, hW, hbw, _, x0⟩ := boxes1 w #[.slice ab X.bs.length cb, .slice ast X.st.length cs, .slice ae X.er.length ce, .slice ak X.ks.length ck, .int .i64 X.ch] 26
  have hvo := visitOf_bad ab ast ae ak cb cs ce ck X true W (hX.below hbw (Nat.le_refl _)) 70 (by rw [hv]; rfl) (fun h => by rw [hv] at h; cases h)
  clear hX
  have c0 := x0.cell 0 rfl; have c1 := x0.cell 1 rfl; have c2 := x0.cell 2 rfl; have c3 := x0.cell 3 rfl; have c4 := x0.cell 4 rfl
  go_enter Try.func31, Try.ntmps31
  go_wp2_with fail
  refine hvo.mono ?_
  rintro e W1 ⟨rfl, hb1⟩
  replace hbw := hbw.trans (hb1.mono hbw.size)
  have hb2 := hbw.trans ((below_one (w := W1) (.cells #[.slice none 0 0, .slice none 0 0, .slice none 0 0, .slice none 0 0, .int .i64 0, .int .u8 0, .int .u8 0, .int .u8 0, .int .u8 0, .int .u8 0, .int .u8 0] 72)).mono hbw.size)
  clear hW c0 c1 c2 c3 c4 hb1 hvo x0
  go_wp2
  go_ret2
  exact ⟨rfl, hb2⟩

set_option maxRecDepth 100000 in
set_option maxHeartbeats 2000000 in
theorem Fair_ok (ab ast ae ak : Option Addr) (cb cs ce ck : Nat) (X : Sw) (w : World) (hX : Swp w ab ast ae ak X) (hv : vB X = true) (h1 : 1 ≤ X.bs.length) : Calls Try.prog 31 #[.agg #[.slice ab X.bs.length cb, .slice ast X.st.length cs, .slice ae X.er.length ce, .slice ak X.ks.length ck, .int .i64 X.ch]] w fun e w' => e = .returned (.tuple #[.int .i64 (fairV X.vz), .int .i64 0]) ∧ Below w.heap.size w w' := by
  obtain ⟨p, hp⟩ : ∃ p, p = planM X.bs := ⟨_, rfl⟩
  obtain ⟨q, hq⟩ : ∃ q, q = stayF X.ks := ⟨_, rfl⟩
  obtain ⟨W, hW, hbw, _, x0⟩ := boxes1 w #[.slice ab X.bs.length cb, .slice ast X.st.length cs, .slice ae X.er.length ce, .slice ak X.ks.length ck, .int .i64 X.ch] 26
  have hvo := visitOf_ok ab ast ae ak cb cs ce ck X W (hX.below hbw (Nat.le_refl _)) hv p q hp hq
  have hbe := fun W' (h : Below w.heap.size w W') => fair_X ab ast ae ak cb cs ce ck X (vB_iff hv) p q hp hq W' (hX.below h (Nat.le_refl _)) h1
  have hnI : ((X.bs.length : Int) == 0) = false := by rw [Bool.eq_false_iff]; intro h; have := eq_of_beq h; omega
  generalize fairV X.vz = be at *
  clear hX hp hq
  have c0 := x0.cell 0 rfl; have c1 := x0.cell 1 rfl; have c2 := x0.cell 2 rfl; have c3 := x0.cell 3 rfl; have c4 := x0.cell 4 rfl
  go_enter Try.func31, Try.ntmps31
  go_wp2_with fail
  refine hvo.mono ?_
  rintro e W1 ⟨rfl, hb1⟩
  replace hbw := hbw.trans (hb1.mono hbw.size)
  obtain ⟨W2, hW2, hb2, _, x4⟩ := boxes1 W1 #[.slice ab X.bs.length cb, .slice ast X.st.length cs, .slice ae X.er.length ce, .slice ak X.ks.length ck, .int .i64 X.ch, .int .u8 (p.a : Int), .int .u8 (p.b : Int), .int .u8 (p.c : Int), .int .u8 (q.a : Int), .int .u8 (q.b : Int), .int .u8 (q.c : Int)] 72
  replace hbw := hbw.trans (hb2.mono hbw.size)
  replace x0 := (x0.below hb1).below hb2
  clear hW c0 c1 c2 c3 c4 hvo
  have d0 := x4.cell 0 rfl; have d1 := x4.cell 1 rfl; have d2 := x4.cell 2 rfl; have d3 := x4.cell 3 rfl; have d4 := x4.cell 4 rfl; have d5 := x4.cell 5 rfl; have d6 := x4.cell 6 rfl; have d7 := x4.cell 7 rfl; have d8 := x4.cell 8 rfl; have d9 := x4.cell 9 rfl; have d10 := x4.cell 10 rfl
  have c0 := x0.cell 0 rfl; have c1 := x0.cell 1 rfl; have c2 := x0.cell 2 rfl; have c3 := x0.cell 3 rfl; have c4 := x0.cell 4 rfl
  go_wp2_with fail
  refine (hbe _ hbw).mono ?_
  rintro e W3 ⟨rfl, hb3⟩
  replace hbw := hbw.trans (hb3.mono hbw.size)
  clear c0 c1 c2 c3 c4 d0 d1 d2 d3 d4 d5 d6 d7 d8 d9 d10 hW2 hbe x0 x4
  go_wp2
  go_ret2
  exact ⟨rfl, hbw⟩

set_option maxHeartbeats 2000000 in
theorem FairNone_bad (ab ast ae ak : Option Addr) (cb cs ce ck : Nat) (X : Sw) (w : World) (hX : Swp w ab ast ae ak X) (hv : vB X = false) : Calls Try.prog 31 #[.agg #[.slice ab X.bs.length cb, .slice ast X.st.length cs, .slice ae X.er.length ce, .slice ak X.ks.length ck, .int .i64 X.ch]] w fun e w' => e = .returned (.tuple #[.int .i64 0, .int .i64 70]) ∧ Below w.heap.size w w' := by
  obtain ⟨W, hW, hbw, _, x0⟩ := boxes1 w #[.slice ab X.bs.length cb, .slice ast X.st.length cs, .slice ae X.er.length ce, .slice ak X.ks.length ck, .int .i64 X.ch] 26
  have hvo := visitOf_bad ab ast ae ak cb cs ce ck X true W (hX.below hbw (Nat.le_refl _)) 70 (by rw [hv]; rfl) (fun h => by rw [hv] at h; cases h)
  clear hX
  have c0 := x0.cell 0 rfl; have c1 := x0.cell 1 rfl; have c2 := x0.cell 2 rfl; have c3 := x0.cell 3 rfl; have c4 := x0.cell 4 rfl
  go_enter Try.func31, Try.ntmps31
  go_wp2_with fail
  refine hvo.mono ?_
  rintro e W1 ⟨rfl, hb1⟩
  replace hbw := hbw.trans (hb1.mono hbw.size)
  have hb2 := hbw.trans ((below_one (w := W1) (.cells #[.slice none 0 0, .slice none 0 0, .slice none 0 0, .slice none 0 0, .int .i64 0, .int .u8 0, .int .u8 0, .int .u8 0, .int .u8 0, .int .u8 0, .int .u8 0] 72)).mono hbw.size)
  clear hW c0 c1 c2 c3 c4 hb1 hvo x0
  go_wp2
  go_ret2
  exact ⟨rfl, hb2⟩

set_option maxRecDepth 100000 in
set_option maxHeartbeats 2000000 in
theorem FairNone_ok (ab ast ae ak : Option Addr) (cb cs ce ck : Nat) (X : Sw) (w : World) (hX : Swp w ab ast ae ak X) (hv : vB X = true) (h1 : X.bs.length = 0) : Calls Try.prog 31 #[.agg #[.slice ab X.bs.length cb, .slice ast X.st.length cs, .slice ae X.er.length ce, .slice ak X.ks.length ck, .int .i64 X.ch]] w fun e w' => e = .returned (.tuple #[.int .i64 0, .int .i64 3]) ∧ Below w.heap.size w w' := by
  obtain ⟨p, hp⟩ : ∃ p, p = planM X.bs := ⟨_, rfl⟩
  obtain ⟨q, hq⟩ : ∃ q, q = stayF X.ks := ⟨_, rfl⟩
  obtain ⟨W, hW, hbw, _, x0⟩ := boxes1 w #[.slice ab X.bs.length cb, .slice ast X.st.length cs, .slice ae X.er.length ce, .slice ak X.ks.length ck, .int .i64 X.ch] 26
  have hvo := visitOf_ok ab ast ae ak cb cs ce ck X W (hX.below hbw (Nat.le_refl _)) hv p q hp hq
  have hnI : ((X.bs.length : Int) == 0) = true := by rw [h1]; rfl
  clear hX hp hq h1
  have c0 := x0.cell 0 rfl; have c1 := x0.cell 1 rfl; have c2 := x0.cell 2 rfl; have c3 := x0.cell 3 rfl; have c4 := x0.cell 4 rfl
  go_enter Try.func31, Try.ntmps31
  go_wp2_with fail
  refine hvo.mono ?_
  rintro e W1 ⟨rfl, hb1⟩
  replace hbw := hbw.trans (hb1.mono hbw.size)
  obtain ⟨W2, hW2, hb2, _, x4⟩ := boxes1 W1 #[.slice ab X.bs.length cb, .slice ast X.st.length cs, .slice ae X.er.length ce, .slice ak X.ks.length ck, .int .i64 X.ch, .int .u8 (p.a : Int), .int .u8 (p.b : Int), .int .u8 (p.c : Int), .int .u8 (q.a : Int), .int .u8 (q.b : Int), .int .u8 (q.c : Int)] 72
  replace hbw := hbw.trans (hb2.mono hbw.size)
  replace x0 := (x0.below hb1).below hb2
  clear hW c0 c1 c2 c3 c4 hvo
  have d0 := x4.cell 0 rfl; have d1 := x4.cell 1 rfl; have d2 := x4.cell 2 rfl; have d3 := x4.cell 3 rfl; have d4 := x4.cell 4 rfl; have d5 := x4.cell 5 rfl; have d6 := x4.cell 6 rfl; have d7 := x4.cell 7 rfl; have d8 := x4.cell 8 rfl; have d9 := x4.cell 9 rfl; have d10 := x4.cell 10 rfl
  have c0 := x0.cell 0 rfl; have c1 := x0.cell 1 rfl; have c2 := x0.cell 2 rfl; have c3 := x0.cell 3 rfl; have c4 := x0.cell 4 rfl
  go_wp2
  go_ret2
  exact ⟨rfl, hbw⟩
end Go.Proofs.Ytipdohpbilabiaa
