import Derived.Test.YtipdohpbilabiaaVD
/-! A visit with one more change; Change. -/
namespace Go.Proofs.Ytipdohpbilabiaa
set_option linter.unusedSimpArgs false
set_option linter.unusedVariables false
open Go Go.RowKit

/-- With one more change. -/
def Vz.mch (V : Vz) : Vz := { V with ch := V.ch + 1 }
def chgV (V : Vz) : Int := earn V.mch (bestP V.mch) - earn V (bestP V)
theorem vzH_ok {X : Sw} (hok : XOk X) : VOk X.vz.mch := by
  have h := vz_ok hok
  have hc := hok.ch3
  exact ⟨h.nb3, h.t6, h.st0, h.er1, h.er2, h.er3, by show 0 ≤ X.ch + 1 ∧ X.ch + 1 ≤ 4; omega, h.now, h.stay⟩
theorem bestH (ab ast ae ak : Option Addr) (cb cs ce ck : Nat) (X : Sw) (hok : XOk X) (p q : Pl) (hp : p = planM X.bs) (hq : q = stayF X.ks) (w : World) (hX : Swp w ab ast ae ak X) : Calls Try.prog 60 #[.agg #[.slice ab X.bs.length cb, .slice ast X.st.length cs, .slice ae X.er.length ce, .slice ak X.ks.length ck, .int .i64 (X.ch + 1), .int .u8 (p.a : Int), .int .u8 (p.b : Int), .int .u8 (p.c : Int), .int .u8 (q.a : Int), .int .u8 (q.b : Int), .int .u8 (q.c : Int)]] w fun e w' => e = .returned (.int .i64 (earn X.vz.mch (bestP X.vz.mch))) ∧ Below w.heap.size w w' := by
  subst hp hq
  exact best_any ab ast ae ak cb cs ce X.ks.length ck X.vz.mch (vzH_ok hok) w ⟨hX.2.1, hX.2.2.1⟩

set_option maxRecDepth 100000 in
set_option maxHeartbeats 2000000 in
theorem withChange_any (ab ast ae ak : Option Addr) (cb cs ce ck : Nat) (X : Sw) (p q : Pl) (hc : 0 ≤ X.ch ∧ X.ch ≤ 3) (w : World) : Calls Try.prog 74 #[.agg #[.slice ab X.bs.length cb, .slice ast X.st.length cs, .slice ae X.er.length ce, .slice ak X.ks.length ck, .int .i64 X.ch, .int .u8 (p.a : Int), .int .u8 (p.b : Int), .int .u8 (p.c : Int), .int .u8 (q.a : Int), .int .u8 (q.b : Int), .int .u8 (q.c : Int)]] w fun e w' => e = .returned (.agg #[.slice ab X.bs.length cb, .slice ast X.st.length cs, .slice ae X.er.length ce, .slice ak X.ks.length ck, .int .i64 (X.ch + 1), .int .u8 (p.a : Int), .int .u8 (p.b : Int), .int .u8 (p.c : Int), .int .u8 (q.a : Int), .int .u8 (q.b : Int), .int .u8 (q.c : Int)]) ∧ Below w.heap.size w w' := by
  obtain ⟨W, hW, hbb, hsz, x0, x1⟩ := boxes2 w #[.slice ab X.bs.length cb, .slice ast X.st.length cs, .slice ae X.er.length ce, .slice ak X.ks.length ck, .int .i64 X.ch, .int .u8 (p.a : Int), .int .u8 (p.b : Int), .int .u8 (p.c : Int), .int .u8 (q.a : Int), .int .u8 (q.b : Int), .int .u8 (q.c : Int)] 72 #[.slice none 0 0, .slice none 0 0, .slice none 0 0, .slice none 0 0, .int .i64 0, .int .u8 0, .int .u8 0, .int .u8 0, .int .u8 0, .int .u8 0, .int .u8 0] 72
  have hwr : IntKind.i64.wrap (X.ch + 1) = X.ch + 1 := IntWalk.i64_in _ (by omega)
  have c0 := x0.cell 0 rfl; have c1 := x0.cell 1 rfl; have c2 := x0.cell 2 rfl; have c3 := x0.cell 3 rfl; have c4 := x0.cell 4 rfl; have c5 := x0.cell 5 rfl; have c6 := x0.cell 6 rfl; have c7 := x0.cell 7 rfl; have c8 := x0.cell 8 rfl; have c9 := x0.cell 9 rfl; have c10 := x0.cell 10 rfl
  have f0 := x0.free 0; have f1 := x0.free 1; have f2 := x0.free 2; have f3 := x0.free 3; have f4 := x0.free 4; have f5 := x0.free 5; have f6 := x0.free 6; have f7 := x0.free 7; have f8 := x0.free 8; have f9 := x0.free 9; have f10 := x0.free 10
  go_enter Try.func74, Try.ntmps74
  go_upto_region 2 with fail
  have hg1 : W.grownBy (W.setCell ⟨w.heap.size, 4, none⟩ (.int .i64 (X.ch + 1))) (some w.heap.size) := gset W _ _
  have x1' := x1.gb hg1 (fun k hk => by injection hk with hk; omega)
  have x0' := x0.set 4 (.int .i64 (X.ch + 1))
  have hb' := hbb.setCell (p := ⟨w.heap.size, 4, none⟩) (Nat.le_refl _) (.int .i64 (X.ch + 1))
  clear hg1 x0 x1 hbb c0 c1 c2 c3 c4 c5 c6 c7 c8 c9 c10 f0 f1 f2 f3 f4 f5 f6 f7 f8 f9 f10 hW hsz
  try simp only [hwr]
  generalize World.setCell _ _ _ = V2 at *
  obtain ⟨x0, x1, hbb⟩ : Bx V2 w.heap.size #[.slice ab X.bs.length cb, .slice ast X.st.length cs, .slice ae X.er.length ce, .slice ak X.ks.length ck, .int .i64 (X.ch + 1), .int .u8 (p.a : Int), .int .u8 (p.b : Int), .int .u8 (p.c : Int), .int .u8 (q.a : Int), .int .u8 (q.b : Int), .int .u8 (q.c : Int)] 72 ∧ Bx V2 (w.heap.size + 1) #[.slice none 0 0, .slice none 0 0, .slice none 0 0, .slice none 0 0, .int .i64 0, .int .u8 0, .int .u8 0, .int .u8 0, .int .u8 0, .int .u8 0, .int .u8 0] 72 ∧ Below w.heap.size w V2 := ⟨x0', x1', hb'⟩
  clear x0' x1' hb'
  have c0 := x0.cell 0 rfl; have c1 := x0.cell 1 rfl; have c2 := x0.cell 2 rfl; have c3 := x0.cell 3 rfl; have c4 := x0.cell 4 rfl; have c5 := x0.cell 5 rfl; have c6 := x0.cell 6 rfl; have c7 := x0.cell 7 rfl; have c8 := x0.cell 8 rfl; have c9 := x0.cell 9 rfl; have c10 := x0.cell 10 rfl
  have d0 := x1.cell 0 rfl; have d1 := x1.cell 1 rfl; have d2 := x1.cell 2 rfl; have d3 := x1.cell 3 rfl; have d4 := x1.cell 4 rfl; have d5 := x1.cell 5 rfl; have d6 := x1.cell 6 rfl; have d7 := x1.cell 7 rfl; have d8 := x1.cell 8 rfl; have d9 := x1.cell 9 rfl; have d10 := x1.cell 10 rfl
  have f0 := x1.free 0; have f1 := x1.free 1; have f2 := x1.free 2; have f3 := x1.free 3; have f4 := x1.free 4; have f5 := x1.free 5; have f6 := x1.free 6; have f7 := x1.free 7; have f8 := x1.free 8; have f9 := x1.free 9; have f10 := x1.free 10
  have xg' := x1.set11 (.slice ab X.bs.length cb) (.slice ast X.st.length cs) (.slice ae X.er.length ce) (.slice ak X.ks.length ck) (.int .i64 (X.ch + 1)) (.int .u8 (p.a : Int)) (.int .u8 (p.b : Int)) (.int .u8 (p.c : Int)) (.int .u8 (q.a : Int)) (.int .u8 (q.b : Int)) (.int .u8 (q.c : Int))
  have hb2 := below_put11 hbb (b := w.heap.size + 1) (by omega) (.slice ab X.bs.length cb) (.slice ast X.st.length cs) (.slice ae X.er.length ce) (.slice ak X.ks.length ck) (.int .i64 (X.ch + 1)) (.int .u8 (p.a : Int)) (.int .u8 (p.b : Int)) (.int .u8 (p.c : Int)) (.int .u8 (q.a : Int)) (.int .u8 (q.b : Int)) (.int .u8 (q.c : Int))
  clear x0 x1
  have HY := hid (And.intro xg' hb2)
  clear xg' hb2
  go_wp2_with fail
  obtain ⟨xg', hb2⟩ := HY.out
  generalize World.setCell _ _ _ = V4 at *
  obtain ⟨xg, _⟩ := And.intro xg' True.intro
  clear xg'
  have e0 := xg.cell 0 rfl; have e1 := xg.cell 1 rfl; have e2 := xg.cell 2 rfl; have e3 := xg.cell 3 rfl; have e4 := xg.cell 4 rfl; have e5 := xg.cell 5 rfl; have e6 := xg.cell 6 rfl; have e7 := xg.cell 7 rfl; have e8 := xg.cell 8 rfl; have e9 := xg.cell 9 rfl; have e10 := xg.cell 10 rfl
  clear HY
  go_wp2
  refine bodyPost_ret (v := .agg #[.slice ab X.bs.length cb, .slice ast X.st.length cs, .slice ae X.er.length ce, .slice ak X.ks.length ck, .int .i64 (X.ch + 1), .int .u8 (p.a : Int), .int .u8 (p.b : Int), .int .u8 (p.c : Int), .int .u8 (q.a : Int), .int .u8 (q.b : Int), .int .u8 (q.c : Int)]) ?_ rfl ⟨rfl, hb2⟩
  simp [results, Try.results74, go_sem, e0, e1, e2, e3, e4, e5, e6, e7, e8, e9, e10]

set_option maxRecDepth 100000 in
set_option maxHeartbeats 2000000 in
theorem Change_bad (ab ast ae ak : Option Addr) (cb cs ce ck : Nat) (X : Sw) (w : World) (hX : Swp w ab ast ae ak X) (hv : vB X = false) : Calls Try.prog 42 #[.agg #[.slice ab X.bs.length cb, .slice ast X.st.length cs, .slice ae X.er.length ce, .slice ak X.ks.length ck, .int .i64 X.ch]] w fun e w' => e = .returned (.tuple #[.int .i64 0, .int .i64 70]) ∧ Below w.heap.size w w' := by
  obtain ⟨W, hW, hbw, _, x0⟩ := boxes1 w #[.slice ab X.bs.length cb, .slice ast X.st.length cs, .slice ae X.er.length ce, .slice ak X.ks.length ck, .int .i64 X.ch] 26
  have hvo := visitOf_bad ab ast ae ak cb cs ce ck X true W (hX.below hbw (Nat.le_refl _)) 70 (by rw [hv]; rfl) (fun h => by rw [hv] at h; cases h)
  clear hX
  have c0 := x0.cell 0 rfl; have c1 := x0.cell 1 rfl; have c2 := x0.cell 2 rfl; have c3 := x0.cell 3 rfl; have c4 := x0.cell 4 rfl
  go_enter Try.func42, Try.ntmps42
  go_wp2_with fail
  refine hvo.mono ?_
  rintro e W1 ⟨rfl, hb1⟩
  replace hbw := hbw.trans (hb1.mono hbw.size)
  have hb2 := hbw.trans ((below_one (w := W1) (.cells #[.slice none 0 0, .slice none 0 0, .slice none 0 0, .slice none 0 0, .int .i64 0, .int .u8 0, .int .u8 0, .int .u8 0, .int .u8 0, .int .u8 0, .int .u8 0] 72)).mono hbw.size)
  clear hW c0 c1 c2 c3 c4 hb1 hvo x0
  go_wp2
  go_ret2
  exact ⟨rfl, hb2⟩

set_option maxRecDepth 100000 in
set_option maxHeartbeats 2000000 in
theorem Change_ok (ab ast ae ak : Option Addr) (cb cs ce ck : Nat) (X : Sw) (w : World) (hX : Swp w ab ast ae ak X) (hv : vB X = true) : Calls Try.prog 42 #[.agg #[.slice ab X.bs.length cb, .slice ast X.st.length cs, .slice ae X.er.length ce, .slice ak X.ks.length ck, .int .i64 X.ch]] w fun e w' => e = .returned (.tuple #[.int .i64 (chgV X.vz), .int .i64 0]) ∧ Below w.heap.size w w' := by
  obtain ⟨p, hp⟩ : ∃ p, p = planM X.bs := ⟨_, rfl⟩
  obtain ⟨q, hq⟩ : ∃ q, q = stayF X.ks := ⟨_, rfl⟩
  obtain ⟨W, hW, hbw, _, x0⟩ := boxes1 w #[.slice ab X.bs.length cb, .slice ast X.st.length cs, .slice ae X.er.length ce, .slice ak X.ks.length ck, .int .i64 X.ch] 26
  have hok := vB_iff hv
  have hvo := visitOf_ok ab ast ae ak cb cs ce ck X W (hX.below hbw (Nat.le_refl _)) hv p q hp hq
  have hwc := fun V => withChange_any ab ast ae ak cb cs ce ck X p q hok.ch3 V
  have hbe := fun W' (h : Below w.heap.size w W') => best_X ab ast ae ak cb cs ce ck X hok p q hp hq W' (hX.below h (Nat.le_refl _))
  have hbh := fun W' (h : Below w.heap.size w W') => bestH ab ast ae ak cb cs ce ck X hok p q hp hq W' (hX.below h (Nat.le_refl _))
  have he1 := earn_le (vz_ok hok) (bestP X.vz)
  have he2 := earn_le (vzH_ok hok) (bestP X.vz.mch)
  unfold chgV
  generalize earn X.vz (bestP X.vz) = b0 at *
  generalize earn X.vz.mch (bestP X.vz.mch) = b1 at *
  have hwr : IntKind.i64.wrap (b1 - b0) = b1 - b0 := IntWalk.i64_in _ (by omega)
  have HB := hid (And.intro hwr (And.intro hwc (And.intro hbe hbh)))
  clear hX hp hq hok hwr hwc hbe hbh he1 he2
  have c0 := x0.cell 0 rfl; have c1 := x0.cell 1 rfl; have c2 := x0.cell 2 rfl; have c3 := x0.cell 3 rfl; have c4 := x0.cell 4 rfl
  go_enter Try.func42, Try.ntmps42
  go_wp2_with fail
  refine hvo.mono ?_
  rintro e W1 ⟨rfl, hb1⟩
  replace hbw := hbw.trans (hb1.mono hbw.size)
  obtain ⟨W2, hW2, hb2, _, x4⟩ := boxes1 W1 #[.slice ab X.bs.length cb, .slice ast X.st.length cs, .slice ae X.er.length ce, .slice ak X.ks.length ck, .int .i64 X.ch, .int .u8 (p.a : Int), .int .u8 (p.b : Int), .int .u8 (p.c : Int), .int .u8 (q.a : Int), .int .u8 (q.b : Int), .int .u8 (q.c : Int)] 72
  replace hbw := hbw.trans (hb2.mono hbw.size)
  clear hW c0 c1 c2 c3 c4 hvo x0 hb1 hb2
  have d0 := x4.cell 0 rfl; have d1 := x4.cell 1 rfl; have d2 := x4.cell 2 rfl; have d3 := x4.cell 3 rfl; have d4 := x4.cell 4 rfl; have d5 := x4.cell 5 rfl; have d6 := x4.cell 6 rfl; have d7 := x4.cell 7 rfl; have d8 := x4.cell 8 rfl; have d9 := x4.cell 9 rfl; have d10 := x4.cell 10 rfl
  go_upto_region 4 with fail
  obtain ⟨g, hg⟩ : ∃ g, g = W1.heap.size := ⟨_, rfl⟩
  try rw [← hg]
  rw [← hg] at x4
  clear hg hW2 d0 d1 d2 d3 d4 d5 d6 d7 d8 d9 d10
  obtain ⟨hwr, hwc, hbe, hbh⟩ := HB.out
  clear HB
  have hbd := (Below.refl W2.heap.size W2).drew
  have S0 := x4.below hbd
  have hb := hbw.trans (hbd.mono hbw.size)
  clear hbd x4 hbw
  refine wp_region_head 6 (fun w' => Bx w' g #[.slice ab X.bs.length cb, .slice ast X.st.length cs, .slice ae X.er.length ce, .slice ak X.ks.length ck, .int .i64 X.ch, .int .u8 (p.a : Int), .int .u8 (p.b : Int), .int .u8 (p.c : Int), .int .u8 (q.a : Int), .int .u8 (q.b : Int), .int .u8 (q.c : Int)] 72) (by kernel_rfl) rfl ?_
  generalize W2.drew = Y0 at *
  refine HeadAt.take (i := 0) (.agg #[.slice ab X.bs.length cb, .slice ast X.st.length cs, .slice ae X.er.length ce, .slice ak X.ks.length ck, .int .i64 X.ch, .int .u8 (p.a : Int), .int .u8 (p.b : Int), .int .u8 (p.c : Int), .int .u8 (q.a : Int), .int .u8 (q.b : Int), .int .u8 (q.c : Int)]) rfl (by kernel_rfl) (.inl ⟨rfl, fun w' z => ?_⟩) S0 ?_
  · (have z0 := z.cell 0 rfl; have z1 := z.cell 1 rfl; have z2 := z.cell 2 rfl; have z3 := z.cell 3 rfl; have z4 := z.cell 4 rfl; have z5 := z.cell 5 rfl; have z6 := z.cell 6 rfl; have z7 := z.cell 7 rfl; have z8 := z.cell 8 rfl; have z9 := z.cell 9 rfl; have z10 := z.cell 10 rfl; simp [go_sem, z0, z1, z2, z3, z4, z5, z6, z7, z8, z9, z10])
  refine HeadAt.take (i := 3) (.agg #[.slice ab X.bs.length cb, .slice ast X.st.length cs, .slice ae X.er.length ce, .slice ak X.ks.length ck, .int .i64 X.ch, .int .u8 (p.a : Int), .int .u8 (p.b : Int), .int .u8 (p.c : Int), .int .u8 (q.a : Int), .int .u8 (q.b : Int), .int .u8 (q.c : Int)]) rfl (by kernel_rfl) (.inl ⟨rfl, fun w' z => ?_⟩) S0 ?_
  · (have z0 := z.cell 0 rfl; have z1 := z.cell 1 rfl; have z2 := z.cell 2 rfl; have z3 := z.cell 3 rfl; have z4 := z.cell 4 rfl; have z5 := z.cell 5 rfl; have z6 := z.cell 6 rfl; have z7 := z.cell 7 rfl; have z8 := z.cell 8 rfl; have z9 := z.cell 9 rfl; have z10 := z.cell 10 rfl; simp [go_sem, z0, z1, z2, z3, z4, z5, z6, z7, z8, z9, z10])
  (try simp only [Act.put, List.getElem_toArray, List.getElem_cons_succ, List.getElem_cons_zero, List.setIfInBounds_toArray, List.set_cons_succ, List.set_cons_zero])
  refine HeadAt.one (i := 1) rfl (by kernel_rfl) ?_
  generalize hK : Upto _ _ = K0
  (try simp only [Act.put, List.getElem_toArray, List.getElem_cons_succ, List.getElem_cons_zero, List.setIfInBounds_toArray, List.set_cons_succ, List.set_cons_zero])
  go_wp2_with fail
  refine (hwc _).mono ?_
  rintro e V1 ⟨rfl, hb1⟩
  replace S0 := S0.below hb1
  replace hb := hb.trans (hb1.mono hb.size)
  clear hb1 hwc
  go_wp2_with fail
  subst hK
  refine ⟨S0, ?_⟩
  (try simp only [Act.put, List.getElem_toArray, List.getElem_cons_succ, List.getElem_cons_zero, List.setIfInBounds_toArray, List.set_cons_succ, List.set_cons_zero])
  refine HeadAt.one (i := 2) rfl (by kernel_rfl) ?_
  generalize hK : Upto _ _ = K0
  (try simp only [Act.put, List.getElem_toArray, List.getElem_cons_succ, List.getElem_cons_zero, List.setIfInBounds_toArray, List.set_cons_succ, List.set_cons_zero])
  go_wp2_with fail
  refine (hbh _ hb).mono ?_
  rintro e V2 ⟨rfl, hb1⟩
  replace S0 := S0.below hb1
  replace hb := hb.trans (hb1.mono hb.size)
  clear hb1 hbh
  go_wp2_with fail
  subst hK
  refine ⟨S0, ?_⟩
  (try simp only [Act.put, List.getElem_toArray, List.getElem_cons_succ, List.getElem_cons_zero, List.setIfInBounds_toArray, List.set_cons_succ, List.set_cons_zero])
  refine HeadAt.one (i := 4) rfl (by kernel_rfl) ?_
  generalize hK : Upto _ _ = K0
  (try simp only [Act.put, List.getElem_toArray, List.getElem_cons_succ, List.getElem_cons_zero, List.setIfInBounds_toArray, List.set_cons_succ, List.set_cons_zero])
  go_wp2_with fail
  refine (hbe _ hb).mono ?_
  rintro e V3 ⟨rfl, hb1⟩
  replace S0 := S0.below hb1
  replace hb := hb.trans (hb1.mono hb.size)
  clear hb1 hbe
  go_wp2_with fail
  subst hK
  refine ⟨S0, ?_⟩
  (try simp only [Act.put, List.getElem_toArray, List.getElem_cons_succ, List.getElem_cons_zero, List.setIfInBounds_toArray, List.set_cons_succ, List.set_cons_zero])
  refine HeadAt.take (i := 5) (.int .i64 (b1 - b0)) rfl (by kernel_rfl) (.inl ⟨rfl, fun _ _ => by simp [go_sem, hwr]⟩) S0 ?_
  refine HeadAt.done (by kernel_rfl) ?_
  (try simp only [Act.put, List.drop_succ_cons, List.drop_zero, List.getElem_toArray, List.getElem_cons_succ, List.getElem_cons_zero])
  clear S0
  go_wp2_with fail
  refine NoPanic.normal ?_
  go_wp2
  go_ret2
  exact ⟨rfl, hb⟩
end Go.Proofs.Ytipdohpbilabiaa
