import Derived.Test.YtipdohpbilabiaaD2
/-! Changes of a box, whether a box fits, whether there are copies. -/
namespace Go.Proofs.Ytipdohpbilabiaa
open Go.RowKit

theorem vv_now (ab ast ae ak : Option Addr) (cb cs ce nk ck : Nat) (V : Vz) {k : Nat} (hk : k < 3) : (#[.slice ab V.nb cb, .slice ast V.st.length cs, .slice ae V.er.length ce, .slice ak nk ck, .int .i64 V.ch, .int .u8 (V.now.a : Int), .int .u8 (V.now.b : Int), .int .u8 (V.now.c : Int), .int .u8 (V.stay.a : Int), .int .u8 (V.stay.b : Int), .int .u8 (V.stay.c : Int)] : Array Value)[5 + k]? = some (.int .u8 ((V.now.get k : Nat) : Int)) := by
  match k, hk with
  | 0, _ => rfl
  | 1, _ => rfl
  | 2, _ => rfl
theorem vv_stay (ab ast ae ak : Option Addr) (cb cs ce nk ck : Nat) (V : Vz) {k : Nat} (hk : k < 3) : (#[.slice ab V.nb cb, .slice ast V.st.length cs, .slice ae V.er.length ce, .slice ak nk ck, .int .i64 V.ch, .int .u8 (V.now.a : Int), .int .u8 (V.now.b : Int), .int .u8 (V.now.c : Int), .int .u8 (V.stay.a : Int), .int .u8 (V.stay.b : Int), .int .u8 (V.stay.c : Int)] : Array Value)[8 + k]? = some (.int .u8 ((V.stay.get k : Nat) : Int)) := by
  match k, hk with
  | 0, _ => rfl
  | 1, _ => rfl
  | 2, _ => rfl

theorem wpQuiet_skip {P : Program} {ops : Array Oper} {C : World → Prop} {Q : Act → Prop} {o : Oper} {rest : List Oper} {a : Act} (hw : Region.wanted o (yielded ops a.tmps) = false) (h : wpQuiet P ops C Q rest (a.put o.dst undef)) : wpQuiet P ops C Q (o :: rest) a := by
  unfold wpQuiet
  simp only [hw]
  exact h

/-- How many titles of a box are changed. -/
def chO (V : Vz) (p : Pl) (k : Nat) : Nat := cnt (wo (p.get k) (V.now.get k))
def fitB (V : Vz) (p : Pl) (k : Nat) : Bool := decide ((chO V p k : Int) ≤ V.ch) && (wo (V.stay.get k) (p.get k) == 0)
def hasI (V : Vz) (p : Pl) (i : Nat) : Bool := decide ((cop p i : Int) ≤ V.st.getD i 0 + (cop V.now i : Int))
def hasC (V : Vz) (p : Pl) : Bool := (List.range V.st.length).all (hasI V p)

set_option maxRecDepth 100000 in
set_option maxHeartbeats 2000000 in
theorem changesOf_any (ab ast ae ak : Option Addr) (cb cs ce nk ck : Nat) (V : Vz) (hV : VOk V) (p : Pl) (hp : p.ok 64) (k : Nat) (hk : k < 3) (w : World) : Calls Try.prog 90 #[.agg #[.slice ab V.nb cb, .slice ast V.st.length cs, .slice ae V.er.length ce, .slice ak nk ck, .int .i64 V.ch, .int .u8 (V.now.a : Int), .int .u8 (V.now.b : Int), .int .u8 (V.now.c : Int), .int .u8 (V.stay.a : Int), .int .u8 (V.stay.b : Int), .int .u8 (V.stay.c : Int)], .agg #[.int .u8 (p.a : Int), .int .u8 (p.b : Int), .int .u8 (p.c : Int)], .int .i64 (k : Int)] w fun e w' => e = .returned (.int .i64 ((chO V p k : Nat) : Int)) ∧ Below w.heap.size w w' := by
  obtain ⟨W, hW, hb, hs, x0, x1⟩ := boxes2 w #[.slice ab V.nb cb, .slice ast V.st.length cs, .slice ae V.er.length ce, .slice ak nk ck, .int .i64 V.ch, .int .u8 (V.now.a : Int), .int .u8 (V.now.b : Int), .int .u8 (V.now.c : Int), .int .u8 (V.stay.a : Int), .int .u8 (V.stay.b : Int), .int .u8 (V.stay.c : Int)] 72 #[.int .u8 (p.a : Int), .int .u8 (p.b : Int), .int .u8 (p.c : Int)] 70
  clear hs
  have hwt := fun v => without_any (p.get k) (V.now.get k) (hp.get k) (hV.now64.get k) v
  have hct := fun v => count_any (wo (p.get k) (V.now.get k)) (wo_dec _ (hp.get k) _ (hV.now64.get k)).2 v
  have u0 := Ext.cell (x1.cell k (pl_at p hk))
  have u1 := Ext.cell (x0.cell (5 + k) (vv_now ab ast ae ak cb cs ce nk ck V hk))
  have hkI : (k : Int) < 3 := by omega
  have hk0 : (0 : Int) ≤ (k : Int) := by omega
  unfold chO
  generalize p.get k = g at *
  generalize V.now.get k = g2 at *
  generalize wo g g2 = g3 at *
  clear x0 x1
  go_enter Try.func90, Try.ntmps90
  go_upto_region 1 with fail
  refine wp_region_ext_lit (by kernel_rfl) (by kernel_rfl) ?_
  repeat (quiet_step (first | (go_at_call 91; exact quiet_ext ((hwt _).mono (fun e w' h => ⟨h.1, Below.of_eq h.2⟩))) | (go_at_call 95; exact quiet_ext ((hct _).mono (fun e w' h => ⟨h.1, Below.of_eq h.2⟩)))))
  refine wpQuiet_nil ?_
  intro _ hw'
  obtain ⟨t, rfl⟩ := hw'
  go_wp2
  go_ret
  exact ⟨rfl, hb.trans (t.below.mono hb.size)⟩

set_option maxRecDepth 100000 in
set_option maxHeartbeats 2000000 in
theorem fitsBox_any (ab ast ae ak : Option Addr) (cb cs ce nk ck : Nat) (V : Vz) (hV : VOk V) (p : Pl) (hp : p.ok 64) (k : Nat) (hk : k < 3) (w : World) : Calls Try.prog 81 #[.agg #[.slice ab V.nb cb, .slice ast V.st.length cs, .slice ae V.er.length ce, .slice ak nk ck, .int .i64 V.ch, .int .u8 (V.now.a : Int), .int .u8 (V.now.b : Int), .int .u8 (V.now.c : Int), .int .u8 (V.stay.a : Int), .int .u8 (V.stay.b : Int), .int .u8 (V.stay.c : Int)], .agg #[.int .u8 (p.a : Int), .int .u8 (p.b : Int), .int .u8 (p.c : Int)], .int .i64 (k : Int)] w fun e w' => e = .returned (.bool (fitB V p k)) ∧ Below w.heap.size w w' := by
  obtain ⟨W, hW, hb, hs, x0, x1⟩ := boxes2 w #[.slice ab V.nb cb, .slice ast V.st.length cs, .slice ae V.er.length ce, .slice ak nk ck, .int .i64 V.ch, .int .u8 (V.now.a : Int), .int .u8 (V.now.b : Int), .int .u8 (V.now.c : Int), .int .u8 (V.stay.a : Int), .int .u8 (V.stay.b : Int), .int .u8 (V.stay.c : Int)] 72 #[.int .u8 (p.a : Int), .int .u8 (p.b : Int), .int .u8 (p.c : Int)] 70
  clear hs
  have hch := fun v => changesOf_any ab ast ae ak cb cs ce nk ck V hV p hp k hk v
  have hwt := fun v => without_any (V.stay.get k) (p.get k) (hV.stay64.get k) (hp.get k) v
  have u0 := Ext.cell (x1.cell k (pl_at p hk))
  have u1 := Ext.cell (x0.cell (8 + k) (vv_stay ab ast ae ak cb cs ce nk ck V hk))
  have hkI : (k : Int) < 3 := by omega
  have hk0 : (0 : Int) ≤ (k : Int) := by omega
  have hc0 := hV.ch0
  have h8 := Ext.cell (x0.cell 4 (v := .int .i64 V.ch) rfl)
  have a0 := x0.ext 0 rfl; have a1 := x0.ext 1 rfl; have a2 := x0.ext 2 rfl; have a3 := x0.ext 3 rfl; have a4 := x0.ext 4 rfl; have a5 := x0.ext 5 rfl; have a6 := x0.ext 6 rfl; have a7 := x0.ext 7 rfl; have a8 := x0.ext 8 rfl; have a9 := x0.ext 9 rfl; have a10 := x0.ext 10 rfl; 
  have b0 := x1.ext 0 rfl; have b1 := x1.ext 1 rfl; have b2 := x1.ext 2 rfl; 
  have hcl : ((chO V p k : Nat) : Int) ≤ 6 := by have := cnt_le (wo (p.get k) (V.now.get k)); unfold chO; omega
  cases hle : decide ((chO V p k : Int) ≤ V.ch)
  · have hf : fitB V p k = false := by unfold fitB; rw [hle]; rfl
    rw [hf]
    have hlt : V.ch < ((chO V p k : Nat) : Int) := by have := of_decide_eq_false hle; omega
    clear hf u0 u1 hwt
    generalize chO V p k = q at *
    go_enter Try.func81, Try.ntmps81
    go_upto_region 1 with fail
    refine wp_region_head 19 (fun w' => Bx w' w.heap.size #[.slice ab V.nb cb, .slice ast V.st.length cs, .slice ae V.er.length ce, .slice ak nk ck, .int .i64 V.ch, .int .u8 (V.now.a : Int), .int .u8 (V.now.b : Int), .int .u8 (V.now.c : Int), .int .u8 (V.stay.a : Int), .int .u8 (V.stay.b : Int), .int .u8 (V.stay.c : Int)] 72 ∧ Bx w' (w.heap.size + 1) #[.int .u8 (p.a : Int), .int .u8 (p.b : Int), .int .u8 (p.c : Int)] 70) (by kernel_rfl) rfl ?_
    have hbd := (Below.refl W.heap.size W).drew
    have S0 := And.intro (x0.below hbd) (x1.below hbd)
    replace hb := hb.trans (hbd.mono hb.size)
    have hdec : decide (((q : Nat) : Int) ≤ V.ch) = false := hle
    clear hle a0 a1 a2 a3 a4 a5 a6 a7 a8 a9 a10 b0 b1 b2 h8 hbd x0 x1
    generalize W.drew = Y0 at *
    refine HeadAt.take (i := 0) (.agg #[.slice ab V.nb cb, .slice ast V.st.length cs, .slice ae V.er.length ce, .slice ak nk ck, .int .i64 V.ch, .int .u8 (V.now.a : Int), .int .u8 (V.now.b : Int), .int .u8 (V.now.c : Int), .int .u8 (V.stay.a : Int), .int .u8 (V.stay.b : Int), .int .u8 (V.stay.c : Int)]) rfl (by kernel_rfl) (.inl ⟨rfl, fun w' z => ?_⟩) S0 ?_
    · (have z0 := z.1.cell 0 rfl; have z1 := z.1.cell 1 rfl; have z2 := z.1.cell 2 rfl; have z3 := z.1.cell 3 rfl; have z4 := z.1.cell 4 rfl; have z5 := z.1.cell 5 rfl; have z6 := z.1.cell 6 rfl; have z7 := z.1.cell 7 rfl; have z8 := z.1.cell 8 rfl; have z9 := z.1.cell 9 rfl; have z10 := z.1.cell 10 rfl; simp [go_sem, z0, z1, z2, z3, z4, z5, z6, z7, z8, z9, z10])
    refine HeadAt.take (i := 1) (.agg #[.int .u8 (p.a : Int), .int .u8 (p.b : Int), .int .u8 (p.c : Int)]) rfl (by kernel_rfl) (.inl ⟨rfl, fun w' z => ?_⟩) S0 ?_
    · (have z0 := z.2.cell 0 rfl; have z1 := z.2.cell 1 rfl; have z2 := z.2.cell 2 rfl; simp [go_sem, z0, z1, z2])
    refine HeadAt.take (i := 2) (.int .i64 (k : Int)) rfl (by kernel_rfl) (.inl ⟨rfl, fun _ _ => by simp [go_sem]⟩) S0 ?_
    refine HeadAt.take (i := 4) (.pointer (some ⟨w.heap.size, 0, none⟩)) rfl (by kernel_rfl) (.inl ⟨rfl, fun _ _ => by simp [go_sem]⟩) S0 ?_
    (try simp only [Act.put, List.getElem_toArray, List.getElem_cons_succ, List.getElem_cons_zero, List.setIfInBounds_toArray, List.set_cons_succ, List.set_cons_zero])
    refine HeadAt.take (i := 5) (.pointer (some ⟨w.heap.size, 4, none⟩)) rfl (by kernel_rfl) (.inl ⟨rfl, fun _ _ => by simp [go_sem]⟩) S0 ?_
    (try simp only [Act.put, List.getElem_toArray, List.getElem_cons_succ, List.getElem_cons_zero, List.setIfInBounds_toArray, List.set_cons_succ, List.set_cons_zero])
    refine HeadAt.take (i := 6) (.int .i64 V.ch) rfl (by kernel_rfl) (.inl ⟨rfl, fun w' z => ?_⟩) S0 ?_
    · (have z4 := z.1.cell 4 rfl; simp [go_sem, z4])
    refine HeadAt.one (i := 3) rfl (by kernel_rfl) ?_
    generalize hK : Upto _ _ = K0
    (try simp only [Act.put, List.getElem_toArray, List.getElem_cons_succ, List.getElem_cons_zero, List.setIfInBounds_toArray, List.set_cons_succ, List.set_cons_zero])
    go_wp2_with fail
    refine (hch _).mono ?_
    rintro e V1 ⟨rfl, hb1⟩
    replace S0 := And.intro (S0.1.below hb1) (S0.2.below hb1)
    replace hb := hb.trans (hb1.mono hb.size)
    go_wp2_with fail
    subst hK
    refine ⟨S0, ?_⟩
    (try simp only [Act.put, List.getElem_toArray, List.getElem_cons_succ, List.getElem_cons_zero, List.setIfInBounds_toArray, List.set_cons_succ, List.set_cons_zero])
    refine HeadAt.take (i := 7) (.bool false) rfl (by kernel_rfl) (.inl ⟨rfl, fun w' z => ?_⟩) S0 ?_
    · (simp [go_sem]; exact hlt)
    (try simp only [Act.put, List.getElem_toArray, List.getElem_cons_succ, List.getElem_cons_zero, List.setIfInBounds_toArray, List.set_cons_succ, List.set_cons_zero])
    refine HeadAt.take (i := 8) (.bool false) rfl (by kernel_rfl) (.inl ⟨rfl, fun _ _ => by simp [go_sem]⟩) S0 ?_
    (try simp only [Act.put, List.getElem_toArray, List.getElem_cons_succ, List.getElem_cons_zero, List.setIfInBounds_toArray, List.set_cons_succ, List.set_cons_zero])
    refine HeadAt.take (i := 9) undef rfl (by kernel_rfl) (.inr ⟨by kernel_rfl, rfl⟩) S0 ?_
    (try simp only [Act.put, List.getElem_toArray, List.getElem_cons_succ, List.getElem_cons_zero, List.setIfInBounds_toArray, List.set_cons_succ, List.set_cons_zero])
    refine HeadAt.take (i := 10) undef rfl (by kernel_rfl) (.inr ⟨by kernel_rfl, rfl⟩) S0 ?_
    (try simp only [Act.put, List.getElem_toArray, List.getElem_cons_succ, List.getElem_cons_zero, List.setIfInBounds_toArray, List.set_cons_succ, List.set_cons_zero])
    refine HeadAt.take (i := 11) undef rfl (by kernel_rfl) (.inr ⟨by kernel_rfl, rfl⟩) S0 ?_
    (try simp only [Act.put, List.getElem_toArray, List.getElem_cons_succ, List.getElem_cons_zero, List.setIfInBounds_toArray, List.set_cons_succ, List.set_cons_zero])
    refine HeadAt.take (i := 12) undef rfl (by kernel_rfl) (.inr ⟨by kernel_rfl, rfl⟩) S0 ?_
    (try simp only [Act.put, List.getElem_toArray, List.getElem_cons_succ, List.getElem_cons_zero, List.setIfInBounds_toArray, List.set_cons_succ, List.set_cons_zero])
    refine HeadAt.take (i := 13) undef rfl (by kernel_rfl) (.inr ⟨by kernel_rfl, rfl⟩) S0 ?_
    (try simp only [Act.put, List.getElem_toArray, List.getElem_cons_succ, List.getElem_cons_zero, List.setIfInBounds_toArray, List.set_cons_succ, List.set_cons_zero])
    refine HeadAt.take (i := 14) undef rfl (by kernel_rfl) (.inr ⟨by kernel_rfl, rfl⟩) S0 ?_
    (try simp only [Act.put, List.getElem_toArray, List.getElem_cons_succ, List.getElem_cons_zero, List.setIfInBounds_toArray, List.set_cons_succ, List.set_cons_zero])
    refine HeadAt.take (i := 15) undef rfl (by kernel_rfl) (.inr ⟨by kernel_rfl, rfl⟩) S0 ?_
    (try simp only [Act.put, List.getElem_toArray, List.getElem_cons_succ, List.getElem_cons_zero, List.setIfInBounds_toArray, List.set_cons_succ, List.set_cons_zero])
    refine HeadAt.take (i := 16) undef rfl (by kernel_rfl) (.inr ⟨by kernel_rfl, rfl⟩) S0 ?_
    (try simp only [Act.put, List.getElem_toArray, List.getElem_cons_succ, List.getElem_cons_zero, List.setIfInBounds_toArray, List.set_cons_succ, List.set_cons_zero])
    refine HeadAt.take (i := 17) undef rfl (by kernel_rfl) (.inr ⟨by kernel_rfl, rfl⟩) S0 ?_
    (try simp only [Act.put, List.getElem_toArray, List.getElem_cons_succ, List.getElem_cons_zero, List.setIfInBounds_toArray, List.set_cons_succ, List.set_cons_zero])
    
    refine HeadAt.take (i := 18) (.bool false) rfl (by kernel_rfl) (.inl ⟨rfl, fun _ _ => by simp [go_sem]⟩) S0 ?_
    refine HeadAt.done (by kernel_rfl) ?_
    (try simp only [Act.put, List.drop_succ_cons, List.drop_zero, List.getElem_toArray, List.getElem_cons_succ, List.getElem_cons_zero])
    go_wp2_with fail
    refine NoPanic.normal ?_
    go_wp2
    go_ret
    exact ⟨rfl, hb⟩
  · have hf : fitB V p k = (wo (V.stay.get k) (p.get k) == 0) := by unfold fitB; rw [hle]; rfl
    rw [hf]
    have hlt : ((chO V p k : Nat) : Int) ≤ V.ch := of_decide_eq_true hle
    clear hf hle x0 x1
    generalize chO V p k = q at *
    generalize V.stay.get k = g1 at *
    generalize p.get k = g2 at *
    generalize wo g1 g2 = g3 at *
    have hz : (((g3 : Nat) : Int) == 0) = (g3 == 0) := by rw [Bool.eq_iff_iff]; simp
    go_enter Try.func81, Try.ntmps81
    go_upto_region 1 with fail
    refine wp_region_ext_lit (by kernel_rfl) (by kernel_rfl) ?_
    repeat (quiet_step (first | (go_at_call 90; exact quiet_ext (hch _)) | (go_at_call 91; exact quiet_ext ((hwt _).mono (fun e w' h => ⟨h.1, Below.of_eq h.2⟩)))))
    refine wpQuiet_nil ?_
    intro _ hw'
    obtain ⟨t, rfl⟩ := hw'
    go_wp2
    go_ret
    exact ⟨rfl, hb.trans (t.below.mono hb.size)⟩

theorem all_range_succ (f : Nat → Bool) (k : Nat) : (List.range (k + 1)).all f = ((List.range k).all f && f k) := by
  rw [List.range_succ, List.all_append]; simp
theorem all_range_no (f : Nat → Bool) {k n : Nat} (hk : k < n) (h : f k = false) : (List.range n).all f = false := by
  rw [Bool.eq_false_iff]
  intro e
  have := List.all_eq_true.1 e k (by simp; omega)
  rw [h] at this; cases this

set_option maxRecDepth 100000 in
set_option maxHeartbeats 3000000 in
theorem hasCopies_any (ab ast ae ak : Option Addr) (cb cs ce nk ck : Nat) (V : Vz) (hV : VOk V) (p : Pl) (hp : p.ok 64) (w : World) (hR : Ints w ast V.st) : Calls Try.prog 82 #[.agg #[.slice ab V.nb cb, .slice ast V.st.length cs, .slice ae V.er.length ce, .slice ak nk ck, .int .i64 V.ch, .int .u8 (V.now.a : Int), .int .u8 (V.now.b : Int), .int .u8 (V.now.c : Int), .int .u8 (V.stay.a : Int), .int .u8 (V.stay.b : Int), .int .u8 (V.stay.c : Int)], .agg #[.int .u8 (p.a : Int), .int .u8 (p.b : Int), .int .u8 (p.c : Int)]] w fun e w' => e = .returned (.bool (hasC V p)) ∧ Below w.heap.size w w' := by
  have hcp := fun i (hi : i < 6) v => copies_any p hp i hi v
  have hcn := fun i (hi : i < 6) v => copies_any V.now hV.now64 i hi v
  have H6 := hid hV.t6; have HS := hid hV.st0
  have hle : ∀ (q : Pl) i, cop q i ≤ 3 := fun q i => copK_le q i 3
  obtain ⟨W, hW, hb, hs, x0, x1⟩ := boxes2 w #[.slice ab V.nb cb, .slice ast V.st.length cs, .slice ae V.er.length ce, .slice ak nk ck, .int .i64 V.ch, .int .u8 (V.now.a : Int), .int .u8 (V.now.b : Int), .int .u8 (V.now.c : Int), .int .u8 (V.stay.a : Int), .int .u8 (V.stay.b : Int), .int .u8 (V.stay.c : Int)] 72 #[.int .u8 (p.a : Int), .int .u8 (p.b : Int), .int .u8 (p.c : Int)] 70
  clear hs
  have hI := hR.below hb (Nat.le_refl _)
  have c0 := x0.cell 0 rfl; have c1 := x0.cell 1 rfl; have c2 := x0.cell 2 rfl; have c3 := x0.cell 3 rfl; have c4 := x0.cell 4 rfl; have c5 := x0.cell 5 rfl; have c6 := x0.cell 6 rfl; have c7 := x0.cell 7 rfl; have c8 := x0.cell 8 rfl; have c9 := x0.cell 9 rfl; have c10 := x0.cell 10 rfl; have d0 := x1.cell 0 rfl; have d1 := x1.cell 1 rfl; have d2 := x1.cell 2 rfl
  obtain ⟨n, hn⟩ : ∃ n, n = V.st.length := ⟨_, rfl⟩
  have HN := hid hn
  have hn6 : n ≤ 6 := by rw [hn]; exact hV.t6
  have hnI : (n : Int) ≤ 6 := by omega
  obtain ⟨st, hst⟩ : ∃ st, st = V.st := ⟨_, rfl⟩
  have HT := hid hst
  have hfs : hasC V p = (List.range n).all (hasI V p) := by unfold hasC; rw [hn]
  rw [hfs]
  rw [← hn] at x0 c1 hW ⊢
  rw [← hst] at hI
  clear hn hst hfs hV hR
  go_enter Try.func82, Try.ntmps82
  go_wp2
  clear hW c0 c1 c2 c3 c4 c5 c6 c7 c8 c9 c10 d0 d1 d2
  go_loopw [5, 6, 11] (fun v5 v6 v11 wr => ∃ k : Nat, k ≤ n ∧ v11 = .int .i64 (k : Int) ∧ Hid ((List.range k).all (hasI V p) = true) ∧ Below W.heap.size W wr) (fun _ _ v11 _ => n - (intOf v11).toNat)
  case atStart => exact ⟨0, Nat.zero_le _, rfl, hid rfl, Below.refl _ _⟩
  case round =>
    obtain ⟨k, hk, rfl, HA, hb1⟩ := hrel
    by_cases hlt : k < n
    · have hIr := hI.below hb1 (Nat.le_refl _)
      obtain ⟨b, off, x, rfl, hbl, hc, hx1, hx2, hg, _⟩ := hIr.at (k := k) (by rw [HT.out, ← HN.out]; exact hlt)
      have hx := HS.out x (by rw [← HT.out]; exact List.mem_of_getElem? hg.out)
      have hxd : V.st.getD k 0 = x := by rw [← HT.out, List.getD_eq_getElem?_getD, hg.out]; rfl
      have hck := fun v => hcp k (by omega) v
      have hnk := fun v => hcn k (by omega) v
      have l1 := hle p k
      have l2 := hle V.now k
      have hio : hasI V p k = decide ((cop p k : Int) ≤ x + (cop V.now k : Int)) := by unfold hasI; rw [hxd]
      obtain ⟨q1, hq1⟩ : ∃ q, q = cop p k := ⟨_, rfl⟩
      obtain ⟨q2, hq2⟩ : ∃ q, q = cop V.now k := ⟨_, rfl⟩
      rw [← hq1] at hck l1 hio
      rw [← hq2] at hnk l2 hio
      have HO := hid hio
      have hkI : (k : Int) < n := by omega
      have hk0 : (0 : Int) ≤ (k : Int) := by omega
      have ew : IntKind.i64.wrap (x + (q2 : Int)) = x + (q2 : Int) := IntWalk.i64_in _ (by omega)
      have x0r := x0.below hb1
      have x1r := x1.below hb1
      have hbr := hb.trans (hb1.mono hb.size)
      clear hq1 hq2 hio hxd hle hcp hcn hIr hg hI
      go_upto_region 4 with fail
      have u0 := x0r.ext 5 rfl; have u1 := x0r.ext 6 rfl; have u2 := x0r.ext 7 rfl
      have t0 := x1r.ext 0 rfl; have t1 := x1r.ext 1 rfl; have t2 := x1r.ext 2 rfl
      refine wp_region_ext_lit (by kernel_rfl) (by kernel_rfl) ?_
      iterate 3 (quiet_step (first | (go_at_call 92; exact quiet_ext (hck _))))
      repeat (quiet_step (first | (go_at_call 92; exact quiet_ext (hnk _))))
      refine wpQuiet_nil ?_
      intro _ hw'
      obtain ⟨t, rfl⟩ := hw'
      replace hb1 := hb1.trans (t.below.mono hb1.size)
      replace hbr := hbr.trans (t.below.mono hbr.size)
      clear u0 u1 u2 t0 t1 t2 x0r x1r hc hbl
      generalize t.w = W2 at *
      by_cases hgt : x + (q2 : Int) < (q1 : Int)
      · have HF := hid (all_range_no (hasI V p) hlt (by rw [HO.out]; exact decide_eq_false (by omega)))
        go_wp2
        go_ret
        exact ⟨ret_bool (by rw [HF.out]), hbr⟩
      · have HF := hid (show (List.range (k + 1)).all (hasI V p) = true by rw [all_range_succ, HA.out, HO.out, decide_eq_true (by omega)]; rfl)
        have hgt' : (q1 : Int) ≤ x + (q2 : Int) := by omega
        go_wp2
        go_roundw
        case rel => exact ⟨k + 1, by omega, by simp, HF, hb1⟩
        case measure => simp [intOf]; omega
    · obtain rfl : k = n := by omega
      have hA := HA.out
      go_wp2
      go_ret
      exact ⟨ret_bool (by rw [hA]), hb.trans (hb1.mono hb.size)⟩
end Go.Proofs.Ytipdohpbilabiaa
