import Derived.Test.YteianfbdhakhpaaTD
/-! Real, Sparks, Asked. -/
namespace Go.Proofs.Yteianfbdhakhpaa
set_option linter.unusedSimpArgs false
set_option linter.unusedVariables false
open Go Go.RowKit

def cntK (rs : List Rd) (k : Nat) : Nat := cntR (fun r => inL (k : Int) r.1) rs
def soL (f : Nat → Nat → Bool) (rs : List Rd) (k : Nat) : List Int := ((List.range k).filter (fun i => f (cntK rs i) rs.length)).map (fun (i : Nat) => (i : Int))
theorem soL_succ (f : Nat → Nat → Bool) (rs : List Rd) (k : Nat) : soL f rs (k + 1) = if f (cntK rs k) rs.length = true then soL f rs k ++ [(k : Int)] else soL f rs k := by
  unfold soL
  rw [List.range_succ, List.filter_append, List.map_append]
  cases h : f (cntK rs k) rs.length <;> simp [h]
theorem soL_len (f : Nat → Nat → Bool) (rs : List Rd) (k : Nat) : (soL f rs k).length ≤ k := by
  unfold soL
  rw [List.length_map]
  exact Nat.le_trans (List.length_filter_le _ _) (by simp)
theorem soL_rng (f : Nat → Nat → Bool) (rs : List Rd) (k : Nat) : ∀ x ∈ soL f rs k, 0 ≤ x ∧ x < (k : Int) := fun x hx => by
  simp only [soL, List.mem_map, List.mem_filter, List.mem_range] at hx
  obtain ⟨i, ⟨h, _⟩, rfl⟩ := hx
  omega
def reB (a _b : Nat) : Bool := decide (a = 0)
def spB (a b : Nat) : Bool := decide (a = b)
def soX (f : Nat → Nat → Bool) (X : Pu) : List Int := if erX X true = 0 then soL f (RS X) X.ts.length else []
set_option maxRecDepth 100000 in
set_option maxHeartbeats 1000000 in
theorem Real1_any (a b : Nat) (w : World) : Calls Try.prog 71 #[.int .i64 (a : Int), .int .i64 (b : Int)] w fun e w' => e = .returned (.bool (reB a b)) ∧ w = w' := by
  have HE := hid (show ((a : Int) == 0) = reB a b by
    unfold reB
    by_cases h : a = 0
    · simp [h]
    · rw [decide_eq_false h, beq_eq_false_iff_ne]; omega)
  go_enter Try.func71, Try.ntmps71
  go_wp2
  go_ret
  exact ⟨ret_bool HE.out, rfl⟩
set_option maxRecDepth 100000 in
set_option maxHeartbeats 1000000 in
theorem Sparks1_any (a b : Nat) (w : World) : Calls Try.prog 73 #[.int .i64 (a : Int), .int .i64 (b : Int)] w fun e w' => e = .returned (.bool (spB a b)) ∧ w = w' := by
  have HE := hid (show ((a : Int) == (b : Int)) = spB a b by
    unfold spB
    by_cases h : a = b
    · simp [h]
    · rw [decide_eq_false h, beq_eq_false_iff_ne]; omega)
  go_enter Try.func73, Try.ntmps73
  go_wp2
  go_ret
  exact ⟨ret_bool HE.out, rfl⟩

set_option maxRecDepth 100000 in
set_option maxHeartbeats 4000000 in
theorem RealC_any (aT : Option Addr) (cT : Nat) (X : Pu) (w : World) (hX : Ints w aT X.ts) : Calls Try.prog 70 #[.agg #[.int .i64 X.l, .int .i64 X.n, .int .i64 X.pi, .int .i64 X.sl, .int .i64 X.ga, .int .i64 X.pa, .int .i64 X.sp, .slice aT X.ts.length cT], .func (.func 71) #[] #[]] w (ReP (erX X true) (soX reB X) w) := by
  obtain ⟨W, hW, hb, _, x0⟩ := boxes1 w #[.int .i64 X.l, .int .i64 X.n, .int .i64 X.pi, .int .i64 X.sl, .int .i64 X.ga, .int .i64 X.pa, .int .i64 X.sp, .slice aT X.ts.length cT] 24
  have hk1 := ask_bad aT cT X true W (hX.below hb (Nat.le_refl _))
  have hk2 := ask_ok aT cT X true W (hX.below hb (Nat.le_refl _))
  have hz := fun h => erO_zero (X := X) (o := true) h
  have hln := fun h => erO_len (X := X) h
  have e1 : erO (chkE X true) (rdL X X.sp.toNat) = erX X true := rfl
  have e2 : rdL X X.sp.toNat = RS X := rfl
  rw [e1] at hk1 hk2 hz
  rw [e2] at hk2 hz hln
  have HL := hid (show soX reB X = if erX X true = 0 then soL reB (RS X) X.ts.length else [] from rfl)
  generalize soX reB X = L at *
  generalize erX X true = er at *
  by_cases he : er = 0
  rotate_left
  · skip
    have hc := hk1 he
    have HR2 := hid (show L = [] by rw [HL.out, if_neg he])
    have hne : (er != 0) = true := by rw [bne_iff_ne]; exact he
    generalize X.ts.length = n at *
    clear hk1 hk2 HL he hz hln e1 e2
    have c0 := x0.cell 0 rfl; have c1 := x0.cell 1 rfl; have c2 := x0.cell 2 rfl; have c3 := x0.cell 3 rfl; have c4 := x0.cell 4 rfl; have c5 := x0.cell 5 rfl; have c6 := x0.cell 6 rfl; have c7 := x0.cell 7 rfl
    go_enter Try.func70, Try.ntmps70
    go_wp2_with fail
    refine hc.mono ?_
    rintro e V ⟨rfl, hb1⟩
    replace hb := hb.trans (hb1.mono hb.size)
    clear hb1 hc hW c0 c1 c2 c3 c4 c5 c6 c7 x0
    go_wp2
    go_ret2
    exact ⟨hb, none, 0, by rw [HR2.out]; rfl, by rw [HR2.out]; exact Iz.none_ _ _⟩
  obtain ⟨hv, -, hne⟩ := hz he
  have hl := hln hv
  have hc := hk2 he
  have HL2 := hid (show L = soL reB (RS X) X.ts.length by rw [HL.out, if_pos he])
  have h24 : X.ts.length ≤ 24 := (timesB_rng (vB_ok hv).2.2).1
  have HER := hid he
  obtain ⟨rs, hrs⟩ : ∃ rs, rs = RS X := ⟨_, rfl⟩
  rw [← hrs] at hc hl HL2
  obtain ⟨N, hN⟩ : ∃ N, N = rs.length := ⟨_, rfl⟩
  rw [← hN] at hc hl
  have HN := hid hN
  obtain ⟨n, hn⟩ : ∃ n, n = X.ts.length := ⟨_, rfl⟩
  rw [← hn] at x0 hW HL2 h24 hc ⊢
  have hbw := hb.size
  have hee : ((0 : Int) != 0) = false := by simp
  obtain ⟨j0, hj0, jz0, jz1, jz2⟩ := info_parts info3i
  have hso := fun a b V => Real1_any a b V
  have HSS := hid (show ∀ k, soL reB rs (k + 1) = if reB (cntK rs k) rs.length = true then soL reB rs k ++ [(k : Int)] else soL reB rs k from fun k => soL_succ reB rs k)
  have HSL := hid (show ∀ k, (soL reB rs k).length ≤ k from fun k => soL_len reB rs k)
  have HSR := hid (show ∀ k, ∀ x ∈ soL reB rs k, 0 ≤ x ∧ x < (k : Int) from fun k => soL_rng reB rs k)
  have H00 := hid (show soL reB rs 0 = [] from rfl)
  rw [← hN] at HSS
  clear hk1 hk2 HL he hz hln e1 e2 hv hne hrs hN hX hn
  generalize soL reB rs = SL at *
  have hnI : (n : Int) ≤ 24 := by omega
  have c0 := x0.cell 0 rfl; have c1 := x0.cell 1 rfl; have c2 := x0.cell 2 rfl; have c3 := x0.cell 3 rfl; have c4 := x0.cell 4 rfl; have c5 := x0.cell 5 rfl; have c6 := x0.cell 6 rfl; have c7 := x0.cell 7 rfl
  go_enter Try.func70, Try.ntmps70
  go_wp2_with fail
  refine hc.mono ?_
  rintro e V ⟨hb1, a, c, vs, rfl, hown, hrv⟩
  clear c0 c1 c2 c3 c4 c5 c6 c7
  replace x0 := x0.below hb1
  have c0 := x0.cell 0 rfl; have c1 := x0.cell 1 rfl; have c2 := x0.cell 2 rfl; have c3 := x0.cell 3 rfl; have c4 := x0.cell 4 rfl; have c5 := x0.cell 5 rfl; have c6 := x0.cell 6 rfl; have c7 := x0.cell 7 rfl
  replace hb := hb.trans (hb1.mono hb.size)
  have hR := Rds.of (rs := rs) (by rw [← HN.out]; exact hown) hrv
  have hcn := fun g f V h hf => count93_any g W.heap.size a c rs f V (by rw [← HN.out]; exact hl) h hf
  rw [← HN.out] at hcn
  clear hb1 hc hW hown hrv x0
  go_wp2_with fail
  clear c0 c1 c2 c3 c4 c5 c6 c7
  go_loopw [8, 9, 10, 22] (fun v8 v9 v10 v22 wr => ∃ (k p : Nat) (aa : Option Addr) (ca : Nat), k ≤ n ∧ v22 = .int .i64 (k : Int) ∧ v8 = .slice aa p ca ∧ p ≤ k ∧ Hid (p = (SL k).length) ∧ wr.ownsRow V.heap.size 3 1 (.slice aa p ca) p ((SL k).map (Value.int .i64)) ∧ Below V.heap.size V wr) (fun _ _ _ v22 _ => n - (intOf v22).toNat)
  case atStart => exact ⟨0, 0, none, 0, Nat.zero_le _, rfl, rfl, Nat.le_refl _, hid (by rw [H00.out]; rfl), by rw [H00.out]; exact World.ownsRow_nil _ _ _ _, Below.refl _ _⟩
  case round =>
    obtain ⟨k, p, aa, ca, hk, rfl, rfl, hpk, HP, hown, hbr⟩ := hrel
    by_cases hlt : k < n
    · have hkI : (k : Int) < n := by omega
      have hk0 : (0 : Int) ≤ (k : Int) := by omega
      have hba := below_one (w := wr) (.cells #[.int .i64 (k : Int)] 3)
      have y0 := Bx.new wr #[.int .i64 (k : Int)] 3
      have hbr2 := hbr.trans (hba.mono hbr.size)
      have hcall := hcn wr.heap.size (fun r => inL (k : Int) r.1) _ (hR.below hbr2) (fun V' r a1 c1 a2 c2 hb' _ hi1 _ => counted1_any wr.heap.size a1 a2 c1 c2 r.2.length (k : Int) r.1 V' hi1 (y0.below hb'))
      have hs := HSS.out k
      have ho2 := own_below2 hown hba
      have hst := fun V => hso (cntK rs k) N V
      unfold cntK at hst hs
      generalize cntR (fun r => inL (k : Int) r.1) rs = q at *
      have yc := y0.cell 0 rfl
      have HY := hid (And.intro y0 (And.intro hbr2 ho2))
      have hVs : V.heap.size ≤ wr.heap.size := hbr.size
      clear hown hbr y0 hba hbr2 ho2
      cases hf : reB q N with
      | false =>
        rw [hf] at hs hst
        have HS := hid (show SL (k + 1) = SL k by rw [hs]; rfl)
        clear hs hf
        go_wp2_with (first | (refine hcall.mono ?_; rintro e V2 ⟨rfl, hb2⟩; clear hcall) | (refine (hst _).mono ?_; rintro e V3 ⟨rfl, rfl⟩; clear hst))
        obtain ⟨y0, hbr2, ho2⟩ := HY.out
        replace hbr2 := hbr2.trans (hb2.mono hbr2.size)
        replace ho2 := own_below2 ho2 hb2
        clear HY y0 yc hb2
        go_roundw
        case rel => exact ⟨k + 1, p, aa, ca, by omega, by go_num, rfl, by omega, hid (by rw [HS.out]; exact HP.out), by rw [HS.out]; exact ho2, hbr2⟩
        case measure => simp [intOf]; omega
      | true =>
        rw [hf] at hs hst
        have HS := hid (show SL (k + 1) = SL k ++ [(k : Int)] by rw [hs]; rfl)
        clear hs hf
        go_wp2_with (first
          | (refine hcall.mono ?_; rintro e V2 ⟨rfl, hb2⟩; clear hcall
             obtain ⟨y0, hbr2, ho2⟩ := HY.out; replace y0 := y0.below hb2; replace hbr2 := hbr2.trans (hb2.mono hbr2.size); replace ho2 := own_below2 ho2 hb2; clear HY yc hb2; have yc := y0.cell 0 rfl; have hV2 := hbr2.size)
          | (refine (hst _).mono ?_; rintro e V3 ⟨rfl, rfl⟩; clear hst)
          | (at_builtin; go_loud (refine wpList_append_own _ rfl _ _ 22 rfl V.heap.size 3 j0 (.int .i64 0) 1 8 under22 hj0 jz0 jz1 jz2 rfl (by decide) (.slice aa p ca) p _ rfl (ho2.alloc _) ⟨V2.heap.size, 0, none⟩ 1 1 [.int .i64 (k : Int)] rfl rfl (cell_one_new _ _ _) (ints_oneCell .i64 [(k : Int)]) (by unfold maxLen; omega) (by omega) (by simp; omega) ?_); intro v9 W9 hrow9 hg9 _))
        obtain ⟨a9, c9, rfl⟩ := own_slice2 hrow9
        have hbr3 : Below V.heap.size V W9 := (hbr2.trans ((below_one (w := V2) (.cells #[.int .i64 (k : Int)] 3)).mono hbr2.size)).grown hg9 (by simp; omega) (own_ge ho2)
        have hrow10 : W9.ownsRow V.heap.size 3 1 (.slice a9 (p + 1) c9) (p + 1) ((SL k ++ [(k : Int)]).map (Value.int .i64)) := by simpa using hrow9
        clear hrow9 hg9 ho2 hbr2 y0 yc
        go_wp2
        go_roundw
        case rel => exact ⟨k + 1, p + 1, a9, c9, by omega, by go_num, rfl, by omega, hid (by rw [HS.out, HP.out]; simp), by rw [HS.out]; exact hrow10, hbr3⟩
        case measure => simp [intOf]; omega
    · have hkn : k = n := by omega
      rw [hkn] at hown HP
      have hz := own_nw hown HP.out (by have := HSL.out n; omega) (fun x hx => by have := HSR.out n x hx; omega)
      have hw := hb.trans (hbr.mono hb.size)
      have HZ := hid (show ReP er L w (.returned (.tuple #[.slice aa p ca, .int .i64 0])) wr from ⟨hw, aa, ca, by rw [HL2.out, HER.out, HP.out], by rw [HL2.out]; exact hz.1.mono hb.size⟩)
      clear hkn hz hw hown HP hbr
      go_wp2
      go_ret2
      exact HZ.out
set_option maxRecDepth 100000 in
set_option maxHeartbeats 4000000 in
theorem SparksC_any (aT : Option Addr) (cT : Nat) (X : Pu) (w : World) (hX : Ints w aT X.ts) : Calls Try.prog 70 #[.agg #[.int .i64 X.l, .int .i64 X.n, .int .i64 X.pi, .int .i64 X.sl, .int .i64 X.ga, .int .i64 X.pa, .int .i64 X.sp, .slice aT X.ts.length cT], .func (.func 73) #[] #[]] w (ReP (erX X true) (soX spB X) w) := by
  obtain ⟨W, hW, hb, _, x0⟩ := boxes1 w #[.int .i64 X.l, .int .i64 X.n, .int .i64 X.pi, .int .i64 X.sl, .int .i64 X.ga, .int .i64 X.pa, .int .i64 X.sp, .slice aT X.ts.length cT] 24
  have hk1 := ask_bad aT cT X true W (hX.below hb (Nat.le_refl _))
  have hk2 := ask_ok aT cT X true W (hX.below hb (Nat.le_refl _))
  have hz := fun h => erO_zero (X := X) (o := true) h
  have hln := fun h => erO_len (X := X) h
  have e1 : erO (chkE X true) (rdL X X.sp.toNat) = erX X true := rfl
  have e2 : rdL X X.sp.toNat = RS X := rfl
  rw [e1] at hk1 hk2 hz
  rw [e2] at hk2 hz hln
  have HL := hid (show soX spB X = if erX X true = 0 then soL spB (RS X) X.ts.length else [] from rfl)
  generalize soX spB X = L at *
  generalize erX X true = er at *
  by_cases he : er = 0
  rotate_left
  · skip
    have hc := hk1 he
    have HR2 := hid (show L = [] by rw [HL.out, if_neg he])
    have hne : (er != 0) = true := by rw [bne_iff_ne]; exact he
    generalize X.ts.length = n at *
    clear hk1 hk2 HL he hz hln e1 e2
    have c0 := x0.cell 0 rfl; have c1 := x0.cell 1 rfl; have c2 := x0.cell 2 rfl; have c3 := x0.cell 3 rfl; have c4 := x0.cell 4 rfl; have c5 := x0.cell 5 rfl; have c6 := x0.cell 6 rfl; have c7 := x0.cell 7 rfl
    go_enter Try.func70, Try.ntmps70
    go_wp2_with fail
    refine hc.mono ?_
    rintro e V ⟨rfl, hb1⟩
    replace hb := hb.trans (hb1.mono hb.size)
    clear hb1 hc hW c0 c1 c2 c3 c4 c5 c6 c7 x0
    go_wp2
    go_ret2
    exact ⟨hb, none, 0, by rw [HR2.out]; rfl, by rw [HR2.out]; exact Iz.none_ _ _⟩
  obtain ⟨hv, -, hne⟩ := hz he
  have hl := hln hv
  have hc := hk2 he
  have HL2 := hid (show L = soL spB (RS X) X.ts.length by rw [HL.out, if_pos he])
  have h24 : X.ts.length ≤ 24 := (timesB_rng (vB_ok hv).2.2).1
  have HER := hid he
  obtain ⟨rs, hrs⟩ : ∃ rs, rs = RS X := ⟨_, rfl⟩
  rw [← hrs] at hc hl HL2
  obtain ⟨N, hN⟩ : ∃ N, N = rs.length := ⟨_, rfl⟩
  rw [← hN] at hc hl
  have HN := hid hN
  obtain ⟨n, hn⟩ : ∃ n, n = X.ts.length := ⟨_, rfl⟩
  rw [← hn] at x0 hW HL2 h24 hc ⊢
  have hbw := hb.size
  have hee : ((0 : Int) != 0) = false := by simp
  obtain ⟨j0, hj0, jz0, jz1, jz2⟩ := info_parts info3i
  have hso := fun a b V => Sparks1_any a b V
  have HSS := hid (show ∀ k, soL spB rs (k + 1) = if spB (cntK rs k) rs.length = true then soL spB rs k ++ [(k : Int)] else soL spB rs k from fun k => soL_succ spB rs k)
  have HSL := hid (show ∀ k, (soL spB rs k).length ≤ k from fun k => soL_len spB rs k)
  have HSR := hid (show ∀ k, ∀ x ∈ soL spB rs k, 0 ≤ x ∧ x < (k : Int) from fun k => soL_rng spB rs k)
  have H00 := hid (show soL spB rs 0 = [] from rfl)
  rw [← hN] at HSS
  clear hk1 hk2 HL he hz hln e1 e2 hv hne hrs hN hX hn
  generalize soL spB rs = SL at *
  have hnI : (n : Int) ≤ 24 := by omega
  have c0 := x0.cell 0 rfl; have c1 := x0.cell 1 rfl; have c2 := x0.cell 2 rfl; have c3 := x0.cell 3 rfl; have c4 := x0.cell 4 rfl; have c5 := x0.cell 5 rfl; have c6 := x0.cell 6 rfl; have c7 := x0.cell 7 rfl
  go_enter Try.func70, Try.ntmps70
  go_wp2_with fail
  refine hc.mono ?_
  rintro e V ⟨hb1, a, c, vs, rfl, hown, hrv⟩
  clear c0 c1 c2 c3 c4 c5 c6 c7
  replace x0 := x0.below hb1
  have c0 := x0.cell 0 rfl; have c1 := x0.cell 1 rfl; have c2 := x0.cell 2 rfl; have c3 := x0.cell 3 rfl; have c4 := x0.cell 4 rfl; have c5 := x0.cell 5 rfl; have c6 := x0.cell 6 rfl; have c7 := x0.cell 7 rfl
  replace hb := hb.trans (hb1.mono hb.size)
  have hR := Rds.of (rs := rs) (by rw [← HN.out]; exact hown) hrv
  have hcn := fun g f V h hf => count93_any g W.heap.size a c rs f V (by rw [← HN.out]; exact hl) h hf
  rw [← HN.out] at hcn
  clear hb1 hc hW hown hrv x0
  go_wp2_with fail
  clear c0 c1 c2 c3 c4 c5 c6 c7
  go_loopw [8, 9, 10, 22] (fun v8 v9 v10 v22 wr => ∃ (k p : Nat) (aa : Option Addr) (ca : Nat), k ≤ n ∧ v22 = .int .i64 (k : Int) ∧ v8 = .slice aa p ca ∧ p ≤ k ∧ Hid (p = (SL k).length) ∧ wr.ownsRow V.heap.size 3 1 (.slice aa p ca) p ((SL k).map (Value.int .i64)) ∧ Below V.heap.size V wr) (fun _ _ _ v22 _ => n - (intOf v22).toNat)
  case atStart => exact ⟨0, 0, none, 0, Nat.zero_le _, rfl, rfl, Nat.le_refl _, hid (by rw [H00.out]; rfl), by rw [H00.out]; exact World.ownsRow_nil _ _ _ _, Below.refl _ _⟩
  case round =>
    obtain ⟨k, p, aa, ca, hk, rfl, rfl, hpk, HP, hown, hbr⟩ := hrel
    by_cases hlt : k < n
    · have hkI : (k : Int) < n := by omega
      have hk0 : (0 : Int) ≤ (k : Int) := by omega
      have hba := below_one (w := wr) (.cells #[.int .i64 (k : Int)] 3)
      have y0 := Bx.new wr #[.int .i64 (k : Int)] 3
      have hbr2 := hbr.trans (hba.mono hbr.size)
      have hcall := hcn wr.heap.size (fun r => inL (k : Int) r.1) _ (hR.below hbr2) (fun V' r a1 c1 a2 c2 hb' _ hi1 _ => counted1_any wr.heap.size a1 a2 c1 c2 r.2.length (k : Int) r.1 V' hi1 (y0.below hb'))
      have hs := HSS.out k
      have ho2 := own_below2 hown hba
      have hst := fun V => hso (cntK rs k) N V
      unfold cntK at hst hs
      generalize cntR (fun r => inL (k : Int) r.1) rs = q at *
      have yc := y0.cell 0 rfl
      have HY := hid (And.intro y0 (And.intro hbr2 ho2))
      have hVs : V.heap.size ≤ wr.heap.size := hbr.size
      clear hown hbr y0 hba hbr2 ho2
      cases hf : spB q N with
      | false =>
        rw [hf] at hs hst
        have HS := hid (show SL (k + 1) = SL k by rw [hs]; rfl)
        clear hs hf
        go_wp2_with (first | (refine hcall.mono ?_; rintro e V2 ⟨rfl, hb2⟩; clear hcall) | (refine (hst _).mono ?_; rintro e V3 ⟨rfl, rfl⟩; clear hst))
        obtain ⟨y0, hbr2, ho2⟩ := HY.out
        replace hbr2 := hbr2.trans (hb2.mono hbr2.size)
        replace ho2 := own_below2 ho2 hb2
        clear HY y0 yc hb2
        go_roundw
        case rel => exact ⟨k + 1, p, aa, ca, by omega, by go_num, rfl, by omega, hid (by rw [HS.out]; exact HP.out), by rw [HS.out]; exact ho2, hbr2⟩
        case measure => simp [intOf]; omega
      | true =>
        rw [hf] at hs hst
        have HS := hid (show SL (k + 1) = SL k ++ [(k : Int)] by rw [hs]; rfl)
        clear hs hf
        go_wp2_with (first
          | (refine hcall.mono ?_; rintro e V2 ⟨rfl, hb2⟩; clear hcall
             obtain ⟨y0, hbr2, ho2⟩ := HY.out; replace y0 := y0.below hb2; replace hbr2 := hbr2.trans (hb2.mono hbr2.size); replace ho2 := own_below2 ho2 hb2; clear HY yc hb2; have yc := y0.cell 0 rfl; have hV2 := hbr2.size)
          | (refine (hst _).mono ?_; rintro e V3 ⟨rfl, rfl⟩; clear hst)
          | (at_builtin; go_loud (refine wpList_append_own _ rfl _ _ 22 rfl V.heap.size 3 j0 (.int .i64 0) 1 8 under22 hj0 jz0 jz1 jz2 rfl (by decide) (.slice aa p ca) p _ rfl (ho2.alloc _) ⟨V2.heap.size, 0, none⟩ 1 1 [.int .i64 (k : Int)] rfl rfl (cell_one_new _ _ _) (ints_oneCell .i64 [(k : Int)]) (by unfold maxLen; omega) (by omega) (by simp; omega) ?_); intro v9 W9 hrow9 hg9 _))
        obtain ⟨a9, c9, rfl⟩ := own_slice2 hrow9
        have hbr3 : Below V.heap.size V W9 := (hbr2.trans ((below_one (w := V2) (.cells #[.int .i64 (k : Int)] 3)).mono hbr2.size)).grown hg9 (by simp; omega) (own_ge ho2)
        have hrow10 : W9.ownsRow V.heap.size 3 1 (.slice a9 (p + 1) c9) (p + 1) ((SL k ++ [(k : Int)]).map (Value.int .i64)) := by simpa using hrow9
        clear hrow9 hg9 ho2 hbr2 y0 yc
        go_wp2
        go_roundw
        case rel => exact ⟨k + 1, p + 1, a9, c9, by omega, by go_num, rfl, by omega, hid (by rw [HS.out, HP.out]; simp), by rw [HS.out]; exact hrow10, hbr3⟩
        case measure => simp [intOf]; omega
    · have hkn : k = n := by omega
      rw [hkn] at hown HP
      have hz := own_nw hown HP.out (by have := HSL.out n; omega) (fun x hx => by have := HSR.out n x hx; omega)
      have hw := hb.trans (hbr.mono hb.size)
      have HZ := hid (show ReP er L w (.returned (.tuple #[.slice aa p ca, .int .i64 0])) wr from ⟨hw, aa, ca, by rw [HL2.out, HER.out, HP.out], by rw [HL2.out]; exact hz.1.mono hb.size⟩)
      clear hkn hz hw hown HP hbr
      go_wp2
      go_ret2
      exact HZ.out
set_option maxRecDepth 100000 in
set_option maxHeartbeats 4000000 in
theorem Real_any (aT : Option Addr) (cT : Nat) (X : Pu) (w : World) (hX : Ints w aT X.ts) : Calls Try.prog 32 #[.agg #[.int .i64 X.l, .int .i64 X.n, .int .i64 X.pi, .int .i64 X.sl, .int .i64 X.ga, .int .i64 X.pa, .int .i64 X.sp, .slice aT X.ts.length cT]] w (ReP (erX X true) (soX reB X) w) := by
  obtain ⟨W, hW, hb, _, x0⟩ := boxes1 w #[.int .i64 X.l, .int .i64 X.n, .int .i64 X.pi, .int .i64 X.sl, .int .i64 X.ga, .int .i64 X.pa, .int .i64 X.sp, .slice aT X.ts.length cT] 24
  have hc := RealC_any aT cT X W (hX.below hb (Nat.le_refl _))
  generalize erX X true = E at *
  generalize soX reB X = L at *
  generalize X.ts.length = n at *
  have hs := hb.size
  clear hX
  have c0 := x0.cell 0 rfl; have c1 := x0.cell 1 rfl; have c2 := x0.cell 2 rfl; have c3 := x0.cell 3 rfl; have c4 := x0.cell 4 rfl; have c5 := x0.cell 5 rfl; have c6 := x0.cell 6 rfl; have c7 := x0.cell 7 rfl
  go_enter Try.func32, Try.ntmps32
  go_wp2_with fail
  refine hc.mono ?_
  rintro e V ⟨hb1, a, c, rfl, hz⟩
  replace hb := hb.trans (hb1.mono hb.size)
  have HZ := hid hz
  obtain ⟨m, hm⟩ : ∃ m, m = L.length := ⟨_, rfl⟩
  rw [← hm]
  have HM := hid hm
  clear hb1 hc hW c0 c1 c2 c3 c4 c5 c6 c7 x0 hz hm
  go_wp2
  go_ret2
  exact ⟨hb, a, c, by rw [HM.out]; rfl, HZ.out.mono (by omega)⟩
set_option maxRecDepth 100000 in
set_option maxHeartbeats 4000000 in
theorem Sparks_any (aT : Option Addr) (cT : Nat) (X : Pu) (w : World) (hX : Ints w aT X.ts) : Calls Try.prog 34 #[.agg #[.int .i64 X.l, .int .i64 X.n, .int .i64 X.pi, .int .i64 X.sl, .int .i64 X.ga, .int .i64 X.pa, .int .i64 X.sp, .slice aT X.ts.length cT]] w (ReP (erX X true) (soX spB X) w) := by
  obtain ⟨W, hW, hb, _, x0⟩ := boxes1 w #[.int .i64 X.l, .int .i64 X.n, .int .i64 X.pi, .int .i64 X.sl, .int .i64 X.ga, .int .i64 X.pa, .int .i64 X.sp, .slice aT X.ts.length cT] 24
  have hc := SparksC_any aT cT X W (hX.below hb (Nat.le_refl _))
  generalize erX X true = E at *
  generalize soX spB X = L at *
  generalize X.ts.length = n at *
  have hs := hb.size
  clear hX
  have c0 := x0.cell 0 rfl; have c1 := x0.cell 1 rfl; have c2 := x0.cell 2 rfl; have c3 := x0.cell 3 rfl; have c4 := x0.cell 4 rfl; have c5 := x0.cell 5 rfl; have c6 := x0.cell 6 rfl; have c7 := x0.cell 7 rfl
  go_enter Try.func34, Try.ntmps34
  go_wp2_with fail
  refine hc.mono ?_
  rintro e V ⟨hb1, a, c, rfl, hz⟩
  replace hb := hb.trans (hb1.mono hb.size)
  have HZ := hid hz
  obtain ⟨m, hm⟩ : ∃ m, m = L.length := ⟨_, rfl⟩
  rw [← hm]
  have HM := hid hm
  clear hb1 hc hW c0 c1 c2 c3 c4 c5 c6 c7 x0 hz hm
  go_wp2
  go_ret2
  exact ⟨hb, a, c, by rw [HM.out]; rfl, HZ.out.mono (by omega)⟩
end Go.Proofs.Yteianfbdhakhpaa
