import Derived.Test.YteianfbdhakhpaaTD
/-! Real, Sparks, Asked. -/
namespace Go.Proofs.Yteianfbdhakhpaa
set_option linter.unusedSimpArgs false
set_option linter.unusedVariables false
open Go Go.RowKit

def cntK (rs : List Rd) (k : Nat) : Nat := cntR (fun r => inL (k : Int) r.1) rs
def soL (f : Nat → Nat → Bool) (rs : List Rd) (k : Nat) : List Int := ((List.range k).filter (fun i => f (cntK rs i) rs.length)).map (fun (i : Nat) => (i : Int))
theorem soL_succ (f : Nat → Nat → Bool) (rs : List Rd) (k : Nat) : soL f rs (k + 1) = if f (cntK rs k) rs.length = true then soL f rs k ++ [(k : Int)] else soL f rs k := by
  unfold soL
  rw [List.range_succ, List.filter_append, List.map_append]
  cases h : f (cntK rs k) rs.length <;> simp [h]
theorem soL_len (f : Nat → Nat → Bool) (rs : List Rd) (k : Nat) : (soL f rs k).length ≤ k := by
  unfold soL
  rw [List.length_map]
  exact Nat.le_trans (List.length_filter_le _ _) (by simp)
theorem soL_rng (f : Nat → Nat → Bool) (rs : List Rd) (k : Nat) : ∀ x ∈ soL f rs k, 0 ≤ x ∧ x < (k : Int) := fun x hx => by
  simp only [soL, List.mem_map, List.mem_filter, List.mem_range] at hx
  obtain ⟨i, ⟨h, _⟩, rfl⟩ := hx
  omega
def reB (a _b : Nat) : Bool := decide (a = 0)
def spB (a b : Nat) : Bool := decide (a = b)
def soX (f : Nat → Nat → Bool) (X : Pu) : List Int := if erX X true = 0 then soL f (RS X) X.ts.length else []
set_option maxRecDepth 100000 in
set_option maxHeartbeats 1000000 in
theorem Real1_any (a b : Nat) (w : World) : Calls Try.prog 71 #[.int .i64 (a : Int), .int .i64 (b : Int)] w fun e w' => e = .returned (.bool (reB a b)) ∧ w = w' := by
  have HE := hid (show ((a : Int) == 0) = reB a b by
    unfold reB
    by_cases h : a = 0
    · simp [h]
    · rw [decide_eq_false h, beq_eq_false_iff_ne]; omega)
  go_enter Try.func71, Try.ntmps71
  go_wp2
  go_ret
  exact ⟨ret_bool HE.out, rfl⟩
set_option maxRecDepth 100000 in
set_option maxHeartbeats 1000000 in
theorem Sparks1_any (a b : Nat) (w : World) : Calls Try.prog 73 #[.int .i64 (a : Int), .int .i64 (b : Int)] w fun e w' => e = .returned (.bool (spB a b)) ∧ w = w' := by
  have HE := hid (show ((a : Int) == (b : Int)) = spB a b by
    unfold spB
    by_cases h : a = b
    · simp [h]
    · rw [decide_eq_false h, beq_eq_false_iff_ne]; omega)
  go_enter Try.func73, Try.ntmps73
  go_wp2
  go_ret
  exact ⟨ret_bool HE.out, rfl⟩

set_option maxRecDepth 100000 in
set_option maxHeartbeats 4000000 in
theorem RealC_any (aT : Option Addr) (cT : Nat) (X : Pu) (w : World) (hX : Ints w aT X.ts) : Calls Try.prog 70 #[.agg #[.int .i64 X.l, .int .i64 X.n, .int .i64 X.pi, .int .i64 X.sl, .int .i64 X.ga, .int .i64 X.pa, .int .i64 X.sp, .slice aT X.ts.length cT], .func (.func 71) #[] #[]] w (ReP (erX X true) (soX reB X) w) := by
  obtain ⟨W, hW, hb, _, x0⟩ := boxes1 w #[.int .i64 X.l, .int .i64 X.n, .int .i64 X.pi, .int .i64 X.sl, .int .i64 X.ga, .int .i64 X.pa, .int .i64 X.sp, .slice aT X.ts.length cT] 24
  have hk1 := ask_bad aT cT X true W (hX.below hb (Nat.le_refl _))
  have hk2 := ask_ok aT cT X true W (hX.below hb (Nat.le_refl _))
  have hz := fun h => erO_zero (X := X) (o := true) h
  have hln := fun h => erO_len (X := X) h
  have e1 : erO (chkE X true) (rdL X X.sp.toNat) = erX X true := rfl
  have e2 : rdL X X.sp.toNat = RS X := rfl
  rw [e1] at hk1 hk2 hz
  rw [e2] at hk2 hz hln
  have HL := hid (show soX reB X = if erX X true = 0 then soL reB (RS X) X.ts.length else [] from rfl)
  generalize soX reB X = L at *
  generalize erX X true = er at *
  by_cases he : er = 0
  rotate_left
  · skip
    have hc := hk1 he
    have HR2 := hid (show L = [] by rw [HL.out, if_neg he])
    have hne : (er != 0) = true := by rw [bne_iff_ne]; exact he
    generalize X.ts.length = n at *
    clear hk1 hk2 HL he hz hln e1 e2
    have c0 := x0.cell 0 rfl; have c1 := x0.cell 1 rfl; have c2 := x0.cell 2 rfl; have c3 := x0.cell 3 rfl; have c4 := x0.cell 4 rfl; have c5 := x0.cell 5 rfl; have c6 := x0.cell 6 rfl; have c7 := x0.cell 7 rfl
    go_enter Try.func70, Try.ntmps70
    go_wp2_with fail
    refine hc.mono ?_
    rintro e V ⟨rfl, hb1⟩
    replace hb := hb.trans (hb1.mono hb.size)
    clear hb1 hc hW c0 c1 c2 c3 c4 c5 c6 c7 x0
    go_wp2
    go_ret2
    exact ⟨hb, none, 0, by rw [HR2.out]; rfl, by rw [HR2.out]; exact Iz.none_ _ _⟩
  obtain ⟨hv, -, hne⟩ := hz he
  have hl := hln hv
  have hc := hk2 he
  have HL2 := hid (show L = soL reB (RS X) X.ts.length by rw [HL.out, if_pos he])
  have h24 : X.ts.length ≤ 24 := (timesB_rng (vB_ok hv).2.2).1
  have HER := hid he
  obtain ⟨rs, hrs⟩ : ∃ rs, rs = RS X := ⟨_, rfl⟩
  rw [← hrs] at hc hl HL2
  obtain ⟨N, hN⟩ : ∃ N, N = rs.length := ⟨_, rfl⟩
  rw [← hN] at hc hl
  have HN := hid hN
  obtain ⟨n, hn⟩ : ∃ n, n = X.ts.length := ⟨_, rfl⟩
  rw [← hn] at x0 hW HL2 h24 hc ⊢
  have hbw := hb.size
  have hee : ((0 : Int) != 0) = false := by simp
  obtain ⟨j0, hj0, jz0, jz1, jz2⟩ := info_parts info3i
  have hso := fun a b V => Real1_any a b V
  have HSS := hid (show ∀ k, soL reB rs (k + 1) = if reB (cntK rs k) rs.length = true then soL reB rs k ++ [(k : Int)] else soL reB rs k from fun k => soL_succ reB rs k)
  have HSL := hid (show ∀ k, (soL reB rs k).length ≤ k from fun k => soL_len reB rs k)
  have HSR := hid (show ∀ k, ∀ x ∈ soL reB rs k, 0 ≤ x ∧ x < (k : Int) from fun k => soL_rng reB rs k)
  have H00 := hid (show soL reB rs 0 = [] from rfl)
  rw [← hN] at HSS
  clear hk1 hk2 HL he hz hln e1 e2 hv hne hrs hN hX hn
  generalize soL reB rs = SL at *
  have hnI : (n : Int) ≤ 24 := by omega
  have c0 := x0.cell 0 rfl; have c1 := x0.cell 1 rfl; have c2 := x0.cell 2 rfl; have c3 := x0.cell 3 rfl; have c4 := x0.cell 4 rfl; have c5 := x0.cell 5 rfl; have c6 := x0.cell 6 rfl; have c7 := x0.cell 7 rfl
  go_enter Try.func70, Try.ntmps70
  go_wp2_with fail
  refine hc.mono ?_
  rintro e V ⟨hb1, a, c, vs, rfl, hown, hrv⟩
  clear c0 c1 c2 c3 c4 c5 c6 c7
  replace x0 := x0.below hb1
  have c0 := x0.cell 0 rfl; have c1 := x0.cell 1 rfl; have c2 := x0.cell 2 rfl; have c3 := x0.cell 3 rfl; have c4 := x0.cell 4 rfl; have c5 := x0.cell 5 rfl; have c6 := x0.cell 6 rfl; have c7 := x0.cell 7 rfl
  replace hb := hb.trans (hb1.mono hb.size)
  have hR := Rds.of (rs := rs) (by rw [← HN.out]; exact hown) hrv
  have hcn := fun g f V h hf => count93_any g W.heap.size a c rs f V (by rw [← HN.out]; exact hl) h hf
  rw [← HN.out] at hcn
  clear hb1 hc hW hown hrv x0
  go_wp2_with fail
  clear c0 c1 c2 c3 c4 c5 c6 c7
  go_loopw [8, 9, 10, 22] (fun v8 v9 v10 v22 wr => ∃ (k p : Nat) (aa : Option Addr) (ca : Nat), k ≤ n ∧ v22 = .int .i64 (k : Int) ∧ v8 = .slice aa p ca ∧ p ≤ k ∧ Hid (p = (SL k).length) ∧ wr.ownsRow V.heap.size 3 1 (.slice aa p ca) p ((SL k).map (Value.int .i64)) ∧ Below V.heap.size V wr) (fun _ _ _ v22 _ => n - (intOf v22).toNat)
  case atStart => exact ⟨0, 0, none, 0, Nat.zero_le _, rfl, rfl, Nat.le_refl _, hid (by rw [H00.out]; rfl), by rw [H00.out]; exact World.ownsRow_nil _ _ _ _, Below.refl _ _⟩
  case round =>
    obtain ⟨k, p, aa, ca, hk, rfl, rfl, hpk, HP, hown, hbr⟩ := hrel
    by_cases hlt : k < n
    · have hkI : (k : Int) < n := by omega
      have hk0 : (0 : Int) ≤ (k : Int) := by omega
      have hba := below_one (w := wr) (.cells #[.int .i64 (k : Int)] 3)
      have y0 := Bx.new wr #[.int .i64 (k : Int)] 3
      have hbr2 := hbr.trans (hba.mono hbr.size)
      have hcall := hcn wr.heap.size (fun r => inL (k : Int) r.1) _ (hR.below hbr2) (fun V' r a1 c1 a2 c2 hb' _ hi1 _ => counted1_any wr.heap.size a1 a2 c1 c2 r.2.length (k : Int) r.1 V' hi1 (y0.below hb'))
      have hs := HSS.out k
      have ho2 := own_below2 hown hba
      have hst := fun V => hso (cntK rs k) N V
      unfold cntK at hst hs
      generalize cntR (fun r => inL (k : Int) r.1) rs = q at *
      have yc := y0.cell 0 rfl
      have HY := hid (And.intro y0 (And.intro hbr2 ho2))
      have hVs : V.heap.size ≤ wr.heap.size := hbr.size
      clear hown hbr y0 hba hbr2 ho2
      cases hf : reB q N with
      | false =>
        rw [hf] at hs hst
        have HS := hid (show SL (k + 1) = SL k by rw [hs]; rfl)
        clear hs hf
        go_wp2_with (first | (refine hcall.mono ?_; rintro e V2 ⟨rfl, hb2⟩; clear hcall) | (refine (hst _).mono ?_; rintro e V3 ⟨rfl, rfl⟩; clear hst))
        obtain ⟨y0, hbr2, ho2⟩ := HY.out
        replace hbr2 := hbr2.trans (hb2.mono hbr2.size)
        replace ho2 := own_below2 ho2 hb2
        clear HY y0 yc hb2
        go_roundw
        case rel => exact ⟨k + 1, p, aa, ca, by omega, by go_num, rfl, by omega, hid (by rw [HS.out]; exact HP.out), by rw [HS.out]; exact ho2, hbr2⟩
        case measure => simp [intOf]; omega
      | true =>
        rw [hf] at hs hst
        have HS := hid (show SL (k + 1) = SL k ++ [(k : Int)] by rw [hs]; rfl)
        clear hs hf
        go_wp2_with (first
          | (refine hcall.mono ?_; rintro e V2 ⟨rfl, hb2⟩; clear hcall
             obtain ⟨y0, hbr2, ho2⟩ := HY.out; replace y0 := y0.below hb2; replace hbr2 := hbr2.trans (hb2.mono hbr2.size); replace ho2 := own_below2 ho2 hb2; clear HY yc hb2; have yc := y0.cell 0 rfl; have hV2 := hbr2.size)
          | (refine (hst _).mono ?_; rintro e V3 ⟨rfl, rfl⟩; clear hst)
          | (at_builtin; go_loud (refine wpList_append_own _ rfl _ _ 22 rfl V.heap.size 3 j0 (.int .i64 0) 1 8 under22 hj0 jz0 jz1 jz2 rfl (by decide) (.slice aa p ca) p _ rfl (ho2.alloc _) ⟨V2.heap.size, 0, none⟩ 1 1 [.int .i64 (k : Int)] rfl rfl (cell_one_new _ _ _) (ints_oneCell .i64 [(k : Int)]) (by unfold maxLen; omega) (by omega) (by simp; omega) ?_); intro v9 W9 hrow9 hg9 _))
        obtain ⟨a9, c9, rfl⟩ := own_slice2 hrow9
        have hbr3 : Below V.heap.size V W9 := (hbr2.trans ((below_one (w := V2) (.cells #[.int .i64 (k : Int)] 3)).mono hbr2.size)).grown hg9 (by simp; omega) (own_ge ho2)
        have hrow10 : W9.ownsRow V.heap.size 3 1 (.slice a9 (p + 1) c9) (p + 1) ((SL k ++ [(k : Int)]).map (Value.int .i64)) := by simpa using hrow9
        clear hrow9 hg9 ho2 hbr2 y0 yc
        go_wp2
        go_roundw
        case rel => exact ⟨k + 1, p + 1, a9, c9, by omega, by go_num, rfl, by omega, hid (by rw [HS.out, HP.out]; simp), by rw [HS.out]; exact hrow10, hbr3⟩
        case measure => simp [intOf]; omega
    · have hkn : k = n := by omega
      rw [hkn] at hown HP
      have hz := own_nw hown HP.out (by have := HSL.out n; omega) (fun x hx => by have := HSR.out n x hx; omega)
      have hw := hb.trans (hbr.mono hb.size)
      have HZ := hid (show ReP er L w (.returned (.tuple #[.slice aa p ca, .int .i64 0])) wr from ⟨hw, aa, ca, by rw [HL2.out, HER.out, HP.out], by rw [HL2.out]; exact hz.1.mono hb.size⟩)
      clear hkn hz hw hown HP hbr
      go_wp2
      go_ret2
      exact HZ.out
set_option maxRecDepth 100000 in
set_option maxHeartbeats 4000000 in
theorem SparksC_any (aT : Option Addr) (cT : Nat) (X : Pu) (w : World) (hX : Ints w aT X.ts) : Calls Try.prog 70 #[.agg #[.int .i64 X.l, .int .i64 X.n, .int .i64 X.pi, .int .i64 X.sl, .int .i64 X.ga, .int .i64 X.pa, .int .i64 X.sp, .slice aT X.ts.length cT], .func (.func 73) #[] #[]] w (ReP (erX X true) (soX spB X) w) := by
  obtain ⟨W, hW, hb, _, x0⟩ := boxes1 w #[.int .i64 X.l, .int .i64 X.n, .int .i64 X.pi, .int .i64 X.sl, .int .i64 X.ga, .int .i64 X.pa, .int .i64 X.sp, .slice aT X.ts.length cT] 24
  have hk1 := ask_bad aT cT X true W (hX.below hb (Nat.le_refl _))
  have hk2 := ask_ok aT cT X true W (hX.below hb (Nat.le_refl _))
  have hz := fun h => erO_zero (X := X) (o := true) h
  have hln := fun h => erO_len (X := X) h
  have e1 : erO (chkE X true) (rdL X X.sp.toNat) = erX X true := rfl
  have e2 : rdL X X.sp.toNat = RS X := rfl
  rw [e1] at hk1 hk2 hz
  rw [e2] at hk2 hz hln
  have HL := hid (show soX spB X = if erX X true = 0 then soL spB (RS X) X.ts.length else [] from rfl)
  generalize soX spB X = L at *
  generalize erX X true = er at *
  by_cases he : er = 0
  rotate_left
  · skip
    have hc := hk1 he
    have HR2 := hid (show L = [] by rw [HL.out, if_neg he])
    have hne : (er != 0) = true := by rw [bne_iff_ne]; exact he
    generalize X.ts.length = n at *
    clear hk1 hk2 HL he hz hln e1 e2
    have c0 := x0.cell 0 rfl; have c1 := x0.cell 1 rfl; have c2 := x0.cell 2 rfl; have c3 := x0.cell 3 rfl; have c4 := x0.cell 4 rfl; have c5 := x0.cell 5 rfl; have c6 := x0.cell 6 rfl; have c7 := x0.cell 7 rfl
    go_enter Try.func70, Try.ntmps70
    go_wp2_with fail
    refine hc.mono ?_
    rintro e V ⟨rfl, hb1⟩
    replace hb := hb.trans (hb1.mono hb.size)
    clear hb1 hc hW c0 c1 c2 c3 c4 c5 c6 c7 x0
    go_wp2
    go_ret2
    exact ⟨hb, none, 0, by rw [HR2.out]; rfl, by rw [HR2.out]; exact Iz.none_ _ _⟩
  obtain ⟨hv, -, hne⟩ := hz he
  have hl := hln hv
  have hc := hk2 he
  have HL2 := hid (show L = soL spB (RS X) X.ts.length by rw [HL.out, if_pos he])
  have h24 : X.ts.length ≤ 24 := (timesB_rng (vB_ok hv).2.2).1
  have HER := hid he
  obtain ⟨rs, hrs⟩ : ∃ rs, rs = RS X := ⟨_, rfl⟩
  rw [← hrs] at hc hl HL2
  obtain ⟨N, hN⟩ : ∃ N, N = rs.length := ⟨_, rfl⟩
  rw [← hN] at hc hl
  have HN := hid hN
  obtain ⟨n, hn⟩ : ∃ n, n = X.ts.length := ⟨_, rfl⟩
  rw [← hn] at x0 hW HL2 h24 hc ⊢
  have hbw := hb.size
  have hee : ((0 : Int) != 0) = false := by simp
  obtain ⟨j0, hj0, jz0, jz1, jz2⟩ := info_parts info3i
  have hso := fun a b V => Sparks1_any a b V
  have HSS := hid (show ∀ k, soL spB rs (k + 1) = if spB (cntK rs k) rs.length = true then soL spB rs k ++ [(k : Int)] else soL spB rs k from fun k => soL_succ spB rs k)
  have HSL := hid (show ∀ k, (soL spB rs k).length ≤ k from fun k => soL_len spB rs k)
  have HSR := hid (show ∀ k, ∀ x ∈ soL spB rs k, 0 ≤ x ∧ x < (k : Int) from fun k => soL_rng spB rs k)
  have H00 := hid (show soL spB rs 0 = [] from rfl)
  rw [← hN] at HSS
  clear hk1 hk2 HL he hz hln e1 e2 hv hne hrs hN hX hn
  generalize soL spB rs = SL at *
  have hnI : (n : Int) ≤ 24 := by omega
  have c0 := x0.cell 0 rfl; have c1 := x0.cell 1 rfl; have c2 := x0.cell 2 rfl; have c3 := x0.cell 3 rfl; have c4 := x0.cell 4 rfl; have c5 := x0.cell 5 rfl; have c6 := x0.cell 6 rfl; have c7 := x0.cell 7 rfl
  go_enter Try.func70, Try.ntmps70
  go_wp2_with fail
  refine hc.mono ?_
  rintro e V ⟨hb1, a, c, vs, rfl, hown, hrv⟩
  clear c0 c1 c2 c3 c4 c5 c6 c7
  replace x0 := x0.below hb1
  have c0 := x0.cell 0 rfl; have c1 := x0.cell 1 rfl; have c2 := x0.cell 2 rfl; have c3 := x0.cell 3 rfl; have c4 := x0.cell 4 rfl; have c5 := x0.cell 5 rfl; have c6 := x0.cell 6 rfl; have c7 := x0.cell 7 rfl
  replace hb := hb.trans (hb1.mono hb.size)
  have hR := Rds.of (rs := rs) (by rw [← HN.out]; exact hown) hrv
  have hcn := fun g f V h hf => count93_any g W.heap.size a c rs f V (by rw [← HN.out]; exact hl) h hf
  rw [← HN.out] at hcn
  clear hb1 hc hW hown hrv x0
  go_wp2_with fail
  clear c0 c1 c2 c3 c4 c5 c6 c7
  go_loopw [8, 9, 10, 22] (fun v8 v9 v10 v22 wr => ∃ (k p : Nat) (aa : Option Addr) (ca : Nat), k ≤ n ∧ v22 = .int .i64 (k : Int) ∧ v8 = .slice aa p ca ∧ p ≤ k ∧ Hid (p = (SL k).length) ∧ wr.ownsRow V.heap.size 3 1 (.slice aa p ca) p ((SL k).map (Value.int .i64)) ∧ Below V.heap.size V wr) (fun _ _ _ v22 _ => n - (intOf v22).toNat)
  case atStart => exact ⟨0, 0, none, 0, Nat.zero_le _, rfl, rfl, Nat.le_refl _, hid (by rw [H00.out]; rfl), by rw [H00.out]; exact World.ownsRow_nil _ _ _ _, Below.refl _ _⟩
  case round =>
    obtain ⟨k, p, aa, ca, hk, rfl, rfl, hpk, HP, hown, hbr⟩ := hrel
    by_cases hlt : k < n
    · have hkI : (k : Int) < n := by omega
      have hk0 : (0 : Int) ≤ (k : Int) := by omega
      have hba := below_one (w := wr) (.cells #[.int .i64 (k : Int)] 3)
      have y0 := Bx.new wr #[.int .i64 (k : Int)] 3
      have hbr2 := hbr.trans (hba.mono hbr.size)
      have hcall := hcn wr.heap.size (fun r => inL (k : Int) r.1) _ (hR.below hbr2) (fun V' r a1 c1 a2 c2 hb' _ hi1 _ => counted1_any wr.heap.size a1 a2 c1 c2 r.2.length (k : Int) r.1 V' hi1 (y0.below hb'))
      have hs := HSS.out k
      have ho2 := own_below2 hown hba
      have hst := fun V => hso (cntK rs k) N V
      unfold cntK at hst hs
      generalize cntR (fun r => inL (k : Int) r.1) rs = q at *
      have yc := y0.cell 0 rfl
      have HY := hid (And.intro y0 (And.intro hbr2 ho2))
      have hVs : V.heap.size ≤ wr.heap.size := hbr.size
      clear hown hbr y0 hba hbr2 ho2
      cases hf : spB q N with
      | false =>
        rw [hf] at hs hst
        have HS := hid (show SL (k + 1) = SL k by rw [hs]; rfl)
        clear hs hf
        go_wp2_with (first | (refine hcall.mono ?_; rintro e V2 ⟨rfl, hb2⟩; clear hcall) | (refine (hst _).mono ?_; rintro e V3 ⟨rfl, rfl⟩; clear hst))
        obtain ⟨y0, hbr2, ho2⟩ := HY.out
        replace hbr2 := hbr2.trans (hb2.mono hbr2.size)
        replace ho2 := own_below2 ho2 hb2
        clear HY y0 yc hb2
        go_roundw
        case rel => exact ⟨k + 1, p, aa, ca, by omega, by go_num, rfl, by omega, hid (by rw [HS.out]; exact HP.out), by rw [HS.out]; exact ho2, hbr2⟩
        case measure => simp [intOf]; omega
      | true =>
        rw [hf] at hs hst
        have HS := hid (show SL (k + 1) = SL k ++ [(k : Int)] by rw [hs]; rfl)
        clear hs hf
        go_wp2_with (first
          | (refine hcall.mono ?_; rintro e V2 ⟨rfl, hb2⟩; clear hcall
             obtain ⟨y0, hbr2, ho2⟩ := HY.out; replace y0 := y0.below hb2; replace hbr2 := hbr2.trans (hb2.mono hbr2.size); replace ho2 := own_below2 ho2 hb2; clear HY yc hb2; have yc := y0.cell 0 rfl; have hV2 := hbr2.size)
          | (refine (hst _).mono ?_; rintro e V3 ⟨rfl, rfl⟩; clear hst)
          | (at_builtin; go_loud (refine wpList_append_own _ rfl _ _ 22 rfl V.heap.size 3 j0 (.int .i64 0) 1 8 under22 hj0 jz0 jz1 jz2 rfl (by decide) (.slice aa p ca) p _ rfl (ho2.alloc _) ⟨V2.heap.size, 0, none⟩ 1 1 [.int .i64 (k : Int)] rfl rfl (cell_one_new _ _ _) (ints_oneCell .i64 [(k : Int)]) (by unfold maxLen; omega) (by omega) (by simp; omega) ?_); intro v9 W9 hrow9 hg9 _))
        obtain ⟨a9, c9, rfl⟩ := own_slice2 hrow9
        have hbr3 : Below V.heap.size V W9 := (hbr2.trans ((below_one (w := V2) (.cells #[.int .i64 (k : Int)] 3)).mono hbr2.size)).grown hg9 (by simp; omega) (own_ge ho2)
        have hrow10 : W9.ownsRow V.heap.size 3 1 (.slice a9 (p + 1) c9) (p + 1) ((SL k ++ [(k : Int)]).map (Value.int .i64)) := by simpa using hrow9
        clear hrow9 hg9 ho2 hbr2 y0 yc
        go_wp2
        go_roundw
        case rel => exact ⟨k + 1, p + 1, a9, c9, by omega, by go_num, rfl, by omega, hid (by rw [HS.out, HP.out]; simp), by rw [HS.out]; exact hrow10, hbr3⟩
        case measure => simp [intOf]; omega
    · have hkn : k = n := by omega
      rw [hkn] at hown HP
      have hz := own_nw hown HP.out (by have := HSL.out n; omega) (fun x hx => by have := HSR.out n x hx; omega)
      have hw := hb.trans (hbr.mono hb.size)
      have HZ := hid (show ReP er L w (.returned (.tuple #[.slice aa p ca, .int .i64 0])) wr from ⟨hw, aa, ca, by rw [HL2.out, HER.out, HP.out], by rw [HL2.out]; exact hz.1.mono hb.size⟩)
      clear hkn hz hw hown HP hbr
      go_wp2
      go_ret2
      exact HZ.out
set_option maxRecDepth 100000 in
set_option maxHeartbeats 4000000 in
theorem Real_any (aT : Option Addr) (cT : Nat) (X : Pu) (w : World) (hX : Ints w aT X.ts) : Calls Try.prog 32 #[.agg #[.int .i64 X.l, .int .i64 X.n, .int .i64 X.pi, .int .i64 X.sl, .int .i64 X.ga, .int .i64 X.pa, .int .i64 X.sp, .slice aT X.ts.length cT]] w (ReP (erX X true) (soX reB X) w) := by
  obtain ⟨W, hW, hb, _, x0⟩ := boxes1 w #[.int .i64 X.l, .int .i64 X.n, .int .i64 X.pi, .int .i64 X.sl, .int .i64 X.ga, .int .i64 X.pa, .int .i64 X.sp, .slice aT X.ts.length cT] 24
  have hc := RealC_any aT cT X W (hX.below hb (Nat.le_refl _))
  generalize erX X true = E at *
  generalize soX reB X = L at *
  generalize X.ts.length = n at *
  have hs := hb.size
  clear hX
  have c0 := x0.cell 0 rfl; have c1 := x0.cell 1 rfl; have c2 := x0.cell 2 rfl; have c3 := x0.cell 3 rfl; have c4 := x0.cell 4 rfl; have c5 := x0.cell 5 rfl; have c6 := x0.cell 6 rfl; have c7 := x0.cell 7 rfl
  go_enter Try.func32, Try.ntmps32
  go_wp2_with fail
  refine hc.mono ?_
  rintro e V ⟨hb1, a, c, rfl, hz⟩
  replace hb := hb.trans (hb1.mono hb.size)
  have HZ := hid hz
  obtain ⟨m, hm⟩ : ∃ m, m = L.length := ⟨_, rfl⟩
  rw [← hm]
  have HM := hid hm
  clear hb1 hc hW c0 c1 c2 c3 c4 c5 c6 c7 x0 hz hm
  go_wp2
  go_ret2
  exact ⟨hb, a, c, by rw [HM.out]; rfl, HZ.out.mono (by omega)⟩
set_option maxRecDepth 100000 in
set_option maxHeartbeats 4000000 in
theorem Sparks_any (aT : Option Addr) (cT : Nat) (X : Pu) (w : World) (hX : Ints w aT X.ts) : Calls Try.prog 34 #[.agg #[.int .i64 X.l, .int .i64 X.n, .int .i64 X.pi, .int .i64 X.sl, .int .i64 X.ga, .int .i64 X.pa, .int .i64 X.sp, .slice aT X.ts.length cT]] w (ReP (erX X true) (soX spB X) w) := by
  obtain ⟨W, hW, hb, _, x0⟩ := boxes1 w #[.int .i64 X.l, .int .i64 X.n, .int .i64 X.pi, .int .i64 X.sl, .int .i64 X.ga, .int .i64 X.pa, .int .i64 X.sp, .slice aT X.ts.length cT] 24
  have hc := SparksC_any aT cT X W (hX.below hb (Nat.le_refl _))
  generalize erX X true = E at *
  generalize soX spB X = L at *
  generalize X.ts.length = n at *
  have hs := hb.size
  clear hX
  have c0 := x0.cell 0 rfl; have c1 := x0.cell 1 rfl; have c2 := x0.cell 2 rfl; have c3 := x0.cell 3 rfl; have c4 := x0.cell 4 rfl; have c5 := x0.cell 5 rfl; have c6 := x0.cell 6 rfl; have c7 := x0.cell 7 rfl
  go_enter Try.func34, Try.ntmps34
  go_wp2_with fail
  refine hc.mono ?_
  rintro e V ⟨hb1, a, c, rfl, hz⟩
  replace hb := hb.trans (hb1.mono hb.size)
  have HZ := hid hz
  obtain ⟨m, hm⟩ : ∃ m, m = L.length := ⟨_, rfl⟩
  rw [← hm]
  have HM := hid hm
  clear hb1 hc hW c0 c1 c2 c3 c4 c5 c6 c7 x0 hz hm
  go_wp2
  go_ret2
  exact ⟨hb, a, c, by rw [HM.out]; rfl, HZ.out.mono (by omega)⟩
end Go.Proofs.Yteianfbdhakhpaa
/-! Asked. -/
namespace Go.Proofs.Yteianfbdhakhpaa
set_option linter.unusedSimpArgs false
set_option linter.unusedVariables false
open Go Go.RowKit

set_option maxRecDepth 100000 in
set_option maxHeartbeats 2000000 in
theorem count68_any (g : Nat) (a : Option Addr) (c : Nat) (l : List Int) (f : Int → Bool) (w : World) (hI : Ints w a l) (hf : ∀ V x, Below w.heap.size w V → x ∈ l → Calls Try.prog 68 #[.int .i64 x, .pointer (some ⟨g, 0, none⟩)] V fun e w' => e = .returned (.bool (f x)) ∧ Below V.heap.size V w') : Calls Try.prog 67 #[.slice a l.length c, .func (.func 68) #[] #[.pointer (some ⟨g, 0, none⟩)]] w fun e w' => e = .returned (.int .i64 (cntF f l)) ∧ Below w.heap.size w w' := by
  have hlen := hI.len
  have hle : cntF f l ≤ l.length := List.length_filter_le _ _
  have HK := hid (show ∀ k x, l[k]? = some x → cntF f (l.take (k + 1)) = cntF f (l.take k) + if f x = true then 1 else 0 from fun k x h => by
    unfold cntF; rw [List.take_add_one, h, List.filter_append, List.length_append]
    cases hx : f x <;> simp [hx])
  have HLE := hid (show ∀ k, cntF f (l.take k) ≤ k from fun k => Nat.le_trans (List.length_filter_le _ _) (by rw [List.length_take]; omega))
  obtain ⟨R, hR⟩ : ∃ R, R = cntF f l := ⟨_, rfl⟩
  rw [← hR] at hle ⊢
  have HR := hid hR
  obtain ⟨n, hn⟩ : ∃ n, n = l.length := ⟨_, rfl⟩
  rw [← hn] at hlen hle ⊢
  have HN := hid hn
  have HF := hid hf
  clear hn hR hf
  go_enter Try.func67, Try.ntmps67
  go_wp2
  go_loopw [5, 10] (fun v5 v10 wr => ∃ k q : Nat, k ≤ n ∧ v10 = .int .i64 (k : Int) ∧ v5 = .int .i64 (q : Int) ∧ Hid (q = cntF f (l.take k)) ∧ Below w.heap.size w wr) (fun _ v10 _ => n - (intOf v10).toNat)
  case atStart => exact ⟨0, 0, Nat.zero_le _, rfl, rfl, hid rfl, Below.refl _ _⟩
  case round =>
    obtain ⟨k, q, hk, rfl, rfl, HQ, hb⟩ := hrel
    by_cases hlt : k < n
    · obtain ⟨b1, o1, x, rfl, _, hc1, _, _, hg1, _⟩ := (hI.below hb (Nat.le_refl _)).at (k := k) (by rw [← HN.out]; exact hlt)
      have hkI : (k : Int) < n := by omega
      have hk0 : (0 : Int) ≤ (k : Int) := by omega
      have hq1 : q ≤ k := by rw [HQ.out]; exact HLE.out k
      have ewq : IntKind.i64.wrap ((q : Int) + 1) = (q : Int) + 1 := IntWalk.i64_in _ (by omega)
      have hcall := HF.out wr x hb (List.mem_of_getElem? hg1.out)
      have hs := HK.out k x hg1.out
      rw [← HQ.out] at hs
      clear hg1
      cases hx : f x with
      | true =>
        rw [hx] at hcall hs
        have HS := hid (show q + 1 = cntF f (l.take (k + 1)) by rw [hs]; rfl)
        clear hs hx
        go_wp2_with fail
        refine hcall.mono ?_
        rintro e V1 ⟨rfl, hb1⟩
        replace hb := hb.trans (hb1.mono hb.size)
        clear hb1 hcall hc1
        go_wp2
        go_roundw
        case rel => exact ⟨k + 1, q + 1, by omega, by simp, by go_num, HS, hb⟩
        case measure => simp [intOf]; omega
      | false =>
        rw [hx] at hcall hs
        have HS := hid (show q = cntF f (l.take (k + 1)) by rw [hs]; rfl)
        clear hs hx
        go_wp2_with fail
        refine hcall.mono ?_
        rintro e V1 ⟨rfl, hb1⟩
        replace hb := hb.trans (hb1.mono hb.size)
        clear hb1 hcall hc1
        go_wp2
        go_roundw
        case rel => exact ⟨k + 1, q, by omega, by simp, rfl, HS, hb⟩
        case measure => simp [intOf]; omega
    · have hkn : k = n := by omega
      have hq := HQ.out
      rw [List.take_of_length_le (by rw [hkn, HN.out]; exact Nat.le_refl _), ← HR.out] at hq
      have HQ2 := hid hq
      clear hq HQ
      go_wp2
      go_ret
      exact ⟨ret_int (by rw [HQ2.out]), hb⟩
def eqB (s x : Int) : Bool := decide (x = s)
set_option maxRecDepth 100000 in
set_option maxHeartbeats 1000000 in
theorem Asked1_any (g : Nat) (s x : Int) (w : World) (x0 : Bx w g #[.int .i64 s] 3) : Calls Try.prog 68 #[.int .i64 x, .pointer (some ⟨g, 0, none⟩)] w fun e w' => e = .returned (.bool (eqB s x)) ∧ Below w.heap.size w w' := by
  have HE := hid (show (x == s) = eqB s x by
    unfold eqB
    by_cases h : x = s
    · simp [h]
    · rw [decide_eq_false h, beq_eq_false_iff_ne]; exact h)
  have c0 := x0.cell 0 rfl
  go_enter Try.func68, Try.ntmps68
  go_wp2
  go_ret
  exact ⟨ret_bool HE.out, Below.refl _ _⟩
def lowF (s : Int) (rs : List Rd) : Nat := rs.foldl (fun m r => min m (cntF (eqB s) r.2)) 24
def higF (s : Int) (rs : List Rd) : Nat := rs.foldl (fun m r => max m (cntF (eqB s) r.2)) 0
theorem lowF_take (s : Int) {rs : List Rd} {k : Nat} {r : Rd} (h : rs[k]? = some r) : lowF s (rs.take (k + 1)) = min (lowF s (rs.take k)) (cntF (eqB s) r.2) := by
  unfold lowF; rw [List.take_add_one, h, List.foldl_append]; rfl
theorem higF_take (s : Int) {rs : List Rd} {k : Nat} {r : Rd} (h : rs[k]? = some r) : higF s (rs.take (k + 1)) = max (higF s (rs.take k)) (cntF (eqB s) r.2) := by
  unfold higF; rw [List.take_add_one, h, List.foldl_append]; rfl
theorem lowF_le (s : Int) : ∀ (rs : List Rd) , lowF s rs ≤ 24 := by
  have : ∀ (rs : List Rd) (m : Nat), rs.foldl (fun m r => min m (cntF (eqB s) r.2)) m ≤ m := by
    intro rs
    induction rs with
    | nil => exact fun m => Nat.le_refl _
    | cons r rs ih => exact fun m => Nat.le_trans (ih _) (Nat.min_le_left _ _)
  exact fun rs => this rs 24
theorem higF_le (s : Int) : ∀ (rs : List Rd), (∀ r ∈ rs, r.2.length ≤ 24) → higF s rs ≤ 24 := by
  have : ∀ (rs : List Rd) (m : Nat), m ≤ 24 → (∀ r ∈ rs, r.2.length ≤ 24) → rs.foldl (fun m r => max m (cntF (eqB s) r.2)) m ≤ 24 := by
    intro rs
    induction rs with
    | nil => exact fun m h _ => h
    | cons r rs ih => exact fun m h h2 => ih _ (by have := h2 r (by simp); have : cntF (eqB s) r.2 ≤ r.2.length := List.length_filter_le _ _; show max m (cntF (eqB s) r.2) ≤ 24; omega) (fun q hq => h2 q (by simp [hq]))
  exact fun rs h => this rs 0 (by omega) h
def askE (X : Pu) (s : Int) : Int := erX X (selB X s)
def askLo (X : Pu) (s : Int) : Nat := if askE X s = 0 then lowF s (RS X) else 0
def askHi (X : Pu) (s : Int) : Nat := if askE X s = 0 then higF s (RS X) else 0
theorem RS_len24 {X : Pu} (hv : vB X = true) : ∀ r ∈ RS X, r.2.length ≤ 24 := fun r hr => by
  obtain ⟨ok, _, h3⟩ := vB_ok hv
  obtain ⟨_, _, h⟩ := rdL_mem hr
  have h1 := (lof_rng ok h).1
  have h2 := woA_len r.1 X.ts 0
  have h4 := (timesB_rng h3).1
  unfold woL at h1
  omega
theorem RS_i64 {X : Pu} (hv : vB X = true) : ∀ r ∈ RS X, ∀ x ∈ r.2, 0 ≤ x ∧ x ≤ 24 := fun r hr x hx => by
  obtain ⟨ok, _, h3⟩ := vB_ok hv
  obtain ⟨_, _, h⟩ := rdL_mem hr
  have := (lof_rng ok h).2 x hx
  omega

set_option maxRecDepth 100000 in
set_option maxHeartbeats 6000000 in
theorem Asked_any (aT : Option Addr) (cT : Nat) (X : Pu) (s : Int) (w : World) (hX : Ints w aT X.ts) : Calls Try.prog 30 #[.agg #[.int .i64 X.l, .int .i64 X.n, .int .i64 X.pi, .int .i64 X.sl, .int .i64 X.ga, .int .i64 X.pa, .int .i64 X.sp, .slice aT X.ts.length cT], .int .i64 s] w fun e w' => e = .returned (.tuple #[.agg #[.int .i64 (askLo X s), .int .i64 (askHi X s)], .int .i64 (askE X s)]) ∧ Below w.heap.size w w' := by
  obtain ⟨W, hW, hb, _, x0, x1, x2⟩ := boxes3 w #[.int .i64 X.l, .int .i64 X.n, .int .i64 X.pi, .int .i64 X.sl, .int .i64 X.ga, .int .i64 X.pa, .int .i64 X.sp, .slice aT X.ts.length cT] 24 #[.int .i64 s] 3 #[.int .i64 0, .int .i64 0] 39
  have hsl := fun V => isSelection_any aT cT X s V
  have hk1 := fun V h => ask_bad aT cT X (selB X s) V h
  have hk2 := fun V h => ask_ok aT cT X (selB X s) V h
  have hz := fun h => erO_zero (X := X) (o := selB X s) h
  have hln := fun h => erO_len (X := X) h
  have hl24 := fun h => RS_len24 (X := X) h
  have hX2 := hX.below hb (Nat.le_refl _)
  have e1 : erO (chkE X (selB X s)) (rdL X X.sp.toNat) = askE X s := rfl
  have e2 : rdL X X.sp.toNat = RS X := rfl
  rw [e1] at hk1 hk2 hz
  rw [e2] at hk2 hz hln
  have HLO := hid (show askLo X s = if askE X s = 0 then lowF s (RS X) else 0 from rfl)
  have HHI := hid (show askHi X s = if askE X s = 0 then higF s (RS X) else 0 from rfl)
  generalize askLo X s = LO at *
  generalize askHi X s = HI at *
  generalize askE X s = er at *
  generalize selB X s = so at *
  obtain ⟨n, hn⟩ : ∃ n, n = X.ts.length := ⟨_, rfl⟩
  rw [← hn] at x0 hW hk1 hk2 hsl ⊢
  have hws := hb.size
  clear hX e1 e2 hn
  by_cases he : er = 0
  rotate_left
  · skip
    have hcc := fun V h => hk1 V h he
    have HR := hid (show LO = 0 by rw [HLO.out, if_neg he])
    have HR2 := hid (show HI = 0 by rw [HHI.out, if_neg he])
    have hne : (er != 0) = true := by rw [bne_iff_ne]; exact he
    clear hk1 hk2 HLO HHI he hz hln hl24
    go_enter Try.func30, Try.ntmps30
    go_upto_region 1 with fail
    clear hW
    have S0 : BlS W W.drew := (Below.refl W.heap.size W).drew
    refine wp_region_head 9 (fun w' => BlS W w') (by kernel_rfl) rfl ?_
    generalize W.drew = Y0 at *
    refine HeadAt.take (i := 0) (.agg #[.int .i64 X.l, .int .i64 X.n, .int .i64 X.pi, .int .i64 X.sl, .int .i64 X.ga, .int .i64 X.pa, .int .i64 X.sp, .slice aT n cT]) rfl (by kernel_rfl) (.inl ⟨rfl, fun w' z => ?_⟩) S0 ?_
    · (have z0 := (x0.below z).cell 0 rfl; have z1 := (x0.below z).cell 1 rfl; have z2 := (x0.below z).cell 2 rfl; have z3 := (x0.below z).cell 3 rfl; have z4 := (x0.below z).cell 4 rfl; have z5 := (x0.below z).cell 5 rfl; have z6 := (x0.below z).cell 6 rfl; have z7 := (x0.below z).cell 7 rfl; simp [go_sem, z0, z1, z2, z3, z4, z5, z6, z7])
    (try simp only [Act.put, List.getElem_toArray, List.getElem_cons_succ, List.getElem_cons_zero, List.setIfInBounds_toArray, List.set_cons_succ, List.set_cons_zero])
    refine HeadAt.take (i := 1) (.agg #[.int .i64 X.l, .int .i64 X.n, .int .i64 X.pi, .int .i64 X.sl, .int .i64 X.ga, .int .i64 X.pa, .int .i64 X.sp, .slice aT n cT]) rfl (by kernel_rfl) (.inl ⟨rfl, fun w' z => ?_⟩) S0 ?_
    · (have z0 := (x0.below z).cell 0 rfl; have z1 := (x0.below z).cell 1 rfl; have z2 := (x0.below z).cell 2 rfl; have z3 := (x0.below z).cell 3 rfl; have z4 := (x0.below z).cell 4 rfl; have z5 := (x0.below z).cell 5 rfl; have z6 := (x0.below z).cell 6 rfl; have z7 := (x0.below z).cell 7 rfl; simp [go_sem, z0, z1, z2, z3, z4, z5, z6, z7])
    (try simp only [Act.put, List.getElem_toArray, List.getElem_cons_succ, List.getElem_cons_zero, List.setIfInBounds_toArray, List.set_cons_succ, List.set_cons_zero])
    refine HeadAt.take (i := 2) (.int .i64 s) rfl (by kernel_rfl) (.inl ⟨rfl, fun w' z => ?_⟩) S0 ?_
    · (have z0 := (x1.below z).cell 0 rfl; simp [go_sem, z0])
    (try simp only [Act.put, List.getElem_toArray, List.getElem_cons_succ, List.getElem_cons_zero, List.setIfInBounds_toArray, List.set_cons_succ, List.set_cons_zero])
    refine HeadAt.one (i := 3) rfl (by kernel_rfl) ?_
    generalize hK : Upto _ _ = K0
    (try simp only [Act.put, List.getElem_toArray, List.getElem_cons_succ, List.getElem_cons_zero, List.setIfInBounds_toArray, List.set_cons_succ, List.set_cons_zero])
    go_wp2_with fail
    refine (hsl _).mono ?_
    rintro e V3 ⟨rfl, hb3⟩
    go_wp2_with fail
    replace S0 : BlS W V3 := Below.trans S0 (hb3.mono (Below.size S0))
    clear hb3 hsl
    have hc := hcc _ (hX2.below S0 (Nat.le_refl _))
    have hs3 := Below.size S0
    subst hK
    refine ⟨S0, ?_⟩
    (try simp only [Act.put, List.getElem_toArray, List.getElem_cons_succ, List.getElem_cons_zero, List.setIfInBounds_toArray, List.set_cons_succ, List.set_cons_zero])
    refine HeadAt.one (i := 4) rfl (by kernel_rfl) ?_
    generalize hK : Upto _ _ = K0
    (try simp only [Act.put, List.getElem_toArray, List.getElem_cons_succ, List.getElem_cons_zero, List.setIfInBounds_toArray, List.set_cons_succ, List.set_cons_zero])
    go_wp2_with fail
    refine hc.mono ?_
    rintro e V4 ⟨rfl, hb4⟩
    go_wp2_with fail
    replace S0 : BlS W V4 := Below.trans S0 (hb4.mono (Below.size S0))
    clear hb4 hc hcc
    subst hK
    refine ⟨S0, ?_⟩
    (try simp only [Act.put, List.getElem_toArray, List.getElem_cons_succ, List.getElem_cons_zero, List.setIfInBounds_toArray, List.set_cons_succ, List.set_cons_zero])
    refine HeadAt.take (i := 5) (.tuple #[.slice none 0 0, .int .i64 er]) rfl (by kernel_rfl) (.inl ⟨rfl, fun _ _ => by simp [go_sem]⟩) S0 ?_
    (try simp only [Act.put, List.getElem_toArray, List.getElem_cons_succ, List.getElem_cons_zero, List.setIfInBounds_toArray, List.set_cons_succ, List.set_cons_zero])
    refine HeadAt.take (i := 6) (.slice none 0 0) rfl (by kernel_rfl) (.inl ⟨rfl, fun w' z => ?_⟩) S0 ?_
    · (simp [go_sem])
    (try simp only [Act.put, List.getElem_toArray, List.getElem_cons_succ, List.getElem_cons_zero, List.setIfInBounds_toArray, List.set_cons_succ, List.set_cons_zero])
    refine HeadAt.take (i := 7) (.int .i64 er) rfl (by kernel_rfl) (.inl ⟨rfl, fun w' z => ?_⟩) S0 ?_
    · (simp [go_sem])
    (try simp only [Act.put, List.getElem_toArray, List.getElem_cons_succ, List.getElem_cons_zero, List.setIfInBounds_toArray, List.set_cons_succ, List.set_cons_zero])
    refine HeadAt.take (i := 8) (.slice none 0 0) rfl (by kernel_rfl) (.inl ⟨rfl, fun _ _ => by simp [go_sem]⟩) S0 ?_
    (try simp only [Act.put, List.getElem_toArray, List.getElem_cons_succ, List.getElem_cons_zero, List.setIfInBounds_toArray, List.set_cons_succ, List.set_cons_zero])
    refine HeadAt.done (by kernel_rfl) ?_
    (try simp only [Act.put, List.drop_succ_cons, List.drop_zero, List.getElem_toArray, List.getElem_cons_succ, List.getElem_cons_zero])
    go_wp2_with fail
    refine NoPanic.normal ?_
    replace x0 := x0.below S0
    replace x1 := x1.below S0
    replace x2 := x2.below S0
    replace hb := hb.trans (Below.mono S0 hb.size)
    clear S0
    have c0 := x2.cell 0 rfl; have c1 := x2.cell 1 rfl
    have f0 := x2.free 0; have f1 := x2.free 1
    have y2 := x2.set2 (.int .i64 0) (.int .i64 0)
    have hbz := (hb.setCell (p := ⟨w.heap.size + 1 + 1, 0, none⟩) (by show w.heap.size ≤ w.heap.size + 1 + 1; omega) (.int .i64 0)).setCell (p := ⟨w.heap.size + 1 + 1, 1, none⟩) (by show w.heap.size ≤ w.heap.size + 1 + 1; omega) (.int .i64 0)
    have HZ := hid (And.intro y2 hbz)
    clear x0 x1 x2 y2 hbz hb
    go_wp2
    obtain ⟨y2, hbz⟩ := HZ.out
    generalize World.setCell (World.setCell _ _ _) _ _ = VV at *
    have k0 := y2.cell 0 rfl; have k1 := y2.cell 1 rfl
    refine bodyPost_ret (v := .tuple #[.agg #[.int .i64 0, .int .i64 0], .int .i64 er]) ?_ rfl ⟨by rw [HR.out, HR2.out]; rfl, hbz⟩
    simp [results, Try.results30, go_sem, k0, k1]
  obtain ⟨hv, -, -⟩ := hz he
  have hl := hln hv
  have hl2 := hl24 hv
  have hcc := fun V h => hk2 V h he
  have HR := hid (show LO = lowF s (RS X) by rw [HLO.out, if_pos he])
  have HR2 := hid (show HI = higF s (RS X) by rw [HHI.out, if_pos he])
  have HER := hid he
  obtain ⟨rs, hrs⟩ : ∃ rs, rs = RS X := ⟨_, rfl⟩
  rw [← hrs] at hcc hl hl2 HR HR2
  have HLT := hid (show ∀ (k : Nat) (r : Rd), rs[k]? = some r → lowF s (rs.take (k + 1)) = min (lowF s (rs.take k)) (cntF (eqB s) r.2) from fun k r h => lowF_take s h)
  have HHT := hid (show ∀ (k : Nat) (r : Rd), rs[k]? = some r → higF s (rs.take (k + 1)) = max (higF s (rs.take k)) (cntF (eqB s) r.2) from fun k r h => higF_take s h)
  have HL24 := hid (show ∀ k, lowF s (rs.take k) ≤ 24 ∧ higF s (rs.take k) ≤ 24 from fun k => ⟨lowF_le s _, higF_le s _ (fun r hr => hl2 r (List.mem_of_mem_take hr))⟩)
  have HC24 := hid (show ∀ (k : Nat) (r : Rd), rs[k]? = some r → cntF (eqB s) r.2 ≤ 24 from fun k r h => Nat.le_trans (List.length_filter_le _ _) (hl2 r (List.mem_of_getElem? h)))
  have H0 := hid (show lowF s (rs.take 0) = 24 ∧ higF s (rs.take 0) = 0 from ⟨by simp [lowF], by simp [higF]⟩)
  obtain ⟨N, hN⟩ : ∃ N, N = rs.length := ⟨_, rfl⟩
  rw [← hN] at hcc hl
  have HN := hid hN
  have hee : ((0 : Int) != 0) = false := by simp
  have hNI : (N : Int) ≤ 15625 := by omega
  clear hk1 hk2 HLO HHI he hz hln hl24 hv hrs hN hl2
  go_enter Try.func30, Try.ntmps30
  go_upto_region 1 with fail
  clear hW
  have S0 : BlS W W.drew := (Below.refl W.heap.size W).drew
  refine wp_region_head 9 (fun w' => BlS W w') (by kernel_rfl) rfl ?_
  generalize W.drew = Y0 at *
  refine HeadAt.take (i := 0) (.agg #[.int .i64 X.l, .int .i64 X.n, .int .i64 X.pi, .int .i64 X.sl, .int .i64 X.ga, .int .i64 X.pa, .int .i64 X.sp, .slice aT n cT]) rfl (by kernel_rfl) (.inl ⟨rfl, fun w' z => ?_⟩) S0 ?_
  · (have z0 := (x0.below z).cell 0 rfl; have z1 := (x0.below z).cell 1 rfl; have z2 := (x0.below z).cell 2 rfl; have z3 := (x0.below z).cell 3 rfl; have z4 := (x0.below z).cell 4 rfl; have z5 := (x0.below z).cell 5 rfl; have z6 := (x0.below z).cell 6 rfl; have z7 := (x0.below z).cell 7 rfl; simp [go_sem, z0, z1, z2, z3, z4, z5, z6, z7])
  (try simp only [Act.put, List.getElem_toArray, List.getElem_cons_succ, List.getElem_cons_zero, List.setIfInBounds_toArray, List.set_cons_succ, List.set_cons_zero])
  refine HeadAt.take (i := 1) (.agg #[.int .i64 X.l, .int .i64 X.n, .int .i64 X.pi, .int .i64 X.sl, .int .i64 X.ga, .int .i64 X.pa, .int .i64 X.sp, .slice aT n cT]) rfl (by kernel_rfl) (.inl ⟨rfl, fun w' z => ?_⟩) S0 ?_
  · (have z0 := (x0.below z).cell 0 rfl; have z1 := (x0.below z).cell 1 rfl; have z2 := (x0.below z).cell 2 rfl; have z3 := (x0.below z).cell 3 rfl; have z4 := (x0.below z).cell 4 rfl; have z5 := (x0.below z).cell 5 rfl; have z6 := (x0.below z).cell 6 rfl; have z7 := (x0.below z).cell 7 rfl; simp [go_sem, z0, z1, z2, z3, z4, z5, z6, z7])
  (try simp only [Act.put, List.getElem_toArray, List.getElem_cons_succ, List.getElem_cons_zero, List.setIfInBounds_toArray, List.set_cons_succ, List.set_cons_zero])
  refine HeadAt.take (i := 2) (.int .i64 s) rfl (by kernel_rfl) (.inl ⟨rfl, fun w' z => ?_⟩) S0 ?_
  · (have z0 := (x1.below z).cell 0 rfl; simp [go_sem, z0])
  (try simp only [Act.put, List.getElem_toArray, List.getElem_cons_succ, List.getElem_cons_zero, List.setIfInBounds_toArray, List.set_cons_succ, List.set_cons_zero])
  refine HeadAt.one (i := 3) rfl (by kernel_rfl) ?_
  generalize hK : Upto _ _ = K0
  (try simp only [Act.put, List.getElem_toArray, List.getElem_cons_succ, List.getElem_cons_zero, List.setIfInBounds_toArray, List.set_cons_succ, List.set_cons_zero])
  go_wp2_with fail
  refine (hsl _).mono ?_
  rintro e V3 ⟨rfl, hb3⟩
  go_wp2_with fail
  replace S0 : BlS W V3 := Below.trans S0 (hb3.mono (Below.size S0))
  clear hb3 hsl
  have hc := hcc _ (hX2.below S0 (Nat.le_refl _))
  have hs3 := Below.size S0
  subst hK
  refine ⟨S0, ?_⟩
  (try simp only [Act.put, List.getElem_toArray, List.getElem_cons_succ, List.getElem_cons_zero, List.setIfInBounds_toArray, List.set_cons_succ, List.set_cons_zero])
  refine HeadAt.one (i := 4) rfl (by kernel_rfl) ?_
  generalize hK : Upto _ _ = K0
  (try simp only [Act.put, List.getElem_toArray, List.getElem_cons_succ, List.getElem_cons_zero, List.setIfInBounds_toArray, List.set_cons_succ, List.set_cons_zero])
  go_wp2_with fail
  refine hc.mono ?_
  rintro e V4 ⟨hb4, a, c, vs, rfl, hown, hrv⟩
  go_wp2_with fail
  replace S0 : BlS W V4 := Below.trans S0 (hb4.mono (Below.size S0))
  clear hb4 hc hcc
  subst hK
  refine ⟨S0, ?_⟩
  (try simp only [Act.put, List.getElem_toArray, List.getElem_cons_succ, List.getElem_cons_zero, List.setIfInBounds_toArray, List.set_cons_succ, List.set_cons_zero])
  refine HeadAt.take (i := 5) (.tuple #[.slice a N c, .int .i64 0]) rfl (by kernel_rfl) (.inl ⟨rfl, fun _ _ => by simp [go_sem]⟩) S0 ?_
  (try simp only [Act.put, List.getElem_toArray, List.getElem_cons_succ, List.getElem_cons_zero, List.setIfInBounds_toArray, List.set_cons_succ, List.set_cons_zero])
  refine HeadAt.take (i := 6) (.slice a N c) rfl (by kernel_rfl) (.inl ⟨rfl, fun w' z => ?_⟩) S0 ?_
  · (simp [go_sem])
  (try simp only [Act.put, List.getElem_toArray, List.getElem_cons_succ, List.getElem_cons_zero, List.setIfInBounds_toArray, List.set_cons_succ, List.set_cons_zero])
  refine HeadAt.take (i := 7) (.int .i64 0) rfl (by kernel_rfl) (.inl ⟨rfl, fun w' z => ?_⟩) S0 ?_
  · (simp [go_sem])
  (try simp only [Act.put, List.getElem_toArray, List.getElem_cons_succ, List.getElem_cons_zero, List.setIfInBounds_toArray, List.set_cons_succ, List.set_cons_zero])
  refine HeadAt.take (i := 8) (.slice a N c) rfl (by kernel_rfl) (.inl ⟨rfl, fun _ _ => by simp [go_sem]⟩) S0 ?_
  (try simp only [Act.put, List.getElem_toArray, List.getElem_cons_succ, List.getElem_cons_zero, List.setIfInBounds_toArray, List.set_cons_succ, List.set_cons_zero])
  refine HeadAt.done (by kernel_rfl) ?_
  (try simp only [Act.put, List.drop_succ_cons, List.drop_zero, List.getElem_toArray, List.getElem_cons_succ, List.getElem_cons_zero])
  go_wp2_with fail
  refine NoPanic.normal ?_
  replace x0 := x0.below S0
  replace x1 := x1.below S0
  replace x2 := x2.below S0
  replace hb := hb.trans (Below.mono S0 hb.size)
  clear S0
  have hR := Rds.of (rs := rs) (by rw [← HN.out]; exact hown) hrv
  clear hown hrv
  have c0 := x0.cell 0 rfl; have c1 := x0.cell 1 rfl; have c2 := x0.cell 2 rfl; have c3 := x0.cell 3 rfl; have c4 := x0.cell 4 rfl; have c5 := x0.cell 5 rfl; have c6 := x0.cell 6 rfl; have c7 := x0.cell 7 rfl
  have y0 := Bx.new V4 #[.int .i64 24, .int .i64 0] 39
  have hb4 := below_one (w := V4) (.cells #[.int .i64 24, .int .i64 0] 39)
  have hgw := hb.size
  have hx2l := x2.lt
  have hcn := fun (V : World) (x1' : Bx V (w.heap.size + 1) #[.int .i64 s] 3) (a' : Option Addr) (c' : Nat) (l' : List Int) (h : Ints V a' l') => count68_any (w.heap.size + 1) a' c' l' (eqB s) V h (fun V' x hb' _ => Asked1_any (w.heap.size + 1) s x V' (x1'.below hb'))
  go_wp2
  go_loopw [10, 11, 27] (fun v10 v11 v27 wr => ∃ k lo hi : Nat, k ≤ N ∧ v27 = .int .i64 (k : Int) ∧ Hid (lo = lowF s (rs.take k) ∧ hi = higF s (rs.take k)) ∧ Bx wr V4.heap.size #[.int .i64 (lo : Int), .int .i64 (hi : Int)] 39 ∧ Below V4.heap.size V4 wr) (fun _ _ v27 _ => N - (intOf v27).toNat)
  case atStart => exact ⟨0, 24, 0, Nat.zero_le _, rfl, hid ⟨H0.out.1.symm, H0.out.2.symm⟩, y0, hb4⟩
  case round =>
    clear y0 hb4 c0 c1 c2 c3 c4 c5 c6 c7
    obtain ⟨k, lo, hi, hk, rfl, HQ, y0, hbr⟩ := hrel
    by_cases hlt : k < N
    · obtain ⟨x, hx⟩ : ∃ x, rs[k]? = some x := ⟨rs[k]'(by rw [← HN.out]; exact hlt), List.getElem?_eq_getElem _⟩
      obtain ⟨b, off, a1, c1, a2, c2, rfl, hbl, q1, q2, i1, i2⟩ := (hR.below hbr) k x hx
      have hkI : (k : Int) < N := by omega
      have hk0 : (0 : Int) ≤ (k : Int) := by omega
      have hba := below_one (w := wr) (.cells #[.slice a1 x.1.length c1, .slice a2 x.2.length c2] 62)
      have yr := Bx.new wr #[.slice a1 x.1.length c1, .slice a2 x.2.length c2] 62
      have x1r := (x1.below hbr).below hba
      have hcall := hcn _ x1r a2 c2 x.2 (i2.i.below hba (Nat.le_refl _))
      have hl1 := HLT.out k x hx
      have hl2 := HHT.out k x hx
      have hc24 := HC24.out k x hx
      rw [← HQ.out.1] at hl1
      rw [← HQ.out.2] at hl2
      have h24 := HL24.out k
      rw [← HQ.out.1, ← HQ.out.2] at h24
      have HLL := hid (And.intro hl1 hl2)
      generalize cntF (eqB s) x.2 = q at *
      generalize x.1.length = n1 at *
      generalize x.2.length = n2 at *
      have ya := y0.below hba
      have hbr2 := hbr.trans (hba.mono hbr.size)
      have u1 := yr.cell 1 rfl
      have HY := hid (And.intro ya hbr2)
      clear hx i1 i2 hl1 hl2 hba x1r ya hbr2 yr y0 hbr HQ
      go_wp2_with fail
      refine hcall.mono ?_
      rintro e V5 ⟨rfl, hb5⟩
      obtain ⟨y0, hbr⟩ := HY.out
      replace y0 := y0.below hb5
      replace hbr := hbr.trans (hb5.mono hbr.size)
      clear HY hb5 hcall q1 q2 u1
      by_cases h1 : q ≤ lo
      · by_cases h2 : hi ≤ q
        · skip
          have HH := hid (And.intro (show q = lowF s (rs.take (k + 1)) ∧ q = higF s (rs.take (k + 1)) from ⟨by rw [HLL.out.1]; omega, by rw [HLL.out.2]; omega⟩) (And.intro (y0.set2 (.int .i64 (q : Int)) (.int .i64 (q : Int))) ((hbr.setCell (p := ⟨V4.heap.size, 0, none⟩) (Nat.le_refl _) (.int .i64 (q : Int))).setCell (p := ⟨V4.heap.size, 1, none⟩) (Nat.le_refl _) (.int .i64 (q : Int)))))
          have d0 := y0.cell 0 rfl; have d1 := y0.cell 1 rfl
          have f0 := y0.free 0; have f1 := y0.free 1
          have i1 : min (lo : Int) (q : Int) = (q : Int) := by omega
          have i2 : max (hi : Int) (q : Int) = (q : Int) := by omega
          have HI := hid (And.intro i1 i2)
          clear i1 i2
          clear y0 hbr h1 h2
          go_wp2
          obtain ⟨q1, y1, hb9⟩ := HH.out
          go_roundw
          case rel => exact ⟨k + 1, q, q, by omega, by go_num, hid q1, by rw [HI.out.1, HI.out.2]; exact y1, by rw [HI.out.1, HI.out.2]; exact hb9⟩
          case measure => simp [intOf]; omega
        · skip
          have HH := hid (And.intro (show q = lowF s (rs.take (k + 1)) ∧ hi = higF s (rs.take (k + 1)) from ⟨by rw [HLL.out.1]; omega, by rw [HLL.out.2]; omega⟩) (And.intro (y0.set2 (.int .i64 (q : Int)) (.int .i64 (hi : Int))) ((hbr.setCell (p := ⟨V4.heap.size, 0, none⟩) (Nat.le_refl _) (.int .i64 (q : Int))).setCell (p := ⟨V4.heap.size, 1, none⟩) (Nat.le_refl _) (.int .i64 (hi : Int)))))
          have d0 := y0.cell 0 rfl; have d1 := y0.cell 1 rfl
          have f0 := y0.free 0; have f1 := y0.free 1
          have i1 : min (lo : Int) (q : Int) = (q : Int) := by omega
          have i2 : max (hi : Int) (q : Int) = (hi : Int) := by omega
          have HI := hid (And.intro i1 i2)
          clear i1 i2
          clear y0 hbr h1 h2
          go_wp2
          obtain ⟨q1, y1, hb9⟩ := HH.out
          go_roundw
          case rel => exact ⟨k + 1, q, hi, by omega, by go_num, hid q1, by rw [HI.out.1, HI.out.2]; exact y1, by rw [HI.out.1, HI.out.2]; exact hb9⟩
          case measure => simp [intOf]; omega
      · by_cases h2 : hi ≤ q
        · skip
          have HH := hid (And.intro (show lo = lowF s (rs.take (k + 1)) ∧ q = higF s (rs.take (k + 1)) from ⟨by rw [HLL.out.1]; omega, by rw [HLL.out.2]; omega⟩) (And.intro (y0.set2 (.int .i64 (lo : Int)) (.int .i64 (q : Int))) ((hbr.setCell (p := ⟨V4.heap.size, 0, none⟩) (Nat.le_refl _) (.int .i64 (lo : Int))).setCell (p := ⟨V4.heap.size, 1, none⟩) (Nat.le_refl _) (.int .i64 (q : Int)))))
          have d0 := y0.cell 0 rfl; have d1 := y0.cell 1 rfl
          have f0 := y0.free 0; have f1 := y0.free 1
          have i1 : min (lo : Int) (q : Int) = (lo : Int) := by omega
          have i2 : max (hi : Int) (q : Int) = (q : Int) := by omega
          have HI := hid (And.intro i1 i2)
          clear i1 i2
          clear y0 hbr h1 h2
          go_wp2
          obtain ⟨q1, y1, hb9⟩ := HH.out
          go_roundw
          case rel => exact ⟨k + 1, lo, q, by omega, by go_num, hid q1, by rw [HI.out.1, HI.out.2]; exact y1, by rw [HI.out.1, HI.out.2]; exact hb9⟩
          case measure => simp [intOf]; omega
        · skip
          have HH := hid (And.intro (show lo = lowF s (rs.take (k + 1)) ∧ hi = higF s (rs.take (k + 1)) from ⟨by rw [HLL.out.1]; omega, by rw [HLL.out.2]; omega⟩) (And.intro (y0.set2 (.int .i64 (lo : Int)) (.int .i64 (hi : Int))) ((hbr.setCell (p := ⟨V4.heap.size, 0, none⟩) (Nat.le_refl _) (.int .i64 (lo : Int))).setCell (p := ⟨V4.heap.size, 1, none⟩) (Nat.le_refl _) (.int .i64 (hi : Int)))))
          have d0 := y0.cell 0 rfl; have d1 := y0.cell 1 rfl
          have f0 := y0.free 0; have f1 := y0.free 1
          have i1 : min (lo : Int) (q : Int) = (lo : Int) := by omega
          have i2 : max (hi : Int) (q : Int) = (hi : Int) := by omega
          have HI := hid (And.intro i1 i2)
          clear i1 i2
          clear y0 hbr h1 h2
          go_wp2
          obtain ⟨q1, y1, hb9⟩ := HH.out
          go_roundw
          case rel => exact ⟨k + 1, lo, hi, by omega, by go_num, hid q1, by rw [HI.out.1, HI.out.2]; exact y1, by rw [HI.out.1, HI.out.2]; exact hb9⟩
          case measure => simp [intOf]; omega
    · have hkn : k = N := by omega
      have hql := HQ.out
      rw [List.take_of_length_le (by rw [hkn, HN.out]; exact Nat.le_refl _), ← HR.out, ← HR2.out] at hql
      obtain ⟨rfl, rfl⟩ := hql
      have x2r := x2.below hbr
      have hw := hb.trans (hbr.mono hgw)
      have z2 := x2r.set2 (.int .i64 (lo : Int)) (.int .i64 (hi : Int))
      have hbz := (hw.setCell (p := ⟨w.heap.size + 1 + 1, 0, none⟩) (by show w.heap.size ≤ w.heap.size + 1 + 1; omega) (.int .i64 (lo : Int))).setCell (p := ⟨w.heap.size + 1 + 1, 1, none⟩) (by show w.heap.size ≤ w.heap.size + 1 + 1; omega) (.int .i64 (hi : Int))
      have HZ := hid (And.intro z2 hbz)
      have d0 := y0.cell 0 rfl; have d1 := y0.cell 1 rfl
      have k0 := x2r.cell 0 rfl; have k1 := x2r.cell 1 rfl
      have f0 := x2r.free 0; have f1 := x2r.free 1
      clear x0 x1 x2 x2r z2 hbz hb hkn HQ y0 hbr hw hcn
      go_wp2
      obtain ⟨z2, hbz⟩ := HZ.out
      generalize World.setCell (World.setCell _ _ _) _ _ = VV at *
      clear k0 k1 f0 f1
      have k0 := z2.cell 0 rfl; have k1 := z2.cell 1 rfl
      refine bodyPost_ret (v := .tuple #[.agg #[.int .i64 (lo : Int), .int .i64 (hi : Int)], .int .i64 0]) ?_ rfl ⟨by rw [HER.out], hbz⟩
      simp [results, Try.results30, go_sem, k0, k1]
end Go.Proofs.Yteianfbdhakhpaa
