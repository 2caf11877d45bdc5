import Derived.Test.YteianfbdhakhpaaV7
/-! The specification's often, IsSelectionOf, Asked. -/
namespace Go.Proofs.Yteianfbdhakhpaa
set_option linter.unusedSimpArgs false
set_option linter.unusedVariables false
open Go Go.RowKit
/-- How often a number is in the sparks of readings. -/
def ofN (s : Int) (rs : List Rd) : Nat := (rs.map (fun r => cntF (eqB s) r.1)).sum
theorem ofN_take (s : Int) {rs : List Rd} {k : Nat} {r : Rd} (h : rs[k]? = some r) : ofN s (rs.take (k + 1)) = ofN s (rs.take k) + cntF (eqB s) r.1 := by
  unfold ofN
  rw [List.take_add_one, h, List.map_append, List.sum_append]; simp
theorem cnt_pair (x : Int) : ∀ l : List Int, l.Pairwise (· < ·) → cntF (eqB x) l = if inL x l = true then 1 else 0
  | [], _ => rfl
  | y :: l, h => by
    rw [List.pairwise_cons] at h
    have ih := cnt_pair x l h.2
    have hin : inL x (y :: l) = (x == y || inL x l) := rfl
    unfold cntF at ih ⊢
    rw [List.filter_cons, hin]
    by_cases hy : y = x
    · subst hy
      have hno : inL y l = false := by
        rw [← Bool.not_eq_true, inL_mem]
        intro hm
        have := h.1 y hm
        omega
      rw [hno] at ih
      simp [eqB, ih]
    · have h1 : eqB x y = false := by simp [eqB, hy]
      have h2 : (x == y) = false := by simp; exact fun e => hy e.symm
      rw [h1, h2, Bool.false_or]
      simpa using ih
theorem ofN_cnt {rs : List Rd} {k : Nat} (h : ∀ r ∈ rs, r.1.Pairwise (· < ·)) : ofN (k : Int) rs = cntK rs k := by
  induction rs with
  | nil => rfl
  | cons r rs ih =>
    have ih := ih (fun x hx => h x (List.mem_cons_of_mem _ hx))
    have h1 := cnt_pair (k : Int) r.1 (h r (by simp))
    unfold ofN at ih ⊢
    unfold cntK cntR at ih ⊢
    rw [List.map_cons, List.sum_cons, ih, h1, List.filter_cons]
    split <;> simp <;> omega
theorem rd_pair {X : Pu} {m : Nat} : ∀ r ∈ rdL X m, r.1.Pairwise (· < ·) := fun r h => ((risF_iff _ _).1 (rdL_mem h).2.1).2
set_option maxRecDepth 100000 in
set_option maxHeartbeats 3000000 in
theorem often_any (B : Nat) (a : Option Addr) (c : Nat) (rs : List Rd) (s : Int) (w : World) (hR : Rds B w a rs) (hn : rs.length ≤ 15625) (h1 : ∀ r ∈ rs, cntF (eqB s) r.1 ≤ 1) : Calls Try.prog 72 #[.slice a rs.length c, .int .i64 s] w fun e w' => e = .returned (.int .i64 (ofN s rs : Int)) ∧ Below w.heap.size w w' := by
  have hco := fun a c l V h => Count_any a c l s V h
  rw [show (fun x => x == s) = eqB s from rfl] at hco
  have HR := hid hR
  have H1 := hid h1
  obtain ⟨N, hN⟩ : ∃ N, N = rs.length := ⟨_, rfl⟩
  have HN := hid hN
  rw [← hN] at hn ⊢
  clear hN hR h1
  go_enter Try.func72, Try.ntmps72
  go_wp2
  go_loopw [5, 6] (fun v5 v6 wr => ∃ k q : Nat, k ≤ N ∧ q ≤ k ∧ v6 = .int .i64 (k : Int) ∧ v5 = .int .i64 (q : Int) ∧ Hid (q = ofN s (rs.take k)) ∧ Below w.heap.size w wr) (fun _ v6 _ => N - (intOf v6).toNat)
  case atStart => exact ⟨0, 0, Nat.zero_le _, Nat.le_refl _, rfl, rfl, hid rfl, Below.refl _ _⟩
  case round =>
    obtain ⟨k, q, hk, hq, rfl, rfl, HQ, hb⟩ := hrel
    by_cases hlt : k < N
    · obtain ⟨r, hrk⟩ : ∃ r, rs[k]? = some r := ⟨_, List.getElem?_eq_getElem (by rw [← HN.out]; exact hlt)⟩
      obtain ⟨b, off, a1, c1, a2, c2, rfl, hbl, q1, q2, i1, i2⟩ := HR.out k r hrk
      have hkI : (k : Int) < N := by omega
      have hk0 : (0 : Int) ≤ (k : Int) := by omega
      have hcw := ((show ClB w b (off + k * 2) (.slice a1 r.1.length c1) from ⟨q1, hbl⟩).below hb).1
      have hco1 := hco a1 c1 r.1 _ (i1.i.below hb (Nat.le_refl _))
      have hc1 := H1.out r (List.mem_of_getElem? hrk)
      have HQ2 := hid (show q + cntF (eqB s) r.1 = ofN s (rs.take (k + 1)) by rw [ofN_take s hrk, HQ.out])
      clear q1 q2 i1 i2 hrk hbl
      generalize cntF (eqB s) r.1 = cc at *
      generalize r.1.length = n1 at *
      go_wp2_with fail
      refine hco1.mono ?_
      rintro e V1 ⟨rfl, hb1⟩
      replace hb := hb.trans (hb1.mono hb.size)
      clear hb1 hco1 hcw hco
      go_wp2
      go_roundw
      case rel => exact ⟨k + 1, q + cc, by omega, by omega, by go_num, by go_num, HQ2, hb⟩
      case measure => simp [intOf]; omega
    · obtain rfl : k = N := by omega
      have HE := hid (show ofN s rs = q by rw [HQ.out, HN.out, List.take_length])
      clear HQ hco
      go_wp2
      go_ret
      exact ⟨by rw [HE.out]; rfl, hb⟩
set_option maxRecDepth 100000 in
set_option maxHeartbeats 3000000 in
theorem IsSelectionOf_any (aT : Option Addr) (cT : Nat) (X : Pu) (s : Int) (w : World) (hX : Ints w aT X.ts) : Calls Try.prog 69 #[.agg #[.int .i64 X.l, .int .i64 X.n, .int .i64 X.pi, .int .i64 X.sl, .int .i64 X.ga, .int .i64 X.pa, .int .i64 X.sp, .slice aT X.ts.length cT], .int .i64 s] w fun e w' => e = .returned (.bool (vB X && selB X s)) ∧ Below w.heap.size w w' := by
  obtain ⟨W, hW, hb, _, x0⟩ := boxes1 w #[.int .i64 X.l, .int .i64 X.n, .int .i64 X.pi, .int .i64 X.sl, .int .i64 X.ga, .int .i64 X.pa, .int .i64 X.sp, .slice aT X.ts.length cT] 24
  replace hX := hX.below hb (Nat.le_refl _)
  have hck := fun V h => rCheck_any aT cT X V h
  have hse := fun V => rIsSelection_any aT cT X s V
  have HVE := hid (show vE X = if vB X = true then 0 else 130 from rfl)
  generalize vE X = VE at *
  generalize vB X = vb at *
  generalize selB X s = sb at *
  generalize X.ts.length = n at *
  have c0 := x0.cell 0 rfl; have c1 := x0.cell 1 rfl; have c2 := x0.cell 2 rfl; have c3 := x0.cell 3 rfl; have c4 := x0.cell 4 rfl; have c5 := x0.cell 5 rfl; have c6 := x0.cell 6 rfl; have c7 := x0.cell 7 rfl
  go_enter Try.func69, Try.ntmps69
  go_wp2_with fail
  refine (hck _ hX).mono ?_
  rintro e V1 ⟨rfl, hb1⟩
  clear c0 c1 c2 c3 c4 c5 c6 c7 hck hW
  replace x0 := x0.below hb1
  replace hb := hb.trans (hb1.mono hb.size)
  clear hb1 hX
  have c0 := x0.cell 0 rfl; have c1 := x0.cell 1 rfl; have c2 := x0.cell 2 rfl; have c3 := x0.cell 3 rfl; have c4 := x0.cell 4 rfl; have c5 := x0.cell 5 rfl; have c6 := x0.cell 6 rfl; have c7 := x0.cell 7 rfl
  cases vb with
  | false =>
    obtain rfl : VE = 130 := HVE.out
    go_wp2
    go_ret
    exact ⟨rfl, hb⟩
  | true =>
    obtain rfl : VE = 0 := HVE.out
    go_wp2_with fail
    refine (hse _).mono ?_
    rintro e V2 ⟨rfl, hb1⟩
    replace hb := hb.trans (hb1.mono hb.size)
    clear hb1 c0 c1 c2 c3 c4 c5 c6 c7 x0
    cases sb with
    | false =>
      go_wp2
      go_ret
      exact ⟨rfl, hb⟩
    | true =>
      go_wp2
      go_ret
      exact ⟨rfl, hb⟩
theorem erX_sel (X : Pu) (s : Int) : erX X (vB X && selB X s) = askE X s := by
  unfold askE erX chkE
  cases vB X <;> rfl
set_option maxRecDepth 100000 in
set_option maxHeartbeats 6000000 in
theorem rAsked_any (aT : Option Addr) (cT : Nat) (X : Pu) (s : Int) (w : World) (hX : Ints w aT X.ts) : Calls Try.prog 31 #[.agg #[.int .i64 X.l, .int .i64 X.n, .int .i64 X.pi, .int .i64 X.sl, .int .i64 X.ga, .int .i64 X.pa, .int .i64 X.sp, .slice aT X.ts.length cT], .int .i64 s] w fun e w' => e = .returned (.tuple #[.agg #[.int .i64 (askLo X s), .int .i64 (askHi X s)], .int .i64 (askE X s)]) ∧ Below w.heap.size w w' := by
  obtain ⟨W, hW, hb, _, x0, x1⟩ := boxes2 w #[.int .i64 X.l, .int .i64 X.n, .int .i64 X.pi, .int .i64 X.sl, .int .i64 X.ga, .int .i64 X.pa, .int .i64 X.sp, .slice aT X.ts.length cT] 24 #[.int .i64 0, .int .i64 0] 39
  replace hX := hX.below hb (Nat.le_refl _)
  have hsl := fun V h => IsSelectionOf_any aT cT X s V h
  have hkn := fun V h => known_any aT cT X (vB X && selB X s) V h
  rw [erX_sel] at hkn
  have hco := fun a c l V h => Count_any a c l s V h
  rw [show (fun x => x == s) = eqB s from rfl] at hco
  have HV := hid (show askE X s = 0 → vB X = true ∧ RS X ≠ [] from fun h => by
    unfold askE erX chkE erO at h
    cases hv : vB X with
    | false => rw [hv] at h; simp at h
    | true =>
      refine ⟨rfl, fun hn => ?_⟩
      rw [hv, hn] at h
      cases hs : selB X s <;> rw [hs] at h <;> simp at h)
  have HLW := hid (show ((if askE X s = 0 then RS X else []) = [] → askLo X s = 0 ∧ askHi X s = 0) ∧ ((if askE X s = 0 then RS X else []) ≠ [] → askLo X s = lowF s (if askE X s = 0 then RS X else []) ∧ askHi X s = higF s (if askE X s = 0 then RS X else [])) ∧ (if askE X s = 0 then RS X else []).length ≤ 15625 ∧ ∀ r ∈ (if askE X s = 0 then RS X else []), cntF (eqB s) r.2 ≤ 24 by
    unfold askLo askHi
    by_cases h : askE X s = 0
    · have hv := HV.out h
      simp only [if_pos h]
      refine ⟨fun hn => absurd hn hv.2, fun _ => ⟨by trivial, by trivial⟩, rdL_len X _ (timesB_rng (vB_ok hv.1).2.2).1 (by have := (vB_ok hv.1).2.1; omega), fun r hr => ?_⟩
      exact Nat.le_trans (List.length_filter_le _ _) (RS_len24 hv.1 r hr)
    · simp only [if_neg h]
      exact ⟨fun _ => ⟨by trivial, by trivial⟩, fun hn => absurd rfl hn, by simp, fun r hr => nomatch hr⟩)
  unfold KnP at hkn
  generalize (if askE X s = 0 then RS X else []) = rs at *
  generalize askLo X s = ALO at *
  generalize askHi X s = AHI at *
  generalize askE X s = E at *
  generalize (vB X && selB X s) = so at *
  generalize X.ts.length = n at *
  clear HV
  obtain ⟨N, hN⟩ : ∃ N, N = rs.length := ⟨_, rfl⟩
  have HN := hid hN
  have hn15 := HLW.out.2.2.1
  rw [← hN] at hkn hn15
  clear hN
  go_enter Try.func31, Try.ntmps31
  go_upto_region 1 with fail
  clear hW
  have S0 : BlS W W.drew := (Below.refl W.heap.size W).drew
  refine wp_region_headW 10 (fun w' => BlS W w') (by kernel_rfl) (by kernel_rfl) ?_
  generalize W.drew = Y0 at *
  refine HeadAt.takeW (i := 0) (.agg #[.int .i64 X.l, .int .i64 X.n, .int .i64 X.pi, .int .i64 X.sl, .int .i64 X.ga, .int .i64 X.pa, .int .i64 X.sp, .slice aT n cT]) rfl (by kernel_rfl) (.inl ⟨rfl, fun w' z => ?_⟩) S0 ?_
  · (have z0 := (x0.below z).cell 0 rfl; have z1 := (x0.below z).cell 1 rfl; have z2 := (x0.below z).cell 2 rfl; have z3 := (x0.below z).cell 3 rfl; have z4 := (x0.below z).cell 4 rfl; have z5 := (x0.below z).cell 5 rfl; have z6 := (x0.below z).cell 6 rfl; have z7 := (x0.below z).cell 7 rfl; simp [go_sem, z0, z1, z2, z3, z4, z5, z6, z7])
  (try simp only [Act.put, List.getElem_toArray, List.getElem_cons_succ, List.getElem_cons_zero, List.setIfInBounds_toArray, List.set_cons_succ, List.set_cons_zero])
  refine HeadAt.takeW (i := 1) (.agg #[.int .i64 X.l, .int .i64 X.n, .int .i64 X.pi, .int .i64 X.sl, .int .i64 X.ga, .int .i64 X.pa, .int .i64 X.sp, .slice aT n cT]) rfl (by kernel_rfl) (.inl ⟨rfl, fun w' z => ?_⟩) S0 ?_
  · (have z0 := (x0.below z).cell 0 rfl; have z1 := (x0.below z).cell 1 rfl; have z2 := (x0.below z).cell 2 rfl; have z3 := (x0.below z).cell 3 rfl; have z4 := (x0.below z).cell 4 rfl; have z5 := (x0.below z).cell 5 rfl; have z6 := (x0.below z).cell 6 rfl; have z7 := (x0.below z).cell 7 rfl; simp [go_sem, z0, z1, z2, z3, z4, z5, z6, z7])
  (try simp only [Act.put, List.getElem_toArray, List.getElem_cons_succ, List.getElem_cons_zero, List.setIfInBounds_toArray, List.set_cons_succ, List.set_cons_zero])
  refine HeadAt.takeW (i := 2) (.int .i64 s) rfl (by kernel_rfl) (.inl ⟨rfl, fun _ _ => by simp [go_sem]⟩) S0 ?_
  (try simp only [Act.put, List.getElem_toArray, List.getElem_cons_succ, List.getElem_cons_zero, List.setIfInBounds_toArray, List.set_cons_succ, List.set_cons_zero])
  refine HeadAt.one (i := 3) rfl (by kernel_rfl) ?_
  generalize hK : Upto _ _ = K0
  (try simp only [Act.put, List.getElem_toArray, List.getElem_cons_succ, List.getElem_cons_zero, List.setIfInBounds_toArray, List.set_cons_succ, List.set_cons_zero])
  go_wp2_with fail
  refine (hsl _ (hX.below S0 (Nat.le_refl _))).mono ?_
  rintro e V3 ⟨rfl, hb1⟩
  go_wp2_with fail
  replace S0 := Below.trans S0 (hb1.mono (Below.size S0))
  clear hb1 hsl
  subst hK
  refine ⟨S0, ?_⟩
  (try simp only [Act.put, List.getElem_toArray, List.getElem_cons_succ, List.getElem_cons_zero, List.setIfInBounds_toArray, List.set_cons_succ, List.set_cons_zero])
  refine HeadAt.one (i := 4) rfl (by kernel_rfl) ?_
  generalize hK : Upto _ _ = K0
  (try simp only [Act.put, List.getElem_toArray, List.getElem_cons_succ, List.getElem_cons_zero, List.setIfInBounds_toArray, List.set_cons_succ, List.set_cons_zero])
  go_wp2_with fail
  refine (hkn _ (hX.below S0 (Nat.le_refl _))).mono ?_
  rintro e V4 ⟨hb1, a4, c4, rfl, hr4⟩
  go_wp2_with fail
  replace S0 := Below.trans S0 (hb1.mono (Below.size S0))
  clear hb1 hkn
  subst hK
  refine ⟨S0, ?_⟩
  (try simp only [Act.put, List.getElem_toArray, List.getElem_cons_succ, List.getElem_cons_zero, List.setIfInBounds_toArray, List.set_cons_succ, List.set_cons_zero])
  refine HeadAt.takeW (i := 5) (.tuple #[.slice a4 N c4, .int .i64 E]) rfl (by kernel_rfl) (.inl ⟨rfl, fun _ _ => by simp [go_sem]⟩) S0 ?_
  (try simp only [Act.put, List.getElem_toArray, List.getElem_cons_succ, List.getElem_cons_zero, List.setIfInBounds_toArray, List.set_cons_succ, List.set_cons_zero])
  refine HeadAt.takeW (i := 6) (.slice a4 N c4) rfl (by kernel_rfl) (.inl ⟨rfl, fun w' z => ?_⟩) S0 ?_
  · (simp [go_sem])
  (try simp only [Act.put, List.getElem_toArray, List.getElem_cons_succ, List.getElem_cons_zero, List.setIfInBounds_toArray, List.set_cons_succ, List.set_cons_zero])
  refine HeadAt.takeW (i := 7) (.int .i64 E) rfl (by kernel_rfl) (.inl ⟨rfl, fun w' z => ?_⟩) S0 ?_
  · (simp [go_sem])
  (try simp only [Act.put, List.getElem_toArray, List.getElem_cons_succ, List.getElem_cons_zero, List.setIfInBounds_toArray, List.set_cons_succ, List.set_cons_zero])
  refine HeadAt.takeW (i := 8) (.slice a4 N c4) rfl (by kernel_rfl) (.inl ⟨rfl, fun _ _ => by simp [go_sem]⟩) S0 ?_
  (try simp only [Act.put, List.getElem_toArray, List.getElem_cons_succ, List.getElem_cons_zero, List.setIfInBounds_toArray, List.set_cons_succ, List.set_cons_zero])
  refine HeadAt.takeW (i := 9) (.int .i64 E) rfl (by kernel_rfl) (.inl ⟨rfl, fun _ _ => by simp [go_sem]⟩) S0 ?_
  (try simp only [Act.put, List.getElem_toArray, List.getElem_cons_succ, List.getElem_cons_zero, List.setIfInBounds_toArray, List.set_cons_succ, List.set_cons_zero])
  refine HeadAt.done (by kernel_rfl) ?_
  (try simp only [Act.put, List.drop_succ_cons, List.drop_zero, List.getElem_toArray, List.getElem_cons_succ, List.getElem_cons_zero])
  go_wp2_with fail
  refine NoPanic.normal ?_
  have hbs := hb.size
  have HB := hid (hb.trans (Below.mono S0 hb.size))
  have x1 := x1.below S0
  have HR := hid hr4
  have hs4 := Below.size S0
  clear S0 x0 hX hb hr4
  have hlt1 := x1.lt
  obtain ⟨g, hg⟩ : ∃ g, g = V4.heap.size := ⟨_, rfl⟩
  have HG := hid hg
  have hg1 : g ≤ V4.heap.size := by omega
  have hg2 : V4.heap.size ≤ g := by omega
  have y0 : Bx (V4.alloc (.cells #[.int .i64 0, .int .i64 0] 39)) g #[.int .i64 0, .int .i64 0] 39 := by rw [hg]; exact Bx.new _ _ _
  have hbg : Below g V4 (V4.alloc (.cells #[.int .i64 0, .int .i64 0] 39)) := by rw [hg]; exact below_one _
  have HX1 := hid x1
  clear hg x1 hlt1
  have HY := hid (And.intro y0 hbg)
  clear y0 hbg
  go_wp2
  rw [← HG.out]
  obtain ⟨y0, hbg⟩ := HY.out
  clear HY
  generalize World.alloc _ _ = Va at *
  go_loopw [9] (fun v9 wr => ∃ k lo hi : Nat, k ≤ N ∧ v9 = .int .i64 (k : Int) ∧ lo ≤ 24 ∧ hi ≤ 24 ∧ Hid ((k = 0 ∧ lo = 0 ∧ hi = 0) ∨ (0 < k ∧ lo = lowF s (rs.take k) ∧ hi = higF s (rs.take k))) ∧ Bx wr g #[.int .i64 (lo : Int), .int .i64 (hi : Int)] 39 ∧ Below g V4 wr) (fun v9 _ => N - (intOf v9).toNat)
  case atStart => exact ⟨0, 0, 0, Nat.zero_le _, rfl, by omega, by omega, hid (.inl ⟨rfl, rfl, rfl⟩), y0, hbg⟩
  case round =>
    clear y0 hbg
    obtain ⟨k, lo, hi, hk, rfl, hlo, hhi, HL, y0, hbg⟩ := hrel
    by_cases hlt : k < N
    · obtain ⟨r, hrk⟩ : ∃ r, rs[k]? = some r := ⟨_, List.getElem?_eq_getElem (by rw [← HN.out]; exact hlt)⟩
      obtain ⟨b, off, a1, c1, a2, c2, rfl, hbl, q1, q2, i1, i2⟩ := HR.out k r hrk
      have hkI : (k : Int) < N := by omega
      have hk0 : (0 : Int) ≤ (k : Int) := by omega
      have hbV : Below V4.heap.size V4 wr := by rw [← HG.out]; exact hbg
      have hcw := ((show ClB V4 b (off + k * 2 + 1) (.slice a2 r.2.length c2) from ⟨q2, hbl⟩).below hbV).1
      have hco1 := hco a2 c2 r.2 _ (i2.i.below hbV (Nat.le_refl _))
      have hc24 := HLW.out.2.2.2 r (List.mem_of_getElem? hrk)
      have HTK := hid (And.intro (lowF_take s hrk) (higF_take s hrk))
      clear q1 q2 i1 i2 hrk hbl hbV
      generalize cntF (eqB s) r.2 = cc at *
      generalize r.2.length = n1 at *
      go_wp2_with fail
      refine hco1.mono ?_
      rintro e V5 ⟨rfl, hb1⟩
      replace y0 := y0.below hb1
      replace hbg := hbg.trans (hb1.mono (by have := hbg.size; omega))
      clear hb1 hco1 hcw hco
      by_cases hk00 : k = 0
      · have hkz : ((k : Int) == 0) = true := by simp [hk00]
        have HL2 := hid (show (k + 1 = 0 ∧ cc = 0 ∧ cc = 0) ∨ (0 < k + 1 ∧ cc = lowF s (rs.take (k + 1)) ∧ cc = higF s (rs.take (k + 1))) from .inr ⟨by omega, by
          rw [HTK.out.1, hk00]; show cc = min 24 cc; omega, by rw [HTK.out.2, hk00]; show cc = max 0 cc; omega⟩)
        clear hk00 HL HTK
        have y1 := y0.set2 (.int .i64 (cc : Int)) (.int .i64 (cc : Int))
        have hb1 := (hbg.setCell (p := ⟨g, 0, none⟩) (Nat.le_refl _) (.int .i64 (cc : Int))).setCell (p := ⟨g, 1, none⟩) (Nat.le_refl _) (.int .i64 (cc : Int))
        have HH := hid (And.intro y1 hb1)
        have f0 := y0.free 0; have f1 := y0.free 1
        have d0 := y0.cell 0 rfl; have d1 := y0.cell 1 rfl
        clear y0 hbg y1 hb1
        go_upto_region 9 with fail
        obtain ⟨y0, hbg⟩ := HH.out
        clear HH f0 f1 d0 d1
        generalize World.setCell (World.setCell _ _ _) _ _ = V6 at *
        have y1 := y0.set2 (.int .i64 (cc : Int)) (.int .i64 (cc : Int))
        have hb1 := (hbg.setCell (p := ⟨g, 0, none⟩) (Nat.le_refl _) (.int .i64 (cc : Int))).setCell (p := ⟨g, 1, none⟩) (Nat.le_refl _) (.int .i64 (cc : Int))
        have HH := hid (And.intro y1 hb1)
        have f0 := y0.free 0; have f1 := y0.free 1
        have d0 := y0.cell 0 rfl; have d1 := y0.cell 1 rfl
        have e1 : min (cc : Int) (cc : Int) = (cc : Int) := by omega
        have e2 : max (cc : Int) (cc : Int) = (cc : Int) := by omega
        clear y0 hbg y1 hb1
        go_wp2
        obtain ⟨y1, hb1⟩ := HH.out
        go_roundw
        case rel => exact ⟨k + 1, cc, cc, by omega, by go_num, hc24, hc24, HL2, y1, hb1⟩
        case measure => simp [intOf]; omega
      · have hkz : ((k : Int) == 0) = false := by rw [beq_eq_false_iff_ne]; omega
        obtain ⟨lo2, hl2⟩ : ∃ x, x = min lo cc := ⟨_, rfl⟩
        obtain ⟨hi2, hh2⟩ : ∃ x, x = max hi cc := ⟨_, rfl⟩
        have HL2 := hid (show (k + 1 = 0 ∧ lo2 = 0 ∧ hi2 = 0) ∨ (0 < k + 1 ∧ lo2 = lowF s (rs.take (k + 1)) ∧ hi2 = higF s (rs.take (k + 1))) from .inr (by
          rcases HL.out with ⟨h, _⟩ | ⟨_, h1, h2⟩
          · exact absurd h hk00
          · exact ⟨by omega, by rw [HTK.out.1, ← h1, hl2], by rw [HTK.out.2, ← h2, hh2]⟩))
        have e1 : min (lo : Int) (cc : Int) = (lo2 : Int) := by omega
        have e2 : max (hi : Int) (cc : Int) = (hi2 : Int) := by omega
        have hlo2 : lo2 ≤ 24 := by omega
        have hhi2 : hi2 ≤ 24 := by omega
        clear hk00 HL HTK hl2 hh2
        have y1 := y0.set2 (.int .i64 (lo2 : Int)) (.int .i64 (hi2 : Int))
        have hb1 := (hbg.setCell (p := ⟨g, 0, none⟩) (Nat.le_refl _) (.int .i64 (lo2 : Int))).setCell (p := ⟨g, 1, none⟩) (Nat.le_refl _) (.int .i64 (hi2 : Int))
        have HH := hid (And.intro y1 hb1)
        have f0 := y0.free 0; have f1 := y0.free 1
        have d0 := y0.cell 0 rfl; have d1 := y0.cell 1 rfl
        clear y0 hbg y1 hb1
        go_wp2
        obtain ⟨y1, hb1⟩ := HH.out
        go_roundw
        case rel => exact ⟨k + 1, lo2, hi2, by omega, by go_num, hlo2, hhi2, HL2, y1, hb1⟩
        case measure => simp [intOf]; omega
    · obtain rfl : k = N := by omega
      have HE := hid (show ALO = lo ∧ AHI = hi by
        obtain ⟨h1, h2, _, _⟩ := HLW.out
        by_cases hrn : rs = []
        · obtain ⟨e1, e2⟩ := h1 hrn
          have hk0 : k = 0 := by rw [HN.out, hrn]; rfl
          rcases HL.out with ⟨_, q1, q2⟩ | ⟨h, _⟩
          · exact ⟨by rw [e1, q1], by rw [e2, q2]⟩
          · omega
        · obtain ⟨e1, e2⟩ := h2 hrn
          have hk0 : 0 < k := by rw [HN.out]; exact List.length_pos_iff.2 hrn
          rcases HL.out with ⟨h, _, _⟩ | ⟨_, q1, q2⟩
          · omega
          · rw [e1, e2, q1, q2, HN.out, List.take_length]; exact ⟨rfl, rfl⟩)
      have x1r := HX1.out.below (show Below V4.heap.size V4 wr by rw [← HG.out]; exact hbg)
      have hw := HB.out.trans (hbg.mono (show w.heap.size ≤ g by have := HB.out.size; omega))
      have z2 := x1r.set2 (.int .i64 (lo : Int)) (.int .i64 (hi : Int))
      have hbz := (hw.setCell (p := ⟨w.heap.size + 1, 0, none⟩) (by show w.heap.size ≤ w.heap.size + 1; omega) (.int .i64 (lo : Int))).setCell (p := ⟨w.heap.size + 1, 1, none⟩) (by show w.heap.size ≤ w.heap.size + 1; omega) (.int .i64 (hi : Int))
      have HZ := hid (And.intro z2 hbz)
      have d0 := y0.cell 0 rfl; have d1 := y0.cell 1 rfl
      have k0 := x1r.cell 0 rfl; have k1 := x1r.cell 1 rfl
      have f0 := x1r.free 0; have f1 := x1r.free 1
      clear x1r z2 hbz y0 hbg hw hco HL
      go_wp2
      obtain ⟨z2, hbz⟩ := HZ.out
      generalize World.setCell (World.setCell _ _ _) _ _ = VV at *
      clear k0 k1 f0 f1
      have k0 := z2.cell 0 rfl; have k1 := z2.cell 1 rfl
      refine bodyPost_ret (v := .tuple #[.agg #[.int .i64 (lo : Int), .int .i64 (hi : Int)], .int .i64 E]) ?_ rfl ⟨by rw [HE.out.1, HE.out.2], hbz⟩
      simp [results, Try.results31, go_sem, k0, k1]
end Go.Proofs.Yteianfbdhakhpaa
