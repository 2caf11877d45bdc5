import Derived.Test.YteianfbdhakhpaaTE
/-! Asked. -/
namespace Go.Proofs.Yteianfbdhakhpaa
set_option linter.unusedSimpArgs false
set_option linter.unusedVariables false
open Go Go.RowKit

set_option maxRecDepth 100000 in
set_option maxHeartbeats 2000000 in
theorem count68_any (g : Nat) (a : Option Addr) (c : Nat) (l : List Int) (f : Int → Bool) (w : World) (hI : Ints w a l) (hf : ∀ V x, Below w.heap.size w V → x ∈ l → Calls Try.prog 68 #[.int .i64 x, .pointer (some ⟨g, 0, none⟩)] V fun e w' => e = .returned (.bool (f x)) ∧ Below V.heap.size V w') : Calls Try.prog 67 #[.slice a l.length c, .func (.func 68) #[] #[.pointer (some ⟨g, 0, none⟩)]] w fun e w' => e = .returned (.int .i64 (cntF f l)) ∧ Below w.heap.size w w' := by
  have hlen := hI.len
  have hle : cntF f l ≤ l.length := List.length_filter_le _ _
  have HK := hid (show ∀ k x, l[k]? = some x → cntF f (l.take (k + 1)) = cntF f (l.take k) + if f x = true then 1 else 0 from fun k x h => by
    unfold cntF; rw [List.take_add_one, h, List.filter_append, List.length_append]
    cases hx : f x <;> simp [hx])
  have HLE := hid (show ∀ k, cntF f (l.take k) ≤ k from fun k => Nat.le_trans (List.length_filter_le _ _) (by rw [List.length_take]; omega))
  obtain ⟨R, hR⟩ : ∃ R, R = cntF f l := ⟨_, rfl⟩
  rw [← hR] at hle ⊢
  have HR := hid hR
  obtain ⟨n, hn⟩ : ∃ n, n = l.length := ⟨_, rfl⟩
  rw [← hn] at hlen hle ⊢
  have HN := hid hn
  have HF := hid hf
  clear hn hR hf
  go_enter Try.func67, Try.ntmps67
  go_wp2
  go_loopw [5, 10] (fun v5 v10 wr => ∃ k q : Nat, k ≤ n ∧ v10 = .int .i64 (k : Int) ∧ v5 = .int .i64 (q : Int) ∧ Hid (q = cntF f (l.take k)) ∧ Below w.heap.size w wr) (fun _ v10 _ => n - (intOf v10).toNat)
  case atStart => exact ⟨0, 0, Nat.zero_le _, rfl, rfl, hid rfl, Below.refl _ _⟩
  case round =>
    obtain ⟨k, q, hk, rfl, rfl, HQ, hb⟩ := hrel
    by_cases hlt : k < n
    · obtain ⟨b1, o1, x, rfl, _, hc1, _, _, hg1, _⟩ := (hI.below hb (Nat.le_refl _)).at (k := k) (by rw [← HN.out]; exact hlt)
      have hkI : (k : Int) < n := by omega
      have hk0 : (0 : Int) ≤ (k : Int) := by omega
      have hq1 : q ≤ k := by rw [HQ.out]; exact HLE.out k
      have ewq : IntKind.i64.wrap ((q : Int) + 1) = (q : Int) + 1 := IntWalk.i64_in _ (by omega)
      have hcall := HF.out wr x hb (List.mem_of_getElem? hg1.out)
      have hs := HK.out k x hg1.out
      rw [← HQ.out] at hs
      clear hg1
      cases hx : f x with
      | true =>
        rw [hx] at hcall hs
        have HS := hid (show q + 1 = cntF f (l.take (k + 1)) by rw [hs]; rfl)
        clear hs hx
        go_wp2_with fail
        refine hcall.mono ?_
        rintro e V1 ⟨rfl, hb1⟩
        replace hb := hb.trans (hb1.mono hb.size)
        clear hb1 hcall hc1
        go_wp2
        go_roundw
        case rel => exact ⟨k + 1, q + 1, by omega, by simp, by go_num, HS, hb⟩
        case measure => simp [intOf]; omega
      | false =>
        rw [hx] at hcall hs
        have HS := hid (show q = cntF f (l.take (k + 1)) by rw [hs]; rfl)
        clear hs hx
        go_wp2_with fail
        refine hcall.mono ?_
        rintro e V1 ⟨rfl, hb1⟩
        replace hb := hb.trans (hb1.mono hb.size)
        clear hb1 hcall hc1
        go_wp2
        go_roundw
        case rel => exact ⟨k + 1, q, by omega, by simp, rfl, HS, hb⟩
        case measure => simp [intOf]; omega
    · have hkn : k = n := by omega
      have hq := HQ.out
      rw [List.take_of_length_le (by rw [hkn, HN.out]; exact Nat.le_refl _), ← HR.out] at hq
      have HQ2 := hid hq
      clear hq HQ
      go_wp2
      go_ret
      exact ⟨ret_int (by rw [HQ2.out]), hb⟩
def eqB (s x : Int) : Bool := decide (x = s)
set_option maxRecDepth 100000 in
set_option maxHeartbeats 1000000 in
theorem Asked1_any (g : Nat) (s x : Int) (w : World) (x0 : Bx w g #[.int .i64 s] 3) : Calls Try.prog 68 #[.int .i64 x, .pointer (some ⟨g, 0, none⟩)] w fun e w' => e = .returned (.bool (eqB s x)) ∧ Below w.heap.size w w' := by
  have HE := hid (show (x == s) = eqB s x by
    unfold eqB
    by_cases h : x = s
    · simp [h]
    · rw [decide_eq_false h, beq_eq_false_iff_ne]; exact h)
  have c0 := x0.cell 0 rfl
  go_enter Try.func68, Try.ntmps68
  go_wp2
  go_ret
  exact ⟨ret_bool HE.out, Below.refl _ _⟩
def lowF (s : Int) (rs : List Rd) : Nat := rs.foldl (fun m r => min m (cntF (eqB s) r.2)) 24
def higF (s : Int) (rs : List Rd) : Nat := rs.foldl (fun m r => max m (cntF (eqB s) r.2)) 0
theorem lowF_take (s : Int) {rs : List Rd} {k : Nat} {r : Rd} (h : rs[k]? = some r) : lowF s (rs.take (k + 1)) = min (lowF s (rs.take k)) (cntF (eqB s) r.2) := by
  unfold lowF; rw [List.take_add_one, h, List.foldl_append]; rfl
theorem higF_take (s : Int) {rs : List Rd} {k : Nat} {r : Rd} (h : rs[k]? = some r) : higF s (rs.take (k + 1)) = max (higF s (rs.take k)) (cntF (eqB s) r.2) := by
  unfold higF; rw [List.take_add_one, h, List.foldl_append]; rfl
theorem lowF_le (s : Int) : ∀ (rs : List Rd) , lowF s rs ≤ 24 := by
  have : ∀ (rs : List Rd) (m : Nat), rs.foldl (fun m r => min m (cntF (eqB s) r.2)) m ≤ m := by
    intro rs
    induction rs with
    | nil => exact fun m => Nat.le_refl _
    | cons r rs ih => exact fun m => Nat.le_trans (ih _) (Nat.min_le_left _ _)
  exact fun rs => this rs 24
theorem higF_le (s : Int) : ∀ (rs : List Rd), (∀ r ∈ rs, r.2.length ≤ 24) → higF s rs ≤ 24 := by
  have : ∀ (rs : List Rd) (m : Nat), m ≤ 24 → (∀ r ∈ rs, r.2.length ≤ 24) → rs.foldl (fun m r => max m (cntF (eqB s) r.2)) m ≤ 24 := by
    intro rs
    induction rs with
    | nil => exact fun m h _ => h
    | cons r rs ih => exact fun m h h2 => ih _ (by have := h2 r (by simp); have : cntF (eqB s) r.2 ≤ r.2.length := List.length_filter_le _ _; show max m (cntF (eqB s) r.2) ≤ 24; omega) (fun q hq => h2 q (by simp [hq]))
  exact fun rs h => this rs 0 (by omega) h
def askE (X : Pu) (s : Int) : Int := erX X (selB X s)
def askLo (X : Pu) (s : Int) : Nat := if askE X s = 0 then lowF s (RS X) else 0
def askHi (X : Pu) (s : Int) : Nat := if askE X s = 0 then higF s (RS X) else 0
theorem RS_len24 {X : Pu} (hv : vB X = true) : ∀ r ∈ RS X, r.2.length ≤ 24 := fun r hr => by
  obtain ⟨ok, _, h3⟩ := vB_ok hv
  obtain ⟨_, _, h⟩ := rdL_mem hr
  have h1 := (lof_rng ok h).1
  have h2 := woA_len r.1 X.ts 0
  have h4 := (timesB_rng h3).1
  unfold woL at h1
  omega
theorem RS_i64 {X : Pu} (hv : vB X = true) : ∀ r ∈ RS X, ∀ x ∈ r.2, 0 ≤ x ∧ x ≤ 24 := fun r hr x hx => by
  obtain ⟨ok, _, h3⟩ := vB_ok hv
  obtain ⟨_, _, h⟩ := rdL_mem hr
  have := (lof_rng ok h).2 x hx
  omega

set_option maxRecDepth 100000 in
set_option maxHeartbeats 6000000 in
theorem Asked_any (aT : Option Addr) (cT : Nat) (X : Pu) (s : Int) (w : World) (hX : Ints w aT X.ts) : Calls Try.prog 30 #[.agg #[.int .i64 X.l, .int .i64 X.n, .int .i64 X.pi, .int .i64 X.sl, .int .i64 X.ga, .int .i64 X.pa, .int .i64 X.sp, .slice aT X.ts.length cT], .int .i64 s] w fun e w' => e = .returned (.tuple #[.agg #[.int .i64 (askLo X s), .int .i64 (askHi X s)], .int .i64 (askE X s)]) ∧ Below w.heap.size w w' := by
  obtain ⟨W, hW, hb, _, x0, x1, x2⟩ := boxes3 w #[.int .i64 X.l, .int .i64 X.n, .int .i64 X.pi, .int .i64 X.sl, .int .i64 X.ga, .int .i64 X.pa, .int .i64 X.sp, .slice aT X.ts.length cT] 24 #[.int .i64 s] 3 #[.int .i64 0, .int .i64 0] 39
  have hsl := fun V => isSelection_any aT cT X s V
  have hk1 := fun V h => ask_bad aT cT X (selB X s) V h
  have hk2 := fun V h => ask_ok aT cT X (selB X s) V h
  have hz := fun h => erO_zero (X := X) (o := selB X s) h
  have hln := fun h => erO_len (X := X) h
  have hl24 := fun h => RS_len24 (X := X) h
  have hX2 := hX.below hb (Nat.le_refl _)
  have e1 : erO (chkE X (selB X s)) (rdL X X.sp.toNat) = askE X s := rfl
  have e2 : rdL X X.sp.toNat = RS X := rfl
  rw [e1] at hk1 hk2 hz
  rw [e2] at hk2 hz hln
  have HLO := hid (show askLo X s = if askE X s = 0 then lowF s (RS X) else 0 from rfl)
  have HHI := hid (show askHi X s = if askE X s = 0 then higF s (RS X) else 0 from rfl)
  generalize askLo X s = LO at *
  generalize askHi X s = HI at *
  generalize askE X s = er at *
  generalize selB X s = so at *
  obtain ⟨n, hn⟩ : ∃ n, n = X.ts.length := ⟨_, rfl⟩
  rw [← hn] at x0 hW hk1 hk2 hsl ⊢
  have hws := hb.size
  clear hX e1 e2 hn
  by_cases he : er = 0
  rotate_left
  · skip
    have hcc := fun V h => hk1 V h he
    have HR := hid (show LO = 0 by rw [HLO.out, if_neg he])
    have HR2 := hid (show HI = 0 by rw [HHI.out, if_neg he])
    have hne : (er != 0) = true := by rw [bne_iff_ne]; exact he
    clear hk1 hk2 HLO HHI he hz hln hl24
    go_enter Try.func30, Try.ntmps30
    go_upto_region 1 with fail
    clear hW
    have S0 : BlS W W.drew := (Below.refl W.heap.size W).drew
    refine wp_region_head 9 (fun w' => BlS W w') (by kernel_rfl) rfl ?_
    generalize W.drew = Y0 at *
    refine HeadAt.take (i := 0) (.agg #[.int .i64 X.l, .int .i64 X.n, .int .i64 X.pi, .int .i64 X.sl, .int .i64 X.ga, .int .i64 X.pa, .int .i64 X.sp, .slice aT n cT]) rfl (by kernel_rfl) (.inl ⟨rfl, fun w' z => ?_⟩) S0 ?_
    · (have z0 := (x0.below z).cell 0 rfl; have z1 := (x0.below z).cell 1 rfl; have z2 := (x0.below z).cell 2 rfl; have z3 := (x0.below z).cell 3 rfl; have z4 := (x0.below z).cell 4 rfl; have z5 := (x0.below z).cell 5 rfl; have z6 := (x0.below z).cell 6 rfl; have z7 := (x0.below z).cell 7 rfl; simp [go_sem, z0, z1, z2, z3, z4, z5, z6, z7])
    (try simp only [Act.put, List.getElem_toArray, List.getElem_cons_succ, List.getElem_cons_zero, List.setIfInBounds_toArray, List.set_cons_succ, List.set_cons_zero])
    refine HeadAt.take (i := 1) (.agg #[.int .i64 X.l, .int .i64 X.n, .int .i64 X.pi, .int .i64 X.sl, .int .i64 X.ga, .int .i64 X.pa, .int .i64 X.sp, .slice aT n cT]) rfl (by kernel_rfl) (.inl ⟨rfl, fun w' z => ?_⟩) S0 ?_
    · (have z0 := (x0.below z).cell 0 rfl; have z1 := (x0.below z).cell 1 rfl; have z2 := (x0.below z).cell 2 rfl; have z3 := (x0.below z).cell 3 rfl; have z4 := (x0.below z).cell 4 rfl; have z5 := (x0.below z).cell 5 rfl; have z6 := (x0.below z).cell 6 rfl; have z7 := (x0.below z).cell 7 rfl; simp [go_sem, z0, z1, z2, z3, z4, z5, z6, z7])
    (try simp only [Act.put, List.getElem_toArray, List.getElem_cons_succ, List.getElem_cons_zero, List.setIfInBounds_toArray, List.set_cons_succ, List.set_cons_zero])
    refine HeadAt.take (i := 2) (.int .i64 s) rfl (by kernel_rfl) (.inl ⟨rfl, fun w' z => ?_⟩) S0 ?_
    · (have z0 := (x1.below z).cell 0 rfl; simp [go_sem, z0])
    (try simp only [Act.put, List.getElem_toArray, List.getElem_cons_succ, List.getElem_cons_zero, List.setIfInBounds_toArray, List.set_cons_succ, List.set_cons_zero])
    refine HeadAt.one (i := 3) rfl (by kernel_rfl) ?_
    generalize hK : Upto _ _ = K0
    (try simp only [Act.put, List.getElem_toArray, List.getElem_cons_succ, List.getElem_cons_zero, List.setIfInBounds_toArray, List.set_cons_succ, List.set_cons_zero])
    go_wp2_with fail
    refine (hsl _).mono ?_
    rintro e V3 ⟨rfl, hb3⟩
    go_wp2_with fail
    replace S0 : BlS W V3 := Below.trans S0 (hb3.mono (Below.size S0))
    clear hb3 hsl
    have hc := hcc _ (hX2.below S0 (Nat.le_refl _))
    have hs3 := Below.size S0
    subst hK
    refine ⟨S0, ?_⟩
    (try simp only [Act.put, List.getElem_toArray, List.getElem_cons_succ, List.getElem_cons_zero, List.setIfInBounds_toArray, List.set_cons_succ, List.set_cons_zero])
    refine HeadAt.one (i := 4) rfl (by kernel_rfl) ?_
    generalize hK : Upto _ _ = K0
    (try simp only [Act.put, List.getElem_toArray, List.getElem_cons_succ, List.getElem_cons_zero, List.setIfInBounds_toArray, List.set_cons_succ, List.set_cons_zero])
    go_wp2_with fail
    refine hc.mono ?_
    rintro e V4 ⟨rfl, hb4⟩
    go_wp2_with fail
    replace S0 : BlS W V4 := Below.trans S0 (hb4.mono (Below.size S0))
    clear hb4 hc hcc
    subst hK
    refine ⟨S0, ?_⟩
    (try simp only [Act.put, List.getElem_toArray, List.getElem_cons_succ, List.getElem_cons_zero, List.setIfInBounds_toArray, List.set_cons_succ, List.set_cons_zero])
    refine HeadAt.take (i := 5) (.tuple #[.slice none 0 0, .int .i64 er]) rfl (by kernel_rfl) (.inl ⟨rfl, fun _ _ => by simp [go_sem]⟩) S0 ?_
    (try simp only [Act.put, List.getElem_toArray, List.getElem_cons_succ, List.getElem_cons_zero, List.setIfInBounds_toArray, List.set_cons_succ, List.set_cons_zero])
    refine HeadAt.take (i := 6) (.slice none 0 0) rfl (by kernel_rfl) (.inl ⟨rfl, fun w' z => ?_⟩) S0 ?_
    · (simp [go_sem])
    (try simp only [Act.put, List.getElem_toArray, List.getElem_cons_succ, List.getElem_cons_zero, List.setIfInBounds_toArray, List.set_cons_succ, List.set_cons_zero])
    refine HeadAt.take (i := 7) (.int .i64 er) rfl (by kernel_rfl) (.inl ⟨rfl, fun w' z => ?_⟩) S0 ?_
    · (simp [go_sem])
    (try simp only [Act.put, List.getElem_toArray, List.getElem_cons_succ, List.getElem_cons_zero, List.setIfInBounds_toArray, List.set_cons_succ, List.set_cons_zero])
    refine HeadAt.take (i := 8) (.slice none 0 0) rfl (by kernel_rfl) (.inl ⟨rfl, fun _ _ => by simp [go_sem]⟩) S0 ?_
    (try simp only [Act.put, List.getElem_toArray, List.getElem_cons_succ, List.getElem_cons_zero, List.setIfInBounds_toArray, List.set_cons_succ, List.set_cons_zero])
    refine HeadAt.done (by kernel_rfl) ?_
    (try simp only [Act.put, List.drop_succ_cons, List.drop_zero, List.getElem_toArray, List.getElem_cons_succ, List.getElem_cons_zero])
    go_wp2_with fail
    refine NoPanic.normal ?_
    replace x0 := x0.below S0
    replace x1 := x1.below S0
    replace x2 := x2.below S0
    replace hb := hb.trans (Below.mono S0 hb.size)
    clear S0
    have c0 := x2.cell 0 rfl; have c1 := x2.cell 1 rfl
    have f0 := x2.free 0; have f1 := x2.free 1
    have y2 := x2.set2 (.int .i64 0) (.int .i64 0)
    have hbz := (hb.setCell (p := ⟨w.heap.size + 1 + 1, 0, none⟩) (by show w.heap.size ≤ w.heap.size + 1 + 1; omega) (.int .i64 0)).setCell (p := ⟨w.heap.size + 1 + 1, 1, none⟩) (by show w.heap.size ≤ w.heap.size + 1 + 1; omega) (.int .i64 0)
    have HZ := hid (And.intro y2 hbz)
    clear x0 x1 x2 y2 hbz hb
    go_wp2
    obtain ⟨y2, hbz⟩ := HZ.out
    generalize World.setCell (World.setCell _ _ _) _ _ = VV at *
    have k0 := y2.cell 0 rfl; have k1 := y2.cell 1 rfl
    refine bodyPost_ret (v := .tuple #[.agg #[.int .i64 0, .int .i64 0], .int .i64 er]) ?_ rfl ⟨by rw [HR.out, HR2.out]; rfl, hbz⟩
    simp [results, Try.results30, go_sem, k0, k1]
  obtain ⟨hv, -, -⟩ := hz he
  have hl := hln hv
  have hl2 := hl24 hv
  have hcc := fun V h => hk2 V h he
  have HR := hid (show LO = lowF s (RS X) by rw [HLO.out, if_pos he])
  have HR2 := hid (show HI = higF s (RS X) by rw [HHI.out, if_pos he])
  have HER := hid he
  obtain ⟨rs, hrs⟩ : ∃ rs, rs = RS X := ⟨_, rfl⟩
  rw [← hrs] at hcc hl hl2 HR HR2
  have HLT := hid (show ∀ (k : Nat) (r : Rd), rs[k]? = some r → lowF s (rs.take (k + 1)) = min (lowF s (rs.take k)) (cntF (eqB s) r.2) from fun k r h => lowF_take s h)
  have HHT := hid (show ∀ (k : Nat) (r : Rd), rs[k]? = some r → higF s (rs.take (k + 1)) = max (higF s (rs.take k)) (cntF (eqB s) r.2) from fun k r h => higF_take s h)
  have HL24 := hid (show ∀ k, lowF s (rs.take k) ≤ 24 ∧ higF s (rs.take k) ≤ 24 from fun k => ⟨lowF_le s _, higF_le s _ (fun r hr => hl2 r (List.mem_of_mem_take hr))⟩)
  have HC24 := hid (show ∀ (k : Nat) (r : Rd), rs[k]? = some r → cntF (eqB s) r.2 ≤ 24 from fun k r h => Nat.le_trans (List.length_filter_le _ _) (hl2 r (List.mem_of_getElem? h)))
  have H0 := hid (show lowF s (rs.take 0) = 24 ∧ higF s (rs.take 0) = 0 from ⟨by simp [lowF], by simp [higF]⟩)
  obtain ⟨N, hN⟩ : ∃ N, N = rs.length := ⟨_, rfl⟩
  rw [← hN] at hcc hl
  have HN := hid hN
  have hee : ((0 : Int) != 0) = false := by simp
  have hNI : (N : Int) ≤ 15625 := by omega
  clear hk1 hk2 HLO HHI he hz hln hl24 hv hrs hN hl2
  go_enter Try.func30, Try.ntmps30
  go_upto_region 1 with fail
  clear hW
  have S0 : BlS W W.drew := (Below.refl W.heap.size W).drew
  refine wp_region_head 9 (fun w' => BlS W w') (by kernel_rfl) rfl ?_
  generalize W.drew = Y0 at *
  refine HeadAt.take (i := 0) (.agg #[.int .i64 X.l, .int .i64 X.n, .int .i64 X.pi, .int .i64 X.sl, .int .i64 X.ga, .int .i64 X.pa, .int .i64 X.sp, .slice aT n cT]) rfl (by kernel_rfl) (.inl ⟨rfl, fun w' z => ?_⟩) S0 ?_
  · (have z0 := (x0.below z).cell 0 rfl; have z1 := (x0.below z).cell 1 rfl; have z2 := (x0.below z).cell 2 rfl; have z3 := (x0.below z).cell 3 rfl; have z4 := (x0.below z).cell 4 rfl; have z5 := (x0.below z).cell 5 rfl; have z6 := (x0.below z).cell 6 rfl; have z7 := (x0.below z).cell 7 rfl; simp [go_sem, z0, z1, z2, z3, z4, z5, z6, z7])
  (try simp only [Act.put, List.getElem_toArray, List.getElem_cons_succ, List.getElem_cons_zero, List.setIfInBounds_toArray, List.set_cons_succ, List.set_cons_zero])
  refine HeadAt.take (i := 1) (.agg #[.int .i64 X.l, .int .i64 X.n, .int .i64 X.pi, .int .i64 X.sl, .int .i64 X.ga, .int .i64 X.pa, .int .i64 X.sp, .slice aT n cT]) rfl (by kernel_rfl) (.inl ⟨rfl, fun w' z => ?_⟩) S0 ?_
  · (have z0 := (x0.below z).cell 0 rfl; have z1 := (x0.below z).cell 1 rfl; have z2 := (x0.below z).cell 2 rfl; have z3 := (x0.below z).cell 3 rfl; have z4 := (x0.below z).cell 4 rfl; have z5 := (x0.below z).cell 5 rfl; have z6 := (x0.below z).cell 6 rfl; have z7 := (x0.below z).cell 7 rfl; simp [go_sem, z0, z1, z2, z3, z4, z5, z6, z7])
  (try simp only [Act.put, List.getElem_toArray, List.getElem_cons_succ, List.getElem_cons_zero, List.setIfInBounds_toArray, List.set_cons_succ, List.set_cons_zero])
  refine HeadAt.take (i := 2) (.int .i64 s) rfl (by kernel_rfl) (.inl ⟨rfl, fun w' z => ?_⟩) S0 ?_
  · (have z0 := (x1.below z).cell 0 rfl; simp [go_sem, z0])
  (try simp only [Act.put, List.getElem_toArray, List.getElem_cons_succ, List.getElem_cons_zero, List.setIfInBounds_toArray, List.set_cons_succ, List.set_cons_zero])
  refine HeadAt.one (i := 3) rfl (by kernel_rfl) ?_
  generalize hK : Upto _ _ = K0
  (try simp only [Act.put, List.getElem_toArray, List.getElem_cons_succ, List.getElem_cons_zero, List.setIfInBounds_toArray, List.set_cons_succ, List.set_cons_zero])
  go_wp2_with fail
  refine (hsl _).mono ?_
  rintro e V3 ⟨rfl, hb3⟩
  go_wp2_with fail
  replace S0 : BlS W V3 := Below.trans S0 (hb3.mono (Below.size S0))
  clear hb3 hsl
  have hc := hcc _ (hX2.below S0 (Nat.le_refl _))
  have hs3 := Below.size S0
  subst hK
  refine ⟨S0, ?_⟩
  (try simp only [Act.put, List.getElem_toArray, List.getElem_cons_succ, List.getElem_cons_zero, List.setIfInBounds_toArray, List.set_cons_succ, List.set_cons_zero])
  refine HeadAt.one (i := 4) rfl (by kernel_rfl) ?_
  generalize hK : Upto _ _ = K0
  (try simp only [Act.put, List.getElem_toArray, List.getElem_cons_succ, List.getElem_cons_zero, List.setIfInBounds_toArray, List.set_cons_succ, List.set_cons_zero])
  go_wp2_with fail
  refine hc.mono ?_
  rintro e V4 ⟨hb4, a, c, vs, rfl, hown, hrv⟩
  go_wp2_with fail
  replace S0 : BlS W V4 := Below.trans S0 (hb4.mono (Below.size S0))
  clear hb4 hc hcc
  subst hK
  refine ⟨S0, ?_⟩
  (try simp only [Act.put, List.getElem_toArray, List.getElem_cons_succ, List.getElem_cons_zero, List.setIfInBounds_toArray, List.set_cons_succ, List.set_cons_zero])
  refine HeadAt.take (i := 5) (.tuple #[.slice a N c, .int .i64 0]) rfl (by kernel_rfl) (.inl ⟨rfl, fun _ _ => by simp [go_sem]⟩) S0 ?_
  (try simp only [Act.put, List.getElem_toArray, List.getElem_cons_succ, List.getElem_cons_zero, List.setIfInBounds_toArray, List.set_cons_succ, List.set_cons_zero])
  refine HeadAt.take (i := 6) (.slice a N c) rfl (by kernel_rfl) (.inl ⟨rfl, fun w' z => ?_⟩) S0 ?_
  · (simp [go_sem])
  (try simp only [Act.put, List.getElem_toArray, List.getElem_cons_succ, List.getElem_cons_zero, List.setIfInBounds_toArray, List.set_cons_succ, List.set_cons_zero])
  refine HeadAt.take (i := 7) (.int .i64 0) rfl (by kernel_rfl) (.inl ⟨rfl, fun w' z => ?_⟩) S0 ?_
  · (simp [go_sem])
  (try simp only [Act.put, List.getElem_toArray, List.getElem_cons_succ, List.getElem_cons_zero, List.setIfInBounds_toArray, List.set_cons_succ, List.set_cons_zero])
  refine HeadAt.take (i := 8) (.slice a N c) rfl (by kernel_rfl) (.inl ⟨rfl, fun _ _ => by simp [go_sem]⟩) S0 ?_
  (try simp only [Act.put, List.getElem_toArray, List.getElem_cons_succ, List.getElem_cons_zero, List.setIfInBounds_toArray, List.set_cons_succ, List.set_cons_zero])
  refine HeadAt.done (by kernel_rfl) ?_
  (try simp only [Act.put, List.drop_succ_cons, List.drop_zero, List.getElem_toArray, List.getElem_cons_succ, List.getElem_cons_zero])
  go_wp2_with fail
  refine NoPanic.normal ?_
  replace x0 := x0.below S0
  replace x1 := x1.below S0
  replace x2 := x2.below S0
  replace hb := hb.trans (Below.mono S0 hb.size)
  clear S0
  have hR := Rds.of (rs := rs) (by rw [← HN.out]; exact hown) hrv
  clear hown hrv
  have c0 := x0.cell 0 rfl; have c1 := x0.cell 1 rfl; have c2 := x0.cell 2 rfl; have c3 := x0.cell 3 rfl; have c4 := x0.cell 4 rfl; have c5 := x0.cell 5 rfl; have c6 := x0.cell 6 rfl; have c7 := x0.cell 7 rfl
  have y0 := Bx.new V4 #[.int .i64 24, .int .i64 0] 39
  have hb4 := below_one (w := V4) (.cells #[.int .i64 24, .int .i64 0] 39)
  have hgw := hb.size
  have hx2l := x2.lt
  have hcn := fun (V : World) (x1' : Bx V (w.heap.size + 1) #[.int .i64 s] 3) (a' : Option Addr) (c' : Nat) (l' : List Int) (h : Ints V a' l') => count68_any (w.heap.size + 1) a' c' l' (eqB s) V h (fun V' x hb' _ => Asked1_any (w.heap.size + 1) s x V' (x1'.below hb'))
  go_wp2
  go_loopw [10, 11, 27] (fun v10 v11 v27 wr => ∃ k lo hi : Nat, k ≤ N ∧ v27 = .int .i64 (k : Int) ∧ Hid (lo = lowF s (rs.take k) ∧ hi = higF s (rs.take k)) ∧ Bx wr V4.heap.size #[.int .i64 (lo : Int), .int .i64 (hi : Int)] 39 ∧ Below V4.heap.size V4 wr) (fun _ _ v27 _ => N - (intOf v27).toNat)
  case atStart => exact ⟨0, 24, 0, Nat.zero_le _, rfl, hid ⟨H0.out.1.symm, H0.out.2.symm⟩, y0, hb4⟩
  case round =>
    clear y0 hb4 c0 c1 c2 c3 c4 c5 c6 c7
    obtain ⟨k, lo, hi, hk, rfl, HQ, y0, hbr⟩ := hrel
    by_cases hlt : k < N
    · obtain ⟨x, hx⟩ : ∃ x, rs[k]? = some x := ⟨rs[k]'(by rw [← HN.out]; exact hlt), List.getElem?_eq_getElem _⟩
      obtain ⟨b, off, a1, c1, a2, c2, rfl, hbl, q1, q2, i1, i2⟩ := (hR.below hbr) k x hx
      have hkI : (k : Int) < N := by omega
      have hk0 : (0 : Int) ≤ (k : Int) := by omega
      have hba := below_one (w := wr) (.cells #[.slice a1 x.1.length c1, .slice a2 x.2.length c2] 62)
      have yr := Bx.new wr #[.slice a1 x.1.length c1, .slice a2 x.2.length c2] 62
      have x1r := (x1.below hbr).below hba
      have hcall := hcn _ x1r a2 c2 x.2 (i2.i.below hba (Nat.le_refl _))
      have hl1 := HLT.out k x hx
      have hl2 := HHT.out k x hx
      have hc24 := HC24.out k x hx
      rw [← HQ.out.1] at hl1
      rw [← HQ.out.2] at hl2
      have h24 := HL24.out k
      rw [← HQ.out.1, ← HQ.out.2] at h24
      have HLL := hid (And.intro hl1 hl2)
      generalize cntF (eqB s) x.2 = q at *
      generalize x.1.length = n1 at *
      generalize x.2.length = n2 at *
      have ya := y0.below hba
      have hbr2 := hbr.trans (hba.mono hbr.size)
      have u1 := yr.cell 1 rfl
      have HY := hid (And.intro ya hbr2)
      clear hx i1 i2 hl1 hl2 hba x1r ya hbr2 yr y0 hbr HQ
      go_wp2_with fail
      refine hcall.mono ?_
      rintro e V5 ⟨rfl, hb5⟩
      obtain ⟨y0, hbr⟩ := HY.out
      replace y0 := y0.below hb5
      replace hbr := hbr.trans (hb5.mono hbr.size)
      clear HY hb5 hcall q1 q2 u1
      by_cases h1 : q ≤ lo
      · by_cases h2 : hi ≤ q
        · skip
          have HH := hid (And.intro (show q = lowF s (rs.take (k + 1)) ∧ q = higF s (rs.take (k + 1)) from ⟨by rw [HLL.out.1]; omega, by rw [HLL.out.2]; omega⟩) (And.intro (y0.set2 (.int .i64 (q : Int)) (.int .i64 (q : Int))) ((hbr.setCell (p := ⟨V4.heap.size, 0, none⟩) (Nat.le_refl _) (.int .i64 (q : Int))).setCell (p := ⟨V4.heap.size, 1, none⟩) (Nat.le_refl _) (.int .i64 (q : Int)))))
          have d0 := y0.cell 0 rfl; have d1 := y0.cell 1 rfl
          have f0 := y0.free 0; have f1 := y0.free 1
          have i1 : (if q < lo then (q : Int) else (lo : Int)) = (q : Int) := by split <;> omega
          have i2 : (if hi < q then (q : Int) else (hi : Int)) = (q : Int) := by split <;> omega
          have HI := hid (And.intro i1 i2)
          clear i1 i2
          clear y0 hbr h1 h2
          go_wp2
          obtain ⟨q1, y1, hb9⟩ := HH.out
          go_roundw
          case rel => exact ⟨k + 1, q, q, by omega, by go_num, hid q1, by rw [HI.out.1, HI.out.2]; exact y1, by rw [HI.out.1, HI.out.2]; exact hb9⟩
          case measure => simp [intOf]; omega
        · skip
          have HH := hid (And.intro (show q = lowF s (rs.take (k + 1)) ∧ hi = higF s (rs.take (k + 1)) from ⟨by rw [HLL.out.1]; omega, by rw [HLL.out.2]; omega⟩) (And.intro (y0.set2 (.int .i64 (q : Int)) (.int .i64 (hi : Int))) ((hbr.setCell (p := ⟨V4.heap.size, 0, none⟩) (Nat.le_refl _) (.int .i64 (q : Int))).setCell (p := ⟨V4.heap.size, 1, none⟩) (Nat.le_refl _) (.int .i64 (hi : Int)))))
          have d0 := y0.cell 0 rfl; have d1 := y0.cell 1 rfl
          have f0 := y0.free 0; have f1 := y0.free 1
          have i1 : (if q < lo then (q : Int) else (lo : Int)) = (q : Int) := by split <;> omega
          have i2 : (if hi < q then (q : Int) else (hi : Int)) = (hi : Int) := by split <;> omega
          have HI := hid (And.intro i1 i2)
          clear i1 i2
          clear y0 hbr h1 h2
          go_wp2
          obtain ⟨q1, y1, hb9⟩ := HH.out
          go_roundw
          case rel => exact ⟨k + 1, q, hi, by omega, by go_num, hid q1, by rw [HI.out.1, HI.out.2]; exact y1, by rw [HI.out.1, HI.out.2]; exact hb9⟩
          case measure => simp [intOf]; omega
      · by_cases h2 : hi ≤ q
        · skip
          have HH := hid (And.intro (show lo = lowF s (rs.take (k + 1)) ∧ q = higF s (rs.take (k + 1)) from ⟨by rw [HLL.out.1]; omega, by rw [HLL.out.2]; omega⟩) (And.intro (y0.set2 (.int .i64 (lo : Int)) (.int .i64 (q : Int))) ((hbr.setCell (p := ⟨V4.heap.size, 0, none⟩) (Nat.le_refl _) (.int .i64 (lo : Int))).setCell (p := ⟨V4.heap.size, 1, none⟩) (Nat.le_refl _) (.int .i64 (q : Int)))))
          have d0 := y0.cell 0 rfl; have d1 := y0.cell 1 rfl
          have f0 := y0.free 0; have f1 := y0.free 1
          have i1 : (if q < lo then (q : Int) else (lo : Int)) = (lo : Int) := by split <;> omega
          have i2 : (if hi < q then (q : Int) else (hi : Int)) = (q : Int) := by split <;> omega
          have HI := hid (And.intro i1 i2)
          clear i1 i2
          clear y0 hbr h1 h2
          go_wp2
          obtain ⟨q1, y1, hb9⟩ := HH.out
          go_roundw
          case rel => exact ⟨k + 1, lo, q, by omega, by go_num, hid q1, by rw [HI.out.1, HI.out.2]; exact y1, by rw [HI.out.1, HI.out.2]; exact hb9⟩
          case measure => simp [intOf]; omega
        · skip
          have HH := hid (And.intro (show lo = lowF s (rs.take (k + 1)) ∧ hi = higF s (rs.take (k + 1)) from ⟨by rw [HLL.out.1]; omega, by rw [HLL.out.2]; omega⟩) (And.intro (y0.set2 (.int .i64 (lo : Int)) (.int .i64 (hi : Int))) ((hbr.setCell (p := ⟨V4.heap.size, 0, none⟩) (Nat.le_refl _) (.int .i64 (lo : Int))).setCell (p := ⟨V4.heap.size, 1, none⟩) (Nat.le_refl _) (.int .i64 (hi : Int)))))
          have d0 := y0.cell 0 rfl; have d1 := y0.cell 1 rfl
          have f0 := y0.free 0; have f1 := y0.free 1
          have i1 : (if q < lo then (q : Int) else (lo : Int)) = (lo : Int) := by split <;> omega
          have i2 : (if hi < q then (q : Int) else (hi : Int)) = (hi : Int) := by split <;> omega
          have HI := hid (And.intro i1 i2)
          clear i1 i2
          clear y0 hbr h1 h2
          go_wp2
          obtain ⟨q1, y1, hb9⟩ := HH.out
          go_roundw
          case rel => exact ⟨k + 1, lo, hi, by omega, by go_num, hid q1, by rw [HI.out.1, HI.out.2]; exact y1, by rw [HI.out.1, HI.out.2]; exact hb9⟩
          case measure => simp [intOf]; omega
    · have hkn : k = N := by omega
      have hql := HQ.out
      rw [List.take_of_length_le (by rw [hkn, HN.out]; exact Nat.le_refl _), ← HR.out, ← HR2.out] at hql
      obtain ⟨rfl, rfl⟩ := hql
      have x2r := x2.below hbr
      have hw := hb.trans (hbr.mono hgw)
      have z2 := x2r.set2 (.int .i64 (lo : Int)) (.int .i64 (hi : Int))
      have hbz := (hw.setCell (p := ⟨w.heap.size + 1 + 1, 0, none⟩) (by show w.heap.size ≤ w.heap.size + 1 + 1; omega) (.int .i64 (lo : Int))).setCell (p := ⟨w.heap.size + 1 + 1, 1, none⟩) (by show w.heap.size ≤ w.heap.size + 1 + 1; omega) (.int .i64 (hi : Int))
      have HZ := hid (And.intro z2 hbz)
      have d0 := y0.cell 0 rfl; have d1 := y0.cell 1 rfl
      have k0 := x2r.cell 0 rfl; have k1 := x2r.cell 1 rfl
      have f0 := x2r.free 0; have f1 := x2r.free 1
      clear x0 x1 x2 x2r z2 hbz hb hkn HQ y0 hbr hw hcn
      go_wp2
      obtain ⟨z2, hbz⟩ := HZ.out
      generalize World.setCell (World.setCell _ _ _) _ _ = VV at *
      clear k0 k1 f0 f1
      have k0 := z2.cell 0 rfl; have k1 := z2.cell 1 rfl
      refine bodyPost_ret (v := .tuple #[.agg #[.int .i64 (lo : Int), .int .i64 (hi : Int)], .int .i64 0]) ?_ rfl ⟨by rw [HER.out], hbz⟩
      simp [results, Try.results30, go_sem, k0, k1]
end Go.Proofs.Yteianfbdhakhpaa
