import Derived.Test.YteianfbdhakhpaaTI
import Derived.Test.YteianfbdhakhpaaTC
/-! Write. -/
namespace Go.Proofs.Yteianfbdhakhpaa
set_option linter.unusedSimpArgs false
set_option linter.unusedVariables false
open Go Go.RowKit
attribute [local go_sem] Oper.semAt_some

def tmB (x : Int) : Bool := fromI 0 x 99999

set_option maxRecDepth 100000 in
set_option maxHeartbeats 2000000 in
theorem count53_any (a : Option Addr) (c : Nat) (l : List Int) (f : Int → Bool) (w : World) (hI : Ints w a l) (hf : ∀ V x, Below w.heap.size w V → x ∈ l → Calls Try.prog 53 #[.int .i64 x] V fun e w' => e = .returned (.bool (f x)) ∧ Below V.heap.size V w') : Calls Try.prog 67 #[.slice a l.length c, .func (.func 53) #[] #[]] w fun e w' => e = .returned (.int .i64 (cntF f l)) ∧ Below w.heap.size w w' := by
  have hlen := hI.len
  have hle : cntF f l ≤ l.length := List.length_filter_le _ _
  have HK := hid (show ∀ k x, l[k]? = some x → cntF f (l.take (k + 1)) = cntF f (l.take k) + if f x = true then 1 else 0 from fun k x h => by
    unfold cntF; rw [List.take_add_one, h, List.filter_append, List.length_append]
    cases hx : f x <;> simp [hx])
  have HLE := hid (show ∀ k, cntF f (l.take k) ≤ k from fun k => Nat.le_trans (List.length_filter_le _ _) (by rw [List.length_take]; omega))
  obtain ⟨R, hR⟩ : ∃ R, R = cntF f l := ⟨_, rfl⟩
  rw [← hR] at hle ⊢
  have HR := hid hR
  obtain ⟨n, hn⟩ : ∃ n, n = l.length := ⟨_, rfl⟩
  rw [← hn] at hlen hle ⊢
  have HN := hid hn
  have HF := hid hf
  clear hn hR hf
  go_enter Try.func67, Try.ntmps67
  go_wp2
  go_loopw [5, 10] (fun v5 v10 wr => ∃ k q : Nat, k ≤ n ∧ v10 = .int .i64 (k : Int) ∧ v5 = .int .i64 (q : Int) ∧ Hid (q = cntF f (l.take k)) ∧ Below w.heap.size w wr) (fun _ v10 _ => n - (intOf v10).toNat)
  case atStart => exact ⟨0, 0, Nat.zero_le _, rfl, rfl, hid rfl, Below.refl _ _⟩
  case round =>
    obtain ⟨k, q, hk, rfl, rfl, HQ, hb⟩ := hrel
    by_cases hlt : k < n
    · obtain ⟨b1, o1, x, rfl, _, hc1, _, _, hg1, _⟩ := (hI.below hb (Nat.le_refl _)).at (k := k) (by rw [← HN.out]; exact hlt)
      have hkI : (k : Int) < n := by omega
      have hk0 : (0 : Int) ≤ (k : Int) := by omega
      have hq1 : q ≤ k := by rw [HQ.out]; exact HLE.out k
      have ewq : IntKind.i64.wrap ((q : Int) + 1) = (q : Int) + 1 := IntWalk.i64_in _ (by omega)
      have hcall := HF.out wr x hb (List.mem_of_getElem? hg1.out)
      have hs := HK.out k x hg1.out
      rw [← HQ.out] at hs
      clear hg1
      cases hx : f x with
      | true =>
        rw [hx] at hcall hs
        have HS := hid (show q + 1 = cntF f (l.take (k + 1)) by rw [hs]; rfl)
        clear hs hx
        go_wp2_with fail
        refine hcall.mono ?_
        rintro e V1 ⟨rfl, hb1⟩
        replace hb := hb.trans (hb1.mono hb.size)
        clear hb1 hcall hc1
        go_wp2
        go_roundw
        case rel => exact ⟨k + 1, q + 1, by omega, by simp, by go_num, HS, hb⟩
        case measure => simp [intOf]; omega
      | false =>
        rw [hx] at hcall hs
        have HS := hid (show q = cntF f (l.take (k + 1)) by rw [hs]; rfl)
        clear hs hx
        go_wp2_with fail
        refine hcall.mono ?_
        rintro e V1 ⟨rfl, hb1⟩
        replace hb := hb.trans (hb1.mono hb.size)
        clear hb1 hcall hc1
        go_wp2
        go_roundw
        case rel => exact ⟨k + 1, q, by omega, by simp, rfl, HS, hb⟩
        case measure => simp [intOf]; omega
    · have hkn : k = n := by omega
      have hq := HQ.out
      rw [List.take_of_length_le (by rw [hkn, HN.out]; exact Nat.le_refl _), ← HR.out] at hq
      have HQ2 := hid hq
      clear hq HQ
      go_wp2
      go_ret
      exact ⟨ret_int (by rw [HQ2.out]), hb⟩
set_option maxRecDepth 100000 in
set_option maxHeartbeats 2000000 in
theorem all53_any (a : Option Addr) (c : Nat) (l : List Int) (w : World) (hI : Ints w a l) : Calls Try.prog 55 #[.slice a l.length c, .func (.func 53) #[] #[]] w fun e w' => e = .returned (.bool (decide (cntF (tmB) l = l.length))) ∧ Below w.heap.size w w' := by
  have hc := count53_any a c l tmB w hI (fun V x _ _ => (isTime_any x V).mono (by rintro e w1 ⟨rfl, rfl⟩; exact ⟨rfl, Below.refl _ _⟩))
  generalize cntF (tmB) l = q at *
  obtain ⟨n, hn⟩ : ∃ n, n = l.length := ⟨_, rfl⟩
  rw [← hn] at hc ⊢
  clear hn
  have HE := hid (show ((q : Int) == (n : Int)) = decide (q = n) by
    by_cases h : q = n
    · simp [h]
    · rw [decide_eq_false h, beq_eq_false_iff_ne]; omega)
  go_enter Try.func55, Try.ntmps55
  go_wp2_with fail
  refine hc.mono ?_
  rintro e V1 ⟨rfl, hb1⟩
  go_wp2
  go_ret
  exact ⟨ret_bool (by first | exact HE.out | (rw [← HE.out])), hb1⟩

/-- Whether every written time is one. -/
def wrB (X : Pu) (L : List Int) (t : Int) : Bool := decide ((wrtL X L t).length ≤ 24) && decide (cntF tmB (wrtL X L t) = (wrtL X L t).length)
def wrO (X : Pu) (L : List Int) (t : Int) : Bool := listB X L && tmB t
/-- The error of Write, and the times that it hands back. -/
def wrE (X : Pu) (L : List Int) (t : Int) : Int := if chkE X (wrO X L t) = 0 then (if wrB X L t = true then 0 else 131) else chkE X (wrO X L t)
def wrLi (X : Pu) (L : List Int) (t : Int) : List Int := if wrE X L t = 0 then wrtL X L t else []
theorem cntF_all {f : Int → Bool} {l : List Int} (h : cntF f l = l.length) : ∀ x ∈ l, f x = true := List.length_filter_eq_length_iff.1 h
theorem fromI_iff {a x b : Int} : fromI a x b = true ↔ a ≤ x ∧ x ≤ b := by simp [fromI]
theorem wrO_ok {X : Pu} {L : List Int} {t : Int} (ok : POk X) (h : wrO X L t = true) : (0 ≤ t ∧ t ≤ 99999) ∧ L.length ≤ 24 ∧ ∀ s ∈ L, 0 ≤ s ∧ s < X.l * X.n := by
  simp only [wrO, listB, Bool.and_eq_true, decide_eq_true_eq] at h
  obtain ⟨⟨h1, h2⟩, h3⟩ := h
  refine ⟨fromI_iff.1 h3, h1, fun s hs => ?_⟩
  have := cntF_all h2 s hs
  rw [selB_ok ok, fromI_iff] at this
  omega
theorem chkE_ok {X : Pu} {o : Bool} (h : chkE X o = 0) : vB X = true ∧ o = true := by
  unfold chkE at h
  cases hv : vB X <;> cases o <;> simp [hv] at h ⊢
set_option maxRecDepth 100000 in
set_option maxHeartbeats 4000000 in
theorem Write_any (aT : Option Addr) (cT : Nat) (X : Pu) (aL : Option Addr) (cL : Nat) (L : List Int) (t : Int) (w : World) (hX : Ints w aT X.ts) (hI : Ints w aL L) : Calls Try.prog 17 #[.agg #[.int .i64 X.l, .int .i64 X.n, .int .i64 X.pi, .int .i64 X.sl, .int .i64 X.ga, .int .i64 X.pa, .int .i64 X.sp, .slice aT X.ts.length cT], .slice aL L.length cL, .int .i64 t] w (ReP (wrE X L t) (wrLi X L t) w) := by
  obtain ⟨W, hW, hb, _, x0⟩ := boxes1 w #[.int .i64 X.l, .int .i64 X.n, .int .i64 X.pi, .int .i64 X.sl, .int .i64 X.ga, .int .i64 X.pa, .int .i64 X.sp, .slice aT X.ts.length cT] 24
  have hIW := hI.below hb (Nat.le_refl _)
  have hXW := hX.below hb (Nat.le_refl _)
  have hli := fun V (h : Below W.heap.size W V) => isList_any aT cT X aL cL L V (hIW.below h (Nat.le_refl _))
  have hti := fun V => isTime_any t V
  have hch := fun V (h : Below W.heap.size W V) => check_any aT cT X (wrO X L t) V (hXW.below h (Nat.le_refl _))
  have hwr := fun (he : chkE X (wrO X L t) = 0) V (h : Below W.heap.size W V) => written_any aT cT X (vB_ok (chkE_ok he).1).1 aL cL L t (wrO_ok (vB_ok (chkE_ok he).1).1 (chkE_ok he).2).1 (wrO_ok (vB_ok (chkE_ok he).1).1 (chkE_ok he).2).2.2 (wrO_ok (vB_ok (chkE_ok he).1).1 (chkE_ok he).2).2.1 V (hIW.below h (Nat.le_refl _))
  have HWO := hid (show wrO X L t = (listB X L && fromI 0 t 99999) from rfl)
  have HWE := hid (show wrE X L t = if chkE X (wrO X L t) = 0 then (if wrB X L t = true then 0 else 131) else chkE X (wrO X L t) from rfl)
  have HWL := hid (show wrLi X L t = if wrE X L t = 0 then wrtL X L t else [] from rfl)
  have HWB := hid (show wrB X L t = (decide ((wrtL X L t).length ≤ 24) && decide (cntF tmB (wrtL X L t) = (wrtL X L t).length)) from rfl)
  have hno : chkE X (wrO X L t) = 0 → wrO X L t = true := fun h => (chkE_ok h).2
  generalize wrE X L t = WE at *
  generalize wrLi X L t = WL at *
  generalize wrB X L t = WB at *
  generalize wrtL X L t = WT at *
  generalize chkE X (wrO X L t) = ce at *
  generalize wrO X L t = wo at *
  generalize listB X L = lb at *
  generalize fromI 0 t 99999 = tb at *
  clear hIW hXW hX hI
  generalize X.ts.length = n at *
  generalize L.length = m at *
  go_enter Try.func17, Try.ntmps17
  go_upto_region 1 with fail
  clear hW
  cases lb with
  | false =>
    obtain rfl : wo = false := by rw [HWO.out]; rfl
    have S0 : BlS W W.drew := (Below.refl W.heap.size W).drew
    refine wp_region_head 9 (fun w' => BlS W w') (by kernel_rfl) rfl ?_
    generalize W.drew = Y0 at *
    refine HeadAt.take (i := 0) (.agg #[.int .i64 X.l, .int .i64 X.n, .int .i64 X.pi, .int .i64 X.sl, .int .i64 X.ga, .int .i64 X.pa, .int .i64 X.sp, .slice aT n cT]) rfl (by kernel_rfl) (.inl ⟨rfl, fun w' z => ?_⟩) S0 ?_
    · (have z0 := (x0.below z).cell 0 rfl; have z1 := (x0.below z).cell 1 rfl; have z2 := (x0.below z).cell 2 rfl; have z3 := (x0.below z).cell 3 rfl; have z4 := (x0.below z).cell 4 rfl; have z5 := (x0.below z).cell 5 rfl; have z6 := (x0.below z).cell 6 rfl; have z7 := (x0.below z).cell 7 rfl; simp [go_sem, z0, z1, z2, z3, z4, z5, z6, z7])
    (try simp only [Act.put, List.getElem_toArray, List.getElem_cons_succ, List.getElem_cons_zero, List.setIfInBounds_toArray, List.set_cons_succ, List.set_cons_zero])
    refine HeadAt.take (i := 1) (.agg #[.int .i64 X.l, .int .i64 X.n, .int .i64 X.pi, .int .i64 X.sl, .int .i64 X.ga, .int .i64 X.pa, .int .i64 X.sp, .slice aT n cT]) rfl (by kernel_rfl) (.inl ⟨rfl, fun w' z => ?_⟩) S0 ?_
    · (have z0 := (x0.below z).cell 0 rfl; have z1 := (x0.below z).cell 1 rfl; have z2 := (x0.below z).cell 2 rfl; have z3 := (x0.below z).cell 3 rfl; have z4 := (x0.below z).cell 4 rfl; have z5 := (x0.below z).cell 5 rfl; have z6 := (x0.below z).cell 6 rfl; have z7 := (x0.below z).cell 7 rfl; simp [go_sem, z0, z1, z2, z3, z4, z5, z6, z7])
    (try simp only [Act.put, List.getElem_toArray, List.getElem_cons_succ, List.getElem_cons_zero, List.setIfInBounds_toArray, List.set_cons_succ, List.set_cons_zero])
    refine HeadAt.take (i := 2) (.slice aL m cL) rfl (by kernel_rfl) (.inl ⟨rfl, fun _ _ => by simp [go_sem]⟩) S0 ?_
    (try simp only [Act.put, List.getElem_toArray, List.getElem_cons_succ, List.getElem_cons_zero, List.setIfInBounds_toArray, List.set_cons_succ, List.set_cons_zero])
    refine HeadAt.one (i := 3) rfl (by kernel_rfl) ?_
    generalize hK : Upto _ _ = K0
    (try simp only [Act.put, List.getElem_toArray, List.getElem_cons_succ, List.getElem_cons_zero, List.setIfInBounds_toArray, List.set_cons_succ, List.set_cons_zero])
    go_wp2_with fail
    refine (hli _ S0).mono ?_
    rintro e V1 ⟨rfl, hb1⟩
    go_wp2_with fail
    replace S0 := Below.trans S0 (hb1.mono (Below.size S0))
    clear hb1
    subst hK
    refine ⟨S0, ?_⟩
    (try simp only [Act.put, List.getElem_toArray, List.getElem_cons_succ, List.getElem_cons_zero, List.setIfInBounds_toArray, List.set_cons_succ, List.set_cons_zero])
    refine HeadAt.take (i := 4) (.bool false) rfl (by kernel_rfl) (.inl ⟨rfl, fun _ _ => by simp [go_sem]⟩) S0 ?_
    (try simp only [Act.put, List.getElem_toArray, List.getElem_cons_succ, List.getElem_cons_zero, List.setIfInBounds_toArray, List.set_cons_succ, List.set_cons_zero])
    refine HeadAt.take (i := 5) undef rfl (by kernel_rfl) (.inr ⟨by kernel_rfl, rfl⟩) S0 ?_
    (try simp only [Act.put, List.getElem_toArray, List.getElem_cons_succ, List.getElem_cons_zero, List.setIfInBounds_toArray, List.set_cons_succ, List.set_cons_zero])
    refine HeadAt.take (i := 6) undef rfl (by kernel_rfl) (.inr ⟨by kernel_rfl, rfl⟩) S0 ?_
    (try simp only [Act.put, List.getElem_toArray, List.getElem_cons_succ, List.getElem_cons_zero, List.setIfInBounds_toArray, List.set_cons_succ, List.set_cons_zero])
    refine HeadAt.take (i := 7) (.bool false) rfl (by kernel_rfl) (.inl ⟨rfl, fun _ _ => by simp [go_sem]⟩) S0 ?_
    (try simp only [Act.put, List.getElem_toArray, List.getElem_cons_succ, List.getElem_cons_zero, List.setIfInBounds_toArray, List.set_cons_succ, List.set_cons_zero])
    refine HeadAt.one (i := 8) rfl (by kernel_rfl) ?_
    generalize hK : Upto _ _ = K0
    (try simp only [Act.put, List.getElem_toArray, List.getElem_cons_succ, List.getElem_cons_zero, List.setIfInBounds_toArray, List.set_cons_succ, List.set_cons_zero])
    go_wp2_with fail
    refine (hch _ S0).mono ?_
    rintro e V2 ⟨rfl, hb1⟩
    go_wp2_with fail
    replace S0 := Below.trans S0 (hb1.mono (Below.size S0))
    clear hb1
    subst hK
    refine ⟨S0, ?_⟩
    (try simp only [Act.put, List.getElem_toArray, List.getElem_cons_succ, List.getElem_cons_zero, List.setIfInBounds_toArray, List.set_cons_succ, List.set_cons_zero])
    refine HeadAt.done (by kernel_rfl) ?_
    (try simp only [Act.put, List.drop_succ_cons, List.drop_zero, List.getElem_toArray, List.getElem_cons_succ, List.getElem_cons_zero])
    go_wp2_with fail
    refine NoPanic.normal ?_
    have hbz := hb.trans (Below.mono S0 hb.size)
    clear hti hli hch
    by_cases he : ce = 0
    · exact absurd (hno he) (by simp)
    · have HR := hid (show WE = ce by rw [HWE.out, if_neg he])
      have HL := hid (show WL = [] by rw [HWL.out, HR.out, if_neg he])
      have hB : (ce == 0) = false := beq_eq_false_iff_ne.2 he
      clear S0 hwr he
      go_wp2
      go_ret2
      exact ⟨hbz, none, 0, by rw [HR.out, HL.out]; rfl, by rw [HL.out]; exact Iz.none_ _ _⟩
  | true =>
    cases tb with
    | false =>
      obtain rfl : wo = false := by rw [HWO.out]; rfl
      have S0 : BlS W W.drew := (Below.refl W.heap.size W).drew
      refine wp_region_head 9 (fun w' => BlS W w') (by kernel_rfl) rfl ?_
      generalize W.drew = Y0 at *
      refine HeadAt.take (i := 0) (.agg #[.int .i64 X.l, .int .i64 X.n, .int .i64 X.pi, .int .i64 X.sl, .int .i64 X.ga, .int .i64 X.pa, .int .i64 X.sp, .slice aT n cT]) rfl (by kernel_rfl) (.inl ⟨rfl, fun w' z => ?_⟩) S0 ?_
      · (have z0 := (x0.below z).cell 0 rfl; have z1 := (x0.below z).cell 1 rfl; have z2 := (x0.below z).cell 2 rfl; have z3 := (x0.below z).cell 3 rfl; have z4 := (x0.below z).cell 4 rfl; have z5 := (x0.below z).cell 5 rfl; have z6 := (x0.below z).cell 6 rfl; have z7 := (x0.below z).cell 7 rfl; simp [go_sem, z0, z1, z2, z3, z4, z5, z6, z7])
      (try simp only [Act.put, List.getElem_toArray, List.getElem_cons_succ, List.getElem_cons_zero, List.setIfInBounds_toArray, List.set_cons_succ, List.set_cons_zero])
      refine HeadAt.take (i := 1) (.agg #[.int .i64 X.l, .int .i64 X.n, .int .i64 X.pi, .int .i64 X.sl, .int .i64 X.ga, .int .i64 X.pa, .int .i64 X.sp, .slice aT n cT]) rfl (by kernel_rfl) (.inl ⟨rfl, fun w' z => ?_⟩) S0 ?_
      · (have z0 := (x0.below z).cell 0 rfl; have z1 := (x0.below z).cell 1 rfl; have z2 := (x0.below z).cell 2 rfl; have z3 := (x0.below z).cell 3 rfl; have z4 := (x0.below z).cell 4 rfl; have z5 := (x0.below z).cell 5 rfl; have z6 := (x0.below z).cell 6 rfl; have z7 := (x0.below z).cell 7 rfl; simp [go_sem, z0, z1, z2, z3, z4, z5, z6, z7])
      (try simp only [Act.put, List.getElem_toArray, List.getElem_cons_succ, List.getElem_cons_zero, List.setIfInBounds_toArray, List.set_cons_succ, List.set_cons_zero])
      refine HeadAt.take (i := 2) (.slice aL m cL) rfl (by kernel_rfl) (.inl ⟨rfl, fun _ _ => by simp [go_sem]⟩) S0 ?_
      (try simp only [Act.put, List.getElem_toArray, List.getElem_cons_succ, List.getElem_cons_zero, List.setIfInBounds_toArray, List.set_cons_succ, List.set_cons_zero])
      refine HeadAt.one (i := 3) rfl (by kernel_rfl) ?_
      generalize hK : Upto _ _ = K0
      (try simp only [Act.put, List.getElem_toArray, List.getElem_cons_succ, List.getElem_cons_zero, List.setIfInBounds_toArray, List.set_cons_succ, List.set_cons_zero])
      go_wp2_with fail
      refine (hli _ S0).mono ?_
      rintro e V1 ⟨rfl, hb1⟩
      go_wp2_with fail
      replace S0 := Below.trans S0 (hb1.mono (Below.size S0))
      clear hb1
      subst hK
      refine ⟨S0, ?_⟩
      (try simp only [Act.put, List.getElem_toArray, List.getElem_cons_succ, List.getElem_cons_zero, List.setIfInBounds_toArray, List.set_cons_succ, List.set_cons_zero])
      refine HeadAt.take (i := 4) (.bool true) rfl (by kernel_rfl) (.inl ⟨rfl, fun _ _ => by simp [go_sem]⟩) S0 ?_
      (try simp only [Act.put, List.getElem_toArray, List.getElem_cons_succ, List.getElem_cons_zero, List.setIfInBounds_toArray, List.set_cons_succ, List.set_cons_zero])
      refine HeadAt.one (i := 5) rfl (by kernel_rfl) ?_
      generalize hK : Upto _ _ = K0
      (try simp only [Act.put, List.getElem_toArray, List.getElem_cons_succ, List.getElem_cons_zero, List.setIfInBounds_toArray, List.set_cons_succ, List.set_cons_zero])
      go_wp2_with fail
      subst hK
      refine ⟨S0, ?_⟩
      (try simp only [Act.put, List.getElem_toArray, List.getElem_cons_succ, List.getElem_cons_zero, List.setIfInBounds_toArray, List.set_cons_succ, List.set_cons_zero])
      refine HeadAt.one (i := 6) rfl (by kernel_rfl) ?_
      generalize hK : Upto _ _ = K0
      (try simp only [Act.put, List.getElem_toArray, List.getElem_cons_succ, List.getElem_cons_zero, List.setIfInBounds_toArray, List.set_cons_succ, List.set_cons_zero])
      go_wp2_with fail
      refine (hti _).mono ?_
      rintro e V3 ⟨rfl, rfl⟩
      go_wp2_with fail
      subst hK
      refine ⟨S0, ?_⟩
      (try simp only [Act.put, List.getElem_toArray, List.getElem_cons_succ, List.getElem_cons_zero, List.setIfInBounds_toArray, List.set_cons_succ, List.set_cons_zero])
      skip
      refine HeadAt.one (i := 7) rfl (by kernel_rfl) ?_
      generalize hK : Upto _ _ = K0
      (try simp only [Act.put, List.getElem_toArray, List.getElem_cons_succ, List.getElem_cons_zero, List.setIfInBounds_toArray, List.set_cons_succ, List.set_cons_zero])
      go_wp2_with fail
      subst hK
      refine ⟨S0, ?_⟩
      (try simp only [Act.put, List.getElem_toArray, List.getElem_cons_succ, List.getElem_cons_zero, List.setIfInBounds_toArray, List.set_cons_succ, List.set_cons_zero])
      refine HeadAt.one (i := 8) rfl (by kernel_rfl) ?_
      generalize hK : Upto _ _ = K0
      (try simp only [Act.put, List.getElem_toArray, List.getElem_cons_succ, List.getElem_cons_zero, List.setIfInBounds_toArray, List.set_cons_succ, List.set_cons_zero])
      go_wp2_with fail
      refine (hch _ S0).mono ?_
      rintro e V5 ⟨rfl, hb1⟩
      go_wp2_with fail
      replace S0 := Below.trans S0 (hb1.mono (Below.size S0))
      clear hb1
      subst hK
      refine ⟨S0, ?_⟩
      (try simp only [Act.put, List.getElem_toArray, List.getElem_cons_succ, List.getElem_cons_zero, List.setIfInBounds_toArray, List.set_cons_succ, List.set_cons_zero])
      refine HeadAt.done (by kernel_rfl) ?_
      (try simp only [Act.put, List.drop_succ_cons, List.drop_zero, List.getElem_toArray, List.getElem_cons_succ, List.getElem_cons_zero])
      go_wp2_with fail
      refine NoPanic.normal ?_
      have hbz := hb.trans (Below.mono S0 hb.size)
      clear hti hli hch
      by_cases he : ce = 0
      · exact absurd (hno he) (by simp)
      · have HR := hid (show WE = ce by rw [HWE.out, if_neg he])
        have HL := hid (show WL = [] by rw [HWL.out, HR.out, if_neg he])
        have hB : (ce == 0) = false := beq_eq_false_iff_ne.2 he
        clear S0 hwr he
        go_wp2
        go_ret2
        exact ⟨hbz, none, 0, by rw [HR.out, HL.out]; rfl, by rw [HL.out]; exact Iz.none_ _ _⟩
    | true =>
      obtain rfl : wo = true := by rw [HWO.out]; rfl
      have S0 : BlS W W.drew := (Below.refl W.heap.size W).drew
      refine wp_region_head 9 (fun w' => BlS W w') (by kernel_rfl) rfl ?_
      generalize W.drew = Y0 at *
      refine HeadAt.take (i := 0) (.agg #[.int .i64 X.l, .int .i64 X.n, .int .i64 X.pi, .int .i64 X.sl, .int .i64 X.ga, .int .i64 X.pa, .int .i64 X.sp, .slice aT n cT]) rfl (by kernel_rfl) (.inl ⟨rfl, fun w' z => ?_⟩) S0 ?_
      · (have z0 := (x0.below z).cell 0 rfl; have z1 := (x0.below z).cell 1 rfl; have z2 := (x0.below z).cell 2 rfl; have z3 := (x0.below z).cell 3 rfl; have z4 := (x0.below z).cell 4 rfl; have z5 := (x0.below z).cell 5 rfl; have z6 := (x0.below z).cell 6 rfl; have z7 := (x0.below z).cell 7 rfl; simp [go_sem, z0, z1, z2, z3, z4, z5, z6, z7])
      (try simp only [Act.put, List.getElem_toArray, List.getElem_cons_succ, List.getElem_cons_zero, List.setIfInBounds_toArray, List.set_cons_succ, List.set_cons_zero])
      refine HeadAt.take (i := 1) (.agg #[.int .i64 X.l, .int .i64 X.n, .int .i64 X.pi, .int .i64 X.sl, .int .i64 X.ga, .int .i64 X.pa, .int .i64 X.sp, .slice aT n cT]) rfl (by kernel_rfl) (.inl ⟨rfl, fun w' z => ?_⟩) S0 ?_
      · (have z0 := (x0.below z).cell 0 rfl; have z1 := (x0.below z).cell 1 rfl; have z2 := (x0.below z).cell 2 rfl; have z3 := (x0.below z).cell 3 rfl; have z4 := (x0.below z).cell 4 rfl; have z5 := (x0.below z).cell 5 rfl; have z6 := (x0.below z).cell 6 rfl; have z7 := (x0.below z).cell 7 rfl; simp [go_sem, z0, z1, z2, z3, z4, z5, z6, z7])
      (try simp only [Act.put, List.getElem_toArray, List.getElem_cons_succ, List.getElem_cons_zero, List.setIfInBounds_toArray, List.set_cons_succ, List.set_cons_zero])
      refine HeadAt.take (i := 2) (.slice aL m cL) rfl (by kernel_rfl) (.inl ⟨rfl, fun _ _ => by simp [go_sem]⟩) S0 ?_
      (try simp only [Act.put, List.getElem_toArray, List.getElem_cons_succ, List.getElem_cons_zero, List.setIfInBounds_toArray, List.set_cons_succ, List.set_cons_zero])
      refine HeadAt.one (i := 3) rfl (by kernel_rfl) ?_
      generalize hK : Upto _ _ = K0
      (try simp only [Act.put, List.getElem_toArray, List.getElem_cons_succ, List.getElem_cons_zero, List.setIfInBounds_toArray, List.set_cons_succ, List.set_cons_zero])
      go_wp2_with fail
      refine (hli _ S0).mono ?_
      rintro e V1 ⟨rfl, hb1⟩
      go_wp2_with fail
      replace S0 := Below.trans S0 (hb1.mono (Below.size S0))
      clear hb1
      subst hK
      refine ⟨S0, ?_⟩
      (try simp only [Act.put, List.getElem_toArray, List.getElem_cons_succ, List.getElem_cons_zero, List.setIfInBounds_toArray, List.set_cons_succ, List.set_cons_zero])
      refine HeadAt.take (i := 4) (.bool true) rfl (by kernel_rfl) (.inl ⟨rfl, fun _ _ => by simp [go_sem]⟩) S0 ?_
      (try simp only [Act.put, List.getElem_toArray, List.getElem_cons_succ, List.getElem_cons_zero, List.setIfInBounds_toArray, List.set_cons_succ, List.set_cons_zero])
      refine HeadAt.one (i := 5) rfl (by kernel_rfl) ?_
      generalize hK : Upto _ _ = K0
      (try simp only [Act.put, List.getElem_toArray, List.getElem_cons_succ, List.getElem_cons_zero, List.setIfInBounds_toArray, List.set_cons_succ, List.set_cons_zero])
      go_wp2_with fail
      subst hK
      refine ⟨S0, ?_⟩
      (try simp only [Act.put, List.getElem_toArray, List.getElem_cons_succ, List.getElem_cons_zero, List.setIfInBounds_toArray, List.set_cons_succ, List.set_cons_zero])
      refine HeadAt.one (i := 6) rfl (by kernel_rfl) ?_
      generalize hK : Upto _ _ = K0
      (try simp only [Act.put, List.getElem_toArray, List.getElem_cons_succ, List.getElem_cons_zero, List.setIfInBounds_toArray, List.set_cons_succ, List.set_cons_zero])
      go_wp2_with fail
      refine (hti _).mono ?_
      rintro e V3 ⟨rfl, rfl⟩
      go_wp2_with fail
      subst hK
      refine ⟨S0, ?_⟩
      (try simp only [Act.put, List.getElem_toArray, List.getElem_cons_succ, List.getElem_cons_zero, List.setIfInBounds_toArray, List.set_cons_succ, List.set_cons_zero])
      skip
      refine HeadAt.one (i := 7) rfl (by kernel_rfl) ?_
      generalize hK : Upto _ _ = K0
      (try simp only [Act.put, List.getElem_toArray, List.getElem_cons_succ, List.getElem_cons_zero, List.setIfInBounds_toArray, List.set_cons_succ, List.set_cons_zero])
      go_wp2_with fail
      subst hK
      refine ⟨S0, ?_⟩
      (try simp only [Act.put, List.getElem_toArray, List.getElem_cons_succ, List.getElem_cons_zero, List.setIfInBounds_toArray, List.set_cons_succ, List.set_cons_zero])
      refine HeadAt.one (i := 8) rfl (by kernel_rfl) ?_
      generalize hK : Upto _ _ = K0
      (try simp only [Act.put, List.getElem_toArray, List.getElem_cons_succ, List.getElem_cons_zero, List.setIfInBounds_toArray, List.set_cons_succ, List.set_cons_zero])
      go_wp2_with fail
      refine (hch _ S0).mono ?_
      rintro e V5 ⟨rfl, hb1⟩
      go_wp2_with fail
      replace S0 := Below.trans S0 (hb1.mono (Below.size S0))
      clear hb1
      subst hK
      refine ⟨S0, ?_⟩
      (try simp only [Act.put, List.getElem_toArray, List.getElem_cons_succ, List.getElem_cons_zero, List.setIfInBounds_toArray, List.set_cons_succ, List.set_cons_zero])
      refine HeadAt.done (by kernel_rfl) ?_
      (try simp only [Act.put, List.drop_succ_cons, List.drop_zero, List.getElem_toArray, List.getElem_cons_succ, List.getElem_cons_zero])
      go_wp2_with fail
      refine NoPanic.normal ?_
      have hbz := hb.trans (Below.mono S0 hb.size)
      clear hti hli hch
      by_cases he : ce = 0
      · have hw2 := hwr he _ S0
        have hc9 := x0.below S0
        clear hwr
        have d0 := hc9.cell 0 rfl; have d1 := hc9.cell 1 rfl; have d2 := hc9.cell 2 rfl; have d3 := hc9.cell 3 rfl; have d4 := hc9.cell 4 rfl; have d5 := hc9.cell 5 rfl; have d6 := hc9.cell 6 rfl; have d7 := hc9.cell 7 rfl
        go_wp2_with fail
        refine hw2.mono ?_
        clear d0 d1 d2 d3 d4 d5 d6 d7 hc9
        rintro e V9 ⟨hb9, a9, c9, rfl, hz9⟩
        have hbf := hbz.trans (hb9.mono hbz.size)
        have hall := all53_any a9 c9 WT V9 hz9.i
        generalize hct : decide (cntF tmB WT = WT.length) = ct at *
        obtain ⟨nw, hnw⟩ : ∃ nw, nw = WT.length := ⟨_, rfl⟩
        rw [← hnw] at hall HWB ⊢
        have HZ9 := hid (hz9.mono hbz.size)
        have HNW := hid hnw
        have HCE := hid he
        clear hct hw2 hz9 hnw he
        by_cases h24 : nw ≤ 24
        · have h24I : ¬ (nw : Int) > 24 := by omega
          rw [decide_eq_true h24, Bool.true_and] at HWB
          cases ct with
          | true =>
            have HR := hid (show WE = 0 by rw [HWE.out, if_pos HCE.out, if_pos HWB.out])
            have HL := hid (show WL = WT by rw [HWL.out, if_pos HR.out])
            go_wp2_with fail
            refine hall.mono ?_
            rintro e V10 ⟨rfl, hb10⟩
            have HZ10 := hid (HZ9.out.below hb10)
            replace hbf := hbf.trans (hb10.mono hbf.size)
            clear hb10 hall hbz hb9 S0 HZ9
            go_wp2
            go_ret2
            exact ⟨hbf, a9, c9, by rw [HR.out, HL.out, ← HNW.out]; rfl, by rw [HL.out]; exact HZ10.out⟩
          | false =>
            have HR := hid (show WE = 131 by rw [HWE.out, if_pos HCE.out, HWB.out]; rfl)
            have HL := hid (show WL = [] by rw [HWL.out, HR.out]; rfl)
            go_wp2_with fail
            refine hall.mono ?_
            rintro e V10 ⟨rfl, hb10⟩
            replace hbf := hbf.trans (hb10.mono hbf.size)
            clear hb10 hall hbz hb9 S0 HZ9
            go_wp2
            go_ret2
            exact ⟨hbf, none, 0, by rw [HR.out, HL.out]; rfl, by rw [HL.out]; exact Iz.none_ _ _⟩
        · have h24I : (nw : Int) > 24 := by omega
          rw [decide_eq_false h24, Bool.false_and] at HWB
          have HR := hid (show WE = 131 by rw [HWE.out, if_pos HCE.out, HWB.out]; rfl)
          have HL := hid (show WL = [] by rw [HWL.out, HR.out]; rfl)
          clear hall hbz hb9 S0 HZ9
          go_wp2
          go_ret2
          exact ⟨hbf, none, 0, by rw [HR.out, HL.out]; rfl, by rw [HL.out]; exact Iz.none_ _ _⟩
      · have HR := hid (show WE = ce by rw [HWE.out, if_neg he])
        have HL := hid (show WL = [] by rw [HWL.out, HR.out, if_neg he])
        have hB : (ce == 0) = false := beq_eq_false_iff_ne.2 he
        clear S0 hwr he
        go_wp2
        go_ret2
        exact ⟨hbz, none, 0, by rw [HR.out, HL.out]; rfl, by rw [HL.out]; exact Iz.none_ _ _⟩
end Go.Proofs.Yteianfbdhakhpaa
