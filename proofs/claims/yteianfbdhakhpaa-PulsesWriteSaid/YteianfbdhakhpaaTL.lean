import Derived.Test.YteianfbdhakhpaaTI
import Derived.Test.YteianfbdhakhpaaTC
import Derived.Lib.SliceRun
import Derived.Shelf.SlSortCmp.WholeK
import Derived.Ground.SlsfProg
import Derived.Test.YteianfbdhakhpaaProg
/-! Write. -/
namespace Go.Proofs.Yteianfbdhakhpaa
set_option linter.unusedSimpArgs false
set_option linter.unusedVariables false
open Go Go.RowKit
attribute [local go_sem] Oper.semAt_some

def tmB (x : Int) : Bool := fromI 0 x 99999

set_option maxRecDepth 100000 in
set_option maxHeartbeats 2000000 in
theorem count53_any (a : Option Addr) (c : Nat) (l : List Int) (f : Int → Bool) (w : World) (hI : Ints w a l) (hf : ∀ V x, Below w.heap.size w V → x ∈ l → Calls Try.prog 53 #[.int .i64 x] V fun e w' => e = .returned (.bool (f x)) ∧ Below V.heap.size V w') : Calls Try.prog 67 #[.slice a l.length c, .func (.func 53) #[] #[]] w fun e w' => e = .returned (.int .i64 (cntF f l)) ∧ Below w.heap.size w w' := by
  have hlen := hI.len
  have hle : cntF f l ≤ l.length := List.length_filter_le _ _
  have HK := hid (show ∀ k x, l[k]? = some x → cntF f (l.take (k + 1)) = cntF f (l.take k) + if f x = true then 1 else 0 from fun k x h => by
    unfold cntF; rw [List.take_add_one, h, List.filter_append, List.length_append]
    cases hx : f x <;> simp [hx])
  have HLE := hid (show ∀ k, cntF f (l.take k) ≤ k from fun k => Nat.le_trans (List.length_filter_le _ _) (by rw [List.length_take]; omega))
  obtain ⟨R, hR⟩ : ∃ R, R = cntF f l := ⟨_, rfl⟩
  rw [← hR] at hle ⊢
  have HR := hid hR
  obtain ⟨n, hn⟩ : ∃ n, n = l.length := ⟨_, rfl⟩
  rw [← hn] at hlen hle ⊢
  have HN := hid hn
  have HF := hid hf
  clear hn hR hf
  go_enter Try.func67, Try.ntmps67
  go_wp2
  go_loopw [5, 10] (fun v5 v10 wr => ∃ k q : Nat, k ≤ n ∧ v10 = .int .i64 (k : Int) ∧ v5 = .int .i64 (q : Int) ∧ Hid (q = cntF f (l.take k)) ∧ Below w.heap.size w wr) (fun _ v10 _ => n - (intOf v10).toNat)
  case atStart => exact ⟨0, 0, Nat.zero_le _, rfl, rfl, hid rfl, Below.refl _ _⟩
  case round =>
    obtain ⟨k, q, hk, rfl, rfl, HQ, hb⟩ := hrel
    by_cases hlt : k < n
    · obtain ⟨b1, o1, x, rfl, _, hc1, _, _, hg1, _⟩ := (hI.below hb (Nat.le_refl _)).at (k := k) (by rw [← HN.out]; exact hlt)
      have hkI : (k : Int) < n := by omega
      have hk0 : (0 : Int) ≤ (k : Int) := by omega
      have hq1 : q ≤ k := by rw [HQ.out]; exact HLE.out k
      have ewq : IntKind.i64.wrap ((q : Int) + 1) = (q : Int) + 1 := IntWalk.i64_in _ (by omega)
      have hcall := HF.out wr x hb (List.mem_of_getElem? hg1.out)
      have hs := HK.out k x hg1.out
      rw [← HQ.out] at hs
      clear hg1
      cases hx : f x with
      | true =>
        rw [hx] at hcall hs
        have HS := hid (show q + 1 = cntF f (l.take (k + 1)) by rw [hs]; rfl)
        clear hs hx
        go_wp2_with fail
        refine hcall.mono ?_
        rintro e V1 ⟨rfl, hb1⟩
        replace hb := hb.trans (hb1.mono hb.size)
        clear hb1 hcall hc1
        go_wp2
        go_roundw
        case rel => exact ⟨k + 1, q + 1, by omega, by simp, by go_num, HS, hb⟩
        case measure => simp [intOf]; omega
      | false =>
        rw [hx] at hcall hs
        have HS := hid (show q = cntF f (l.take (k + 1)) by rw [hs]; rfl)
        clear hs hx
        go_wp2_with fail
        refine hcall.mono ?_
        rintro e V1 ⟨rfl, hb1⟩
        replace hb := hb.trans (hb1.mono hb.size)
        clear hb1 hcall hc1
        go_wp2
        go_roundw
        case rel => exact ⟨k + 1, q, by omega, by simp, rfl, HS, hb⟩
        case measure => simp [intOf]; omega
    · have hkn : k = n := by omega
      have hq := HQ.out
      rw [List.take_of_length_le (by rw [hkn, HN.out]; exact Nat.le_refl _), ← HR.out] at hq
      have HQ2 := hid hq
      clear hq HQ
      go_wp2
      go_ret
      exact ⟨ret_int (by rw [HQ2.out]), hb⟩
set_option maxRecDepth 100000 in
set_option maxHeartbeats 2000000 in
theorem all53_any (a : Option Addr) (c : Nat) (l : List Int) (w : World) (hI : Ints w a l) : Calls Try.prog 55 #[.slice a l.length c, .func (.func 53) #[] #[]] w fun e w' => e = .returned (.bool (decide (cntF (tmB) l = l.length))) ∧ Below w.heap.size w w' := by
  have hc := count53_any a c l tmB w hI (fun V x _ _ => (isTime_any x V).mono (by rintro e w1 ⟨rfl, rfl⟩; exact ⟨rfl, Below.refl _ _⟩))
  generalize cntF (tmB) l = q at *
  obtain ⟨n, hn⟩ : ∃ n, n = l.length := ⟨_, rfl⟩
  rw [← hn] at hc ⊢
  clear hn
  have HE := hid (show ((q : Int) == (n : Int)) = decide (q = n) by
    by_cases h : q = n
    · simp [h]
    · rw [decide_eq_false h, beq_eq_false_iff_ne]; omega)
  go_enter Try.func55, Try.ntmps55
  go_wp2_with fail
  refine hc.mono ?_
  rintro e V1 ⟨rfl, hb1⟩
  go_wp2
  go_ret
  exact ⟨ret_bool (by first | exact HE.out | (rw [← HE.out])), hb1⟩

/-- Whether every written time is one. -/
def wrB (X : Pu) (L : List Int) (t : Int) : Bool := decide ((wrtL X L t).length ≤ 24) && decide (cntF tmB (wrtL X L t) = (wrtL X L t).length)
def wrO (X : Pu) (L : List Int) (t : Int) : Bool := listB X L && tmB t
/-- The error of Write, and the times that it hands back. -/
def wrE (X : Pu) (L : List Int) (t : Int) : Int := if chkE X (wrO X L t) = 0 then (if wrB X L t = true then 0 else 131) else chkE X (wrO X L t)
def wrLi (X : Pu) (L : List Int) (t : Int) : List Int := if wrE X L t = 0 then wrtL X L t else []
theorem cntF_all {f : Int → Bool} {l : List Int} (h : cntF f l = l.length) : ∀ x ∈ l, f x = true := List.length_filter_eq_length_iff.1 h
theorem fromI_iff {a x b : Int} : fromI a x b = true ↔ a ≤ x ∧ x ≤ b := by simp [fromI]
theorem wrO_ok {X : Pu} {L : List Int} {t : Int} (ok : POk X) (h : wrO X L t = true) : (0 ≤ t ∧ t ≤ 99999) ∧ L.length ≤ 24 ∧ ∀ s ∈ L, 0 ≤ s ∧ s < X.l * X.n := by
  simp only [wrO, listB, Bool.and_eq_true, decide_eq_true_eq] at h
  obtain ⟨⟨h1, h2⟩, h3⟩ := h
  refine ⟨fromI_iff.1 h3, h1, fun s hs => ?_⟩
  have := cntF_all h2 s hs
  rw [selB_ok ok, fromI_iff] at this
  omega
theorem chkE_ok {X : Pu} {o : Bool} (h : chkE X o = 0) : vB X = true ∧ o = true := by
  unfold chkE at h
  cases hv : vB X <;> cases o <;> simp [hv] at h ⊢
set_option maxRecDepth 100000 in
set_option maxHeartbeats 4000000 in
theorem Write_any (aT : Option Addr) (cT : Nat) (X : Pu) (aL : Option Addr) (cL : Nat) (L : List Int) (t : Int) (w : World) (hX : Ints w aT X.ts) (hI : Ints w aL L) : Calls Try.prog 17 #[.agg #[.int .i64 X.l, .int .i64 X.n, .int .i64 X.pi, .int .i64 X.sl, .int .i64 X.ga, .int .i64 X.pa, .int .i64 X.sp, .slice aT X.ts.length cT], .slice aL L.length cL, .int .i64 t] w (ReP (wrE X L t) (wrLi X L t) w) := by
  obtain ⟨W, hW, hb, _, x0⟩ := boxes1 w #[.int .i64 X.l, .int .i64 X.n, .int .i64 X.pi, .int .i64 X.sl, .int .i64 X.ga, .int .i64 X.pa, .int .i64 X.sp, .slice aT X.ts.length cT] 24
  have hIW := hI.below hb (Nat.le_refl _)
  have hXW := hX.below hb (Nat.le_refl _)
  have hli := fun V (h : Below W.heap.size W V) => isList_any aT cT X aL cL L V (hIW.below h (Nat.le_refl _))
  have hti := fun V => isTime_any t V
  have hch := fun V (h : Below W.heap.size W V) => check_any aT cT X (wrO X L t) V (hXW.below h (Nat.le_refl _))
  have hwr := fun (he : chkE X (wrO X L t) = 0) V (h : Below W.heap.size W V) => written_any aT cT X (vB_ok (chkE_ok he).1).1 aL cL L t (wrO_ok (vB_ok (chkE_ok he).1).1 (chkE_ok he).2).1 (wrO_ok (vB_ok (chkE_ok he).1).1 (chkE_ok he).2).2.2 (wrO_ok (vB_ok (chkE_ok he).1).1 (chkE_ok he).2).2.1 V (hIW.below h (Nat.le_refl _))
  have HWO := hid (show wrO X L t = (listB X L && fromI 0 t 99999) from rfl)
  have HWE := hid (show wrE X L t = if chkE X (wrO X L t) = 0 then (if wrB X L t = true then 0 else 131) else chkE X (wrO X L t) from rfl)
  have HWL := hid (show wrLi X L t = if wrE X L t = 0 then wrtL X L t else [] from rfl)
  have HWB := hid (show wrB X L t = (decide ((wrtL X L t).length ≤ 24) && decide (cntF tmB (wrtL X L t) = (wrtL X L t).length)) from rfl)
  have hno : chkE X (wrO X L t) = 0 → wrO X L t = true := fun h => (chkE_ok h).2
  generalize wrE X L t = WE at *
  generalize wrLi X L t = WL at *
  generalize wrB X L t = WB at *
  generalize wrtL X L t = WT at *
  generalize chkE X (wrO X L t) = ce at *
  generalize wrO X L t = wo at *
  generalize listB X L = lb at *
  generalize fromI 0 t 99999 = tb at *
  clear hIW hXW hX hI
  generalize X.ts.length = n at *
  generalize L.length = m at *
  go_enter Try.func17, Try.ntmps17
  go_upto_region 1 with fail
  clear hW
  cases lb with
  | false =>
    obtain rfl : wo = false := by rw [HWO.out]; rfl
    have S0 : BlS W W.drew := (Below.refl W.heap.size W).drew
    refine wp_region_head 9 (fun w' => BlS W w') (by kernel_rfl) rfl ?_
    generalize W.drew = Y0 at *
    refine HeadAt.take (i := 0) (.agg #[.int .i64 X.l, .int .i64 X.n, .int .i64 X.pi, .int .i64 X.sl, .int .i64 X.ga, .int .i64 X.pa, .int .i64 X.sp, .slice aT n cT]) rfl (by kernel_rfl) (.inl ⟨rfl, fun w' z => ?_⟩) S0 ?_
    · (have z0 := (x0.below z).cell 0 rfl; have z1 := (x0.below z).cell 1 rfl; have z2 := (x0.below z).cell 2 rfl; have z3 := (x0.below z).cell 3 rfl; have z4 := (x0.below z).cell 4 rfl; have z5 := (x0.below z).cell 5 rfl; have z6 := (x0.below z).cell 6 rfl; have z7 := (x0.below z).cell 7 rfl; simp [go_sem, z0, z1, z2, z3, z4, z5, z6, z7])
    (try simp only [Act.put, List.getElem_toArray, List.getElem_cons_succ, List.getElem_cons_zero, List.setIfInBounds_toArray, List.set_cons_succ, List.set_cons_zero])
    refine HeadAt.take (i := 1) (.agg #[.int .i64 X.l, .int .i64 X.n, .int .i64 X.pi, .int .i64 X.sl, .int .i64 X.ga, .int .i64 X.pa, .int .i64 X.sp, .slice aT n cT]) rfl (by kernel_rfl) (.inl ⟨rfl, fun w' z => ?_⟩) S0 ?_
    · (have z0 := (x0.below z).cell 0 rfl; have z1 := (x0.below z).cell 1 rfl; have z2 := (x0.below z).cell 2 rfl; have z3 := (x0.below z).cell 3 rfl; have z4 := (x0.below z).cell 4 rfl; have z5 := (x0.below z).cell 5 rfl; have z6 := (x0.below z).cell 6 rfl; have z7 := (x0.below z).cell 7 rfl; simp [go_sem, z0, z1, z2, z3, z4, z5, z6, z7])
    (try simp only [Act.put, List.getElem_toArray, List.getElem_cons_succ, List.getElem_cons_zero, List.setIfInBounds_toArray, List.set_cons_succ, List.set_cons_zero])
    refine HeadAt.take (i := 2) (.slice aL m cL) rfl (by kernel_rfl) (.inl ⟨rfl, fun _ _ => by simp [go_sem]⟩) S0 ?_
    (try simp only [Act.put, List.getElem_toArray, List.getElem_cons_succ, List.getElem_cons_zero, List.setIfInBounds_toArray, List.set_cons_succ, List.set_cons_zero])
    refine HeadAt.one (i := 3) rfl (by kernel_rfl) ?_
    generalize hK : Upto _ _ = K0
    (try simp only [Act.put, List.getElem_toArray, List.getElem_cons_succ, List.getElem_cons_zero, List.setIfInBounds_toArray, List.set_cons_succ, List.set_cons_zero])
    go_wp2_with fail
    refine (hli _ S0).mono ?_
    rintro e V1 ⟨rfl, hb1⟩
    go_wp2_with fail
    replace S0 := Below.trans S0 (hb1.mono (Below.size S0))
    clear hb1
    subst hK
    refine ⟨S0, ?_⟩
    (try simp only [Act.put, List.getElem_toArray, List.getElem_cons_succ, List.getElem_cons_zero, List.setIfInBounds_toArray, List.set_cons_succ, List.set_cons_zero])
    refine HeadAt.take (i := 4) (.bool false) rfl (by kernel_rfl) (.inl ⟨rfl, fun _ _ => by simp [go_sem]⟩) S0 ?_
    (try simp only [Act.put, List.getElem_toArray, List.getElem_cons_succ, List.getElem_cons_zero, List.setIfInBounds_toArray, List.set_cons_succ, List.set_cons_zero])
    refine HeadAt.take (i := 5) undef rfl (by kernel_rfl) (.inr ⟨by kernel_rfl, rfl⟩) S0 ?_
    (try simp only [Act.put, List.getElem_toArray, List.getElem_cons_succ, List.getElem_cons_zero, List.setIfInBounds_toArray, List.set_cons_succ, List.set_cons_zero])
    refine HeadAt.take (i := 6) undef rfl (by kernel_rfl) (.inr ⟨by kernel_rfl, rfl⟩) S0 ?_
    (try simp only [Act.put, List.getElem_toArray, List.getElem_cons_succ, List.getElem_cons_zero, List.setIfInBounds_toArray, List.set_cons_succ, List.set_cons_zero])
    refine HeadAt.take (i := 7) (.bool false) rfl (by kernel_rfl) (.inl ⟨rfl, fun _ _ => by simp [go_sem]⟩) S0 ?_
    (try simp only [Act.put, List.getElem_toArray, List.getElem_cons_succ, List.getElem_cons_zero, List.setIfInBounds_toArray, List.set_cons_succ, List.set_cons_zero])
    refine HeadAt.one (i := 8) rfl (by kernel_rfl) ?_
    generalize hK : Upto _ _ = K0
    (try simp only [Act.put, List.getElem_toArray, List.getElem_cons_succ, List.getElem_cons_zero, List.setIfInBounds_toArray, List.set_cons_succ, List.set_cons_zero])
    go_wp2_with fail
    refine (hch _ S0).mono ?_
    rintro e V2 ⟨rfl, hb1⟩
    go_wp2_with fail
    replace S0 := Below.trans S0 (hb1.mono (Below.size S0))
    clear hb1
    subst hK
    refine ⟨S0, ?_⟩
    (try simp only [Act.put, List.getElem_toArray, List.getElem_cons_succ, List.getElem_cons_zero, List.setIfInBounds_toArray, List.set_cons_succ, List.set_cons_zero])
    refine HeadAt.done (by kernel_rfl) ?_
    (try simp only [Act.put, List.drop_succ_cons, List.drop_zero, List.getElem_toArray, List.getElem_cons_succ, List.getElem_cons_zero])
    go_wp2_with fail
    refine NoPanic.normal ?_
    have hbz := hb.trans (Below.mono S0 hb.size)
    clear hti hli hch
    by_cases he : ce = 0
    · exact absurd (hno he) (by simp)
    · have HR := hid (show WE = ce by rw [HWE.out, if_neg he])
      have HL := hid (show WL = [] by rw [HWL.out, HR.out, if_neg he])
      have hB : (ce == 0) = false := beq_eq_false_iff_ne.2 he
      clear S0 hwr he
      go_wp2
      go_ret2
      exact ⟨hbz, none, 0, by rw [HR.out, HL.out]; rfl, by rw [HL.out]; exact Iz.none_ _ _⟩
  | true =>
    cases tb with
    | false =>
      obtain rfl : wo = false := by rw [HWO.out]; rfl
      have S0 : BlS W W.drew := (Below.refl W.heap.size W).drew
      refine wp_region_head 9 (fun w' => BlS W w') (by kernel_rfl) rfl ?_
      generalize W.drew = Y0 at *
      refine HeadAt.take (i := 0) (.agg #[.int .i64 X.l, .int .i64 X.n, .int .i64 X.pi, .int .i64 X.sl, .int .i64 X.ga, .int .i64 X.pa, .int .i64 X.sp, .slice aT n cT]) rfl (by kernel_rfl) (.inl ⟨rfl, fun w' z => ?_⟩) S0 ?_
      · (have z0 := (x0.below z).cell 0 rfl; have z1 := (x0.below z).cell 1 rfl; have z2 := (x0.below z).cell 2 rfl; have z3 := (x0.below z).cell 3 rfl; have z4 := (x0.below z).cell 4 rfl; have z5 := (x0.below z).cell 5 rfl; have z6 := (x0.below z).cell 6 rfl; have z7 := (x0.below z).cell 7 rfl; simp [go_sem, z0, z1, z2, z3, z4, z5, z6, z7])
      (try simp only [Act.put, List.getElem_toArray, List.getElem_cons_succ, List.getElem_cons_zero, List.setIfInBounds_toArray, List.set_cons_succ, List.set_cons_zero])
      refine HeadAt.take (i := 1) (.agg #[.int .i64 X.l, .int .i64 X.n, .int .i64 X.pi, .int .i64 X.sl, .int .i64 X.ga, .int .i64 X.pa, .int .i64 X.sp, .slice aT n cT]) rfl (by kernel_rfl) (.inl ⟨rfl, fun w' z => ?_⟩) S0 ?_
      · (have z0 := (x0.below z).cell 0 rfl; have z1 := (x0.below z).cell 1 rfl; have z2 := (x0.below z).cell 2 rfl; have z3 := (x0.below z).cell 3 rfl; have z4 := (x0.below z).cell 4 rfl; have z5 := (x0.below z).cell 5 rfl; have z6 := (x0.below z).cell 6 rfl; have z7 := (x0.below z).cell 7 rfl; simp [go_sem, z0, z1, z2, z3, z4, z5, z6, z7])
      (try simp only [Act.put, List.getElem_toArray, List.getElem_cons_succ, List.getElem_cons_zero, List.setIfInBounds_toArray, List.set_cons_succ, List.set_cons_zero])
      refine HeadAt.take (i := 2) (.slice aL m cL) rfl (by kernel_rfl) (.inl ⟨rfl, fun _ _ => by simp [go_sem]⟩) S0 ?_
      (try simp only [Act.put, List.getElem_toArray, List.getElem_cons_succ, List.getElem_cons_zero, List.setIfInBounds_toArray, List.set_cons_succ, List.set_cons_zero])
      refine HeadAt.one (i := 3) rfl (by kernel_rfl) ?_
      generalize hK : Upto _ _ = K0
      (try simp only [Act.put, List.getElem_toArray, List.getElem_cons_succ, List.getElem_cons_zero, List.setIfInBounds_toArray, List.set_cons_succ, List.set_cons_zero])
      go_wp2_with fail
      refine (hli _ S0).mono ?_
      rintro e V1 ⟨rfl, hb1⟩
      go_wp2_with fail
      replace S0 := Below.trans S0 (hb1.mono (Below.size S0))
      clear hb1
      subst hK
      refine ⟨S0, ?_⟩
      (try simp only [Act.put, List.getElem_toArray, List.getElem_cons_succ, List.getElem_cons_zero, List.setIfInBounds_toArray, List.set_cons_succ, List.set_cons_zero])
      refine HeadAt.take (i := 4) (.bool true) rfl (by kernel_rfl) (.inl ⟨rfl, fun _ _ => by simp [go_sem]⟩) S0 ?_
      (try simp only [Act.put, List.getElem_toArray, List.getElem_cons_succ, List.getElem_cons_zero, List.setIfInBounds_toArray, List.set_cons_succ, List.set_cons_zero])
      refine HeadAt.one (i := 5) rfl (by kernel_rfl) ?_
      generalize hK : Upto _ _ = K0
      (try simp only [Act.put, List.getElem_toArray, List.getElem_cons_succ, List.getElem_cons_zero, List.setIfInBounds_toArray, List.set_cons_succ, List.set_cons_zero])
      go_wp2_with fail
      subst hK
      refine ⟨S0, ?_⟩
      (try simp only [Act.put, List.getElem_toArray, List.getElem_cons_succ, List.getElem_cons_zero, List.setIfInBounds_toArray, List.set_cons_succ, List.set_cons_zero])
      refine HeadAt.one (i := 6) rfl (by kernel_rfl) ?_
      generalize hK : Upto _ _ = K0
      (try simp only [Act.put, List.getElem_toArray, List.getElem_cons_succ, List.getElem_cons_zero, List.setIfInBounds_toArray, List.set_cons_succ, List.set_cons_zero])
      go_wp2_with fail
      refine (hti _).mono ?_
      rintro e V3 ⟨rfl, rfl⟩
      go_wp2_with fail
      subst hK
      refine ⟨S0, ?_⟩
      (try simp only [Act.put, List.getElem_toArray, List.getElem_cons_succ, List.getElem_cons_zero, List.setIfInBounds_toArray, List.set_cons_succ, List.set_cons_zero])
      skip
      refine HeadAt.one (i := 7) rfl (by kernel_rfl) ?_
      generalize hK : Upto _ _ = K0
      (try simp only [Act.put, List.getElem_toArray, List.getElem_cons_succ, List.getElem_cons_zero, List.setIfInBounds_toArray, List.set_cons_succ, List.set_cons_zero])
      go_wp2_with fail
      subst hK
      refine ⟨S0, ?_⟩
      (try simp only [Act.put, List.getElem_toArray, List.getElem_cons_succ, List.getElem_cons_zero, List.setIfInBounds_toArray, List.set_cons_succ, List.set_cons_zero])
      refine HeadAt.one (i := 8) rfl (by kernel_rfl) ?_
      generalize hK : Upto _ _ = K0
      (try simp only [Act.put, List.getElem_toArray, List.getElem_cons_succ, List.getElem_cons_zero, List.setIfInBounds_toArray, List.set_cons_succ, List.set_cons_zero])
      go_wp2_with fail
      refine (hch _ S0).mono ?_
      rintro e V5 ⟨rfl, hb1⟩
      go_wp2_with fail
      replace S0 := Below.trans S0 (hb1.mono (Below.size S0))
      clear hb1
      subst hK
      refine ⟨S0, ?_⟩
      (try simp only [Act.put, List.getElem_toArray, List.getElem_cons_succ, List.getElem_cons_zero, List.setIfInBounds_toArray, List.set_cons_succ, List.set_cons_zero])
      refine HeadAt.done (by kernel_rfl) ?_
      (try simp only [Act.put, List.drop_succ_cons, List.drop_zero, List.getElem_toArray, List.getElem_cons_succ, List.getElem_cons_zero])
      go_wp2_with fail
      refine NoPanic.normal ?_
      have hbz := hb.trans (Below.mono S0 hb.size)
      clear hti hli hch
      by_cases he : ce = 0
      · exact absurd (hno he) (by simp)
      · have HR := hid (show WE = ce by rw [HWE.out, if_neg he])
        have HL := hid (show WL = [] by rw [HWL.out, HR.out, if_neg he])
        have hB : (ce == 0) = false := beq_eq_false_iff_ne.2 he
        clear S0 hwr he
        go_wp2
        go_ret2
        exact ⟨hbz, none, 0, by rw [HR.out, HL.out]; rfl, by rw [HL.out]; exact Iz.none_ _ _⟩
    | true =>
      obtain rfl : wo = true := by rw [HWO.out]; rfl
      have S0 : BlS W W.drew := (Below.refl W.heap.size W).drew
      refine wp_region_head 9 (fun w' => BlS W w') (by kernel_rfl) rfl ?_
      generalize W.drew = Y0 at *
      refine HeadAt.take (i := 0) (.agg #[.int .i64 X.l, .int .i64 X.n, .int .i64 X.pi, .int .i64 X.sl, .int .i64 X.ga, .int .i64 X.pa, .int .i64 X.sp, .slice aT n cT]) rfl (by kernel_rfl) (.inl ⟨rfl, fun w' z => ?_⟩) S0 ?_
      · (have z0 := (x0.below z).cell 0 rfl; have z1 := (x0.below z).cell 1 rfl; have z2 := (x0.below z).cell 2 rfl; have z3 := (x0.below z).cell 3 rfl; have z4 := (x0.below z).cell 4 rfl; have z5 := (x0.below z).cell 5 rfl; have z6 := (x0.below z).cell 6 rfl; have z7 := (x0.below z).cell 7 rfl; simp [go_sem, z0, z1, z2, z3, z4, z5, z6, z7])
      (try simp only [Act.put, List.getElem_toArray, List.getElem_cons_succ, List.getElem_cons_zero, List.setIfInBounds_toArray, List.set_cons_succ, List.set_cons_zero])
      refine HeadAt.take (i := 1) (.agg #[.int .i64 X.l, .int .i64 X.n, .int .i64 X.pi, .int .i64 X.sl, .int .i64 X.ga, .int .i64 X.pa, .int .i64 X.sp, .slice aT n cT]) rfl (by kernel_rfl) (.inl ⟨rfl, fun w' z => ?_⟩) S0 ?_
      · (have z0 := (x0.below z).cell 0 rfl; have z1 := (x0.below z).cell 1 rfl; have z2 := (x0.below z).cell 2 rfl; have z3 := (x0.below z).cell 3 rfl; have z4 := (x0.below z).cell 4 rfl; have z5 := (x0.below z).cell 5 rfl; have z6 := (x0.below z).cell 6 rfl; have z7 := (x0.below z).cell 7 rfl; simp [go_sem, z0, z1, z2, z3, z4, z5, z6, z7])
      (try simp only [Act.put, List.getElem_toArray, List.getElem_cons_succ, List.getElem_cons_zero, List.setIfInBounds_toArray, List.set_cons_succ, List.set_cons_zero])
      refine HeadAt.take (i := 2) (.slice aL m cL) rfl (by kernel_rfl) (.inl ⟨rfl, fun _ _ => by simp [go_sem]⟩) S0 ?_
      (try simp only [Act.put, List.getElem_toArray, List.getElem_cons_succ, List.getElem_cons_zero, List.setIfInBounds_toArray, List.set_cons_succ, List.set_cons_zero])
      refine HeadAt.one (i := 3) rfl (by kernel_rfl) ?_
      generalize hK : Upto _ _ = K0
      (try simp only [Act.put, List.getElem_toArray, List.getElem_cons_succ, List.getElem_cons_zero, List.setIfInBounds_toArray, List.set_cons_succ, List.set_cons_zero])
      go_wp2_with fail
      refine (hli _ S0).mono ?_
      rintro e V1 ⟨rfl, hb1⟩
      go_wp2_with fail
      replace S0 := Below.trans S0 (hb1.mono (Below.size S0))
      clear hb1
      subst hK
      refine ⟨S0, ?_⟩
      (try simp only [Act.put, List.getElem_toArray, List.getElem_cons_succ, List.getElem_cons_zero, List.setIfInBounds_toArray, List.set_cons_succ, List.set_cons_zero])
      refine HeadAt.take (i := 4) (.bool true) rfl (by kernel_rfl) (.inl ⟨rfl, fun _ _ => by simp [go_sem]⟩) S0 ?_
      (try simp only [Act.put, List.getElem_toArray, List.getElem_cons_succ, List.getElem_cons_zero, List.setIfInBounds_toArray, List.set_cons_succ, List.set_cons_zero])
      refine HeadAt.one (i := 5) rfl (by kernel_rfl) ?_
      generalize hK : Upto _ _ = K0
      (try simp only [Act.put, List.getElem_toArray, List.getElem_cons_succ, List.getElem_cons_zero, List.setIfInBounds_toArray, List.set_cons_succ, List.set_cons_zero])
      go_wp2_with fail
      subst hK
      refine ⟨S0, ?_⟩
      (try simp only [Act.put, List.getElem_toArray, List.getElem_cons_succ, List.getElem_cons_zero, List.setIfInBounds_toArray, List.set_cons_succ, List.set_cons_zero])
      refine HeadAt.one (i := 6) rfl (by kernel_rfl) ?_
      generalize hK : Upto _ _ = K0
      (try simp only [Act.put, List.getElem_toArray, List.getElem_cons_succ, List.getElem_cons_zero, List.setIfInBounds_toArray, List.set_cons_succ, List.set_cons_zero])
      go_wp2_with fail
      refine (hti _).mono ?_
      rintro e V3 ⟨rfl, rfl⟩
      go_wp2_with fail
      subst hK
      refine ⟨S0, ?_⟩
      (try simp only [Act.put, List.getElem_toArray, List.getElem_cons_succ, List.getElem_cons_zero, List.setIfInBounds_toArray, List.set_cons_succ, List.set_cons_zero])
      skip
      refine HeadAt.one (i := 7) rfl (by kernel_rfl) ?_
      generalize hK : Upto _ _ = K0
      (try simp only [Act.put, List.getElem_toArray, List.getElem_cons_succ, List.getElem_cons_zero, List.setIfInBounds_toArray, List.set_cons_succ, List.set_cons_zero])
      go_wp2_with fail
      subst hK
      refine ⟨S0, ?_⟩
      (try simp only [Act.put, List.getElem_toArray, List.getElem_cons_succ, List.getElem_cons_zero, List.setIfInBounds_toArray, List.set_cons_succ, List.set_cons_zero])
      refine HeadAt.one (i := 8) rfl (by kernel_rfl) ?_
      generalize hK : Upto _ _ = K0
      (try simp only [Act.put, List.getElem_toArray, List.getElem_cons_succ, List.getElem_cons_zero, List.setIfInBounds_toArray, List.set_cons_succ, List.set_cons_zero])
      go_wp2_with fail
      refine (hch _ S0).mono ?_
      rintro e V5 ⟨rfl, hb1⟩
      go_wp2_with fail
      replace S0 := Below.trans S0 (hb1.mono (Below.size S0))
      clear hb1
      subst hK
      refine ⟨S0, ?_⟩
      (try simp only [Act.put, List.getElem_toArray, List.getElem_cons_succ, List.getElem_cons_zero, List.setIfInBounds_toArray, List.set_cons_succ, List.set_cons_zero])
      refine HeadAt.done (by kernel_rfl) ?_
      (try simp only [Act.put, List.drop_succ_cons, List.drop_zero, List.getElem_toArray, List.getElem_cons_succ, List.getElem_cons_zero])
      go_wp2_with fail
      refine NoPanic.normal ?_
      have hbz := hb.trans (Below.mono S0 hb.size)
      clear hti hli hch
      by_cases he : ce = 0
      · have hw2 := hwr he _ S0
        have hc9 := x0.below S0
        clear hwr
        have d0 := hc9.cell 0 rfl; have d1 := hc9.cell 1 rfl; have d2 := hc9.cell 2 rfl; have d3 := hc9.cell 3 rfl; have d4 := hc9.cell 4 rfl; have d5 := hc9.cell 5 rfl; have d6 := hc9.cell 6 rfl; have d7 := hc9.cell 7 rfl
        go_wp2_with fail
        refine hw2.mono ?_
        clear d0 d1 d2 d3 d4 d5 d6 d7 hc9
        rintro e V9 ⟨hb9, a9, c9, rfl, hz9⟩
        have hbf := hbz.trans (hb9.mono hbz.size)
        have hall := all53_any a9 c9 WT V9 hz9.i
        generalize hct : decide (cntF tmB WT = WT.length) = ct at *
        obtain ⟨nw, hnw⟩ : ∃ nw, nw = WT.length := ⟨_, rfl⟩
        rw [← hnw] at hall HWB ⊢
        have HZ9 := hid (hz9.mono hbz.size)
        have HNW := hid hnw
        have HCE := hid he
        clear hct hw2 hz9 hnw he
        by_cases h24 : nw ≤ 24
        · have h24I : ¬ (nw : Int) > 24 := by omega
          rw [decide_eq_true h24, Bool.true_and] at HWB
          cases ct with
          | true =>
            have HR := hid (show WE = 0 by rw [HWE.out, if_pos HCE.out, if_pos HWB.out])
            have HL := hid (show WL = WT by rw [HWL.out, if_pos HR.out])
            go_wp2_with fail
            refine hall.mono ?_
            rintro e V10 ⟨rfl, hb10⟩
            have HZ10 := hid (HZ9.out.below hb10)
            replace hbf := hbf.trans (hb10.mono hbf.size)
            clear hb10 hall hbz hb9 S0 HZ9
            go_wp2
            go_ret2
            exact ⟨hbf, a9, c9, by rw [HR.out, HL.out, ← HNW.out]; rfl, by rw [HL.out]; exact HZ10.out⟩
          | false =>
            have HR := hid (show WE = 131 by rw [HWE.out, if_pos HCE.out, HWB.out]; rfl)
            have HL := hid (show WL = [] by rw [HWL.out, HR.out]; rfl)
            go_wp2_with fail
            refine hall.mono ?_
            rintro e V10 ⟨rfl, hb10⟩
            replace hbf := hbf.trans (hb10.mono hbf.size)
            clear hb10 hall hbz hb9 S0 HZ9
            go_wp2
            go_ret2
            exact ⟨hbf, none, 0, by rw [HR.out, HL.out]; rfl, by rw [HL.out]; exact Iz.none_ _ _⟩
        · have h24I : (nw : Int) > 24 := by omega
          rw [decide_eq_false h24, Bool.false_and] at HWB
          have HR := hid (show WE = 131 by rw [HWE.out, if_pos HCE.out, HWB.out]; rfl)
          have HL := hid (show WL = [] by rw [HWL.out, HR.out]; rfl)
          clear hall hbz hb9 S0 HZ9
          go_wp2
          go_ret2
          exact ⟨hbf, none, 0, by rw [HR.out, HL.out]; rfl, by rw [HL.out]; exact Iz.none_ _ _⟩
      · have HR := hid (show WE = ce by rw [HWE.out, if_neg he])
        have HL := hid (show WL = [] by rw [HWL.out, HR.out, if_neg he])
        have hB : (ce == 0) = false := beq_eq_false_iff_ne.2 he
        clear S0 hwr he
        go_wp2
        go_ret2
        exact ⟨hbz, none, 0, by rw [HR.out, HL.out]; rfl, by rw [HL.out]; exact Iz.none_ _ _⟩
end Go.Proofs.Yteianfbdhakhpaa
/-
  DERIVED: THE SHELF's CONTRACTS AT THIS DUMP, IN PLAIN WORDS (tools/lay-plain.mjs out of 'YteianfbdhakhpaaS2.lean', which tools/lay-shelf.mjs wrote): THE SAME DECLARATIONS UNDER THE SAME NAMES: 'import', 'namespace', 'open', 'def', 'theorem' AND NOTHING ELSE: no command of the shelf's: FOR A HAND-IN. Each laying: the table of numbers ('.._ren') and one theorem, a field a fact of the dump's own or the kernel's comparison; each contract: ONE APPLICATION.
-/
namespace Go.Proofs
open Go.Shelf
def Try.sortRd_ren : Go.Shelf.Ren := ⟨fun | 6 => 62 | 15 => 88 | 14 => 87 | 28 => 110 | 29 => 111 | 20 => 102 | 21 => 103 | 22 => 104 | 23 => 105 | 24 => 106 | 25 => 107 | 26 => 108 | 27 => 109 | 46 => 116 | 47 => 117 | 48 => 118 | 49 => 119 | 50 => 120 | 57 => 121 | n => n, fun | 22 => 67 | 24 => 62 | 25 => 73 | 3 => 3 | 39 => 95 | 0 => 0 | 53 => 111 | 55 => 113 | 4 => 4 | 46 => 104 | 45 => 103 | 50 => 108 | 5 => 5 | 9 => 9 | 66 => 119 | 70 => 123 | 76 => 125 | 77 => 126 | n => n, fun | n => n⟩
theorem Try.sortRd : Go.Proofs.SlLaysF0.n6 Try.prog Try.sortRd_ren := {
  mixed := by kernel_rfl
  f6 := ⟨Try.f62.name, by decide, Try.func62.trans (congrArg some (by kernel_rfl))⟩
  f14 := ⟨Try.f87.name, by decide, Try.func87.trans (congrArg some (by kernel_rfl))⟩
  f15 := Try.func88.trans (congrArg some (by kernel_rfl))
  f20 := ⟨Try.f102.name, by decide, Try.func102.trans (congrArg some (by kernel_rfl))⟩
  f21 := ⟨Try.f103.name, by decide, Try.func103.trans (congrArg some (by kernel_rfl))⟩
  f22 := ⟨Try.f104.name, by decide, Try.func104.trans (congrArg some (by kernel_rfl))⟩
  f23 := ⟨Try.f105.name, by decide, Try.func105.trans (congrArg some (by kernel_rfl))⟩
  f24 := ⟨Try.f106.name, by decide, Try.func106.trans (congrArg some (by kernel_rfl))⟩
  f25 := ⟨Try.f107.name, by decide, Try.func107.trans (congrArg some (by kernel_rfl))⟩
  f26 := ⟨Try.f108.name, by decide, Try.func108.trans (congrArg some (by kernel_rfl))⟩
  f27 := ⟨Try.f109.name, by decide, Try.func109.trans (congrArg some (by kernel_rfl))⟩
  f28 := Try.func110.trans (congrArg some (by kernel_rfl))
  f29 := Try.func111.trans (congrArg some (by kernel_rfl))
  f46 := ⟨Try.f116.name, by decide, Try.func116.trans (congrArg some (by kernel_rfl))⟩
  f47 := Try.func117.trans (congrArg some (by kernel_rfl))
  f48 := Try.func118.trans (congrArg some (by kernel_rfl))
  f49 := ⟨Try.f119.name, by decide, Try.func119.trans (congrArg some (by kernel_rfl))⟩
  f50 := ⟨Try.f120.name, by decide, Try.func120.trans (congrArg some (by kernel_rfl))⟩
  f57 := ⟨Try.f121.name, by decide, Try.func121.trans (congrArg some (by kernel_rfl))⟩
  t0 := Try.underlying0
  a0 := Try.isAgg0
  z0 := Try.sizeOf0
  v0 := Try.zeroValue0
  t3 := Try.underlying3
  a3 := Try.isAgg3
  z3 := Try.sizeOf3
  v3 := Try.zeroValue3
  t4 := Try.underlying4
  a4 := Try.isAgg4
  z4 := Try.sizeOf4
  v4 := Try.zeroValue4
  t5 := Try.underlying5
  a5 := Try.isAgg5
  z5 := Try.sizeOf5
  v5 := Try.zeroValue5
  t9 := Try.underlying9
  a9 := Try.isAgg9
  z9 := Try.sizeOf9
  v9 := Try.zeroValue9
  t22 := Try.underlying67
  a22 := Try.isAgg67
  z22 := Try.sizeOf67
  v22 := Try.zeroValue67
  t25 := Try.underlying73
  a25 := Try.isAgg73
  z25 := Try.sizeOf73
  v25 := Try.zeroValue73
  t39 := Try.underlying95
  a39 := Try.isAgg95
  z39 := Try.sizeOf95
  v39 := Try.zeroValue95
  t45 := Try.underlying103
  a45 := Try.isAgg103
  z45 := Try.sizeOf103
  v45 := Try.zeroValue103
  t46 := Try.underlying104
  a46 := Try.isAgg104
  z46 := Try.sizeOf104
  v46 := Try.zeroValue104
  t50 := Try.underlying108
  a50 := Try.isAgg108
  z50 := Try.sizeOf108
  v50 := Try.zeroValue108
  t53 := Try.underlying111
  a53 := Try.isAgg111
  z53 := Try.sizeOf111
  v53 := Try.zeroValue111
  t55 := Try.underlying113
  a55 := Try.isAgg113
  z55 := Try.sizeOf113
  v55 := Try.zeroValue113
  t66 := Try.underlying119
  a66 := Try.isAgg119
  z66 := Try.sizeOf119
  v66 := Try.zeroValue119
  t70 := Try.underlying123
  a70 := Try.isAgg123
  z70 := Try.sizeOf123
  v70 := Try.zeroValue123
  t76 := Try.underlying125
  a76 := Try.isAgg125
  z76 := Try.sizeOf125
  v76 := Try.zeroValue125
  t77 := Try.underlying126
  a77 := Try.isAgg126
  z77 := Try.sizeOf126
  v77 := Try.zeroValue126 }
end Go.Proofs
/-! The order of lists: slices.Compare at numbers, the closure of Lists. -/
namespace Go.Proofs.Yteianfbdhakhpaa
set_option linter.unusedSimpArgs false
set_option linter.unusedVariables false
open Go Go.RowKit Go.Sort

/-- slices.Compare's order. -/
def cmpL : List Int → List Int → Int
  | [], [] => 0
  | [], _ :: _ => -1
  | _ :: _, [] => 1
  | x :: xs, y :: ys => if cmpI x y = 0 then cmpL xs ys else cmpI x y
theorem cmpI_cases (x y : Int) : (x < y ∧ cmpI x y = -1) ∨ (x = y ∧ cmpI x y = 0) ∨ (y < x ∧ cmpI x y = 1) := by
  unfold cmpI
  by_cases h1 : x < y
  · exact .inl ⟨h1, by rw [if_pos h1]⟩
  · by_cases h2 : y < x
    · exact .inr (.inr ⟨h2, by rw [if_neg h1, if_pos h2]⟩)
    · exact .inr (.inl ⟨by omega, by rw [if_neg h1, if_neg h2]⟩)
theorem cmpI_zero {x y : Int} : cmpI x y = 0 ↔ x = y := by
  rcases cmpI_cases x y with h | h | h <;> (constructor <;> intro h2 <;> omega)
theorem cmpI_swap (x y : Int) : cmpI y x = - cmpI x y := by
  rcases cmpI_cases x y with h | h | h <;> rcases cmpI_cases y x with h2 | h2 | h2 <;> omega
theorem cmpL_cons (x y : Int) (xs ys : List Int) : cmpL (x :: xs) (y :: ys) = if cmpI x y = 0 then cmpL xs ys else cmpI x y := rfl
theorem cmpL_swap : ∀ a b : List Int, cmpL b a = - cmpL a b
  | [], [] => rfl
  | [], _ :: _ => rfl
  | _ :: _, [] => rfl
  | x :: xs, y :: ys => by
    rw [cmpL_cons, cmpL_cons, cmpI_swap x y, cmpL_swap xs ys]
    by_cases h : cmpI x y = 0
    · rw [if_pos h, if_pos (by omega)]
    · rw [if_neg h, if_neg (by omega)]
theorem cmpL_zero : ∀ a b : List Int, cmpL a b = 0 ↔ a = b
  | [], [] => by simp [cmpL]
  | [], _ :: _ => by simp [cmpL]
  | _ :: _, [] => by simp [cmpL]
  | x :: xs, y :: ys => by
    rw [cmpL_cons]
    by_cases h : cmpI x y = 0
    · rw [if_pos h, cmpL_zero xs ys, cmpI_zero.1 h]; simp
    · rw [if_neg h]
      constructor
      · intro h2; exact absurd h2 h
      · intro h2; injection h2 with h2 h3; exact absurd (cmpI_zero.2 h2) h
theorem cmpL_trans : ∀ a b c : List Int, cmpL a b < 0 → cmpL b c < 0 → cmpL a c < 0
  | [], [], _, h, _ => by simp [cmpL] at h
  | [], _ :: _, [], _, h => by simp [cmpL] at h
  | [], _ :: _, _ :: _, _, _ => by simp [cmpL]
  | _ :: _, [], _, h, _ => by simp [cmpL] at h
  | _ :: _, _ :: _, [], _, h => by simp [cmpL] at h
  | x :: xs, y :: ys, z :: zs, h1, h2 => by
    rw [cmpL_cons] at h1 h2 ⊢
    have ih := cmpL_trans xs ys zs
    rcases cmpI_cases x y with p | p | p <;> rcases cmpI_cases y z with q | q | q <;> rcases cmpI_cases x z with r | r | r <;>
      (simp only [p.2, q.2, r.2] at h1 h2 ⊢) <;> (first | omega | (simp at h1 h2 ⊢; done) | (simp at h1 h2 ⊢; exact ih h1 h2) | (simp at h1 h2 ⊢; omega))
theorem cmpL_swo {α : Type} (f : α → List Int) : SWO (ltOf fun x y : α => cmpL (f x) (f y)) where
  irrefl x := by simp [ltOf, (cmpL_zero (f x) (f x)).2 rfl]
  trans x y z h1 h2 := by
    simp only [ltOf, decide_eq_true_eq] at *
    exact cmpL_trans _ _ _ h1 h2
  ntrans x y z h1 h2 := by
    simp only [ltOf, decide_eq_false_iff_not] at *
    intro h
    by_cases e : cmpL (f x) (f y) = 0
    · rw [(cmpL_zero _ _).1 e] at h; exact h2 h
    · have h3 : cmpL (f y) (f x) < 0 := by rw [cmpL_swap]; omega
      exact h2 (cmpL_trans _ _ _ h3 h)
set_option maxRecDepth 100000 in
set_option maxHeartbeats 2000000 in
theorem CompareL_any (a b : Option Addr) (ca cb : Nat) (xs ys : List Int) (w : World) (hA : Ints w a xs) (hB : Ints w b ys) : Calls Try.prog 61 #[.slice a xs.length ca, .slice b ys.length cb] w fun e w' => e = .returned (.int .i64 (cmpL xs ys)) ∧ w = w' := by
  have hlen := hA.len
  have hlen2 := hB.len
  have hc := fun x y => Compare_any x y w
  obtain ⟨n, hn⟩ : ∃ n, n = xs.length := ⟨_, rfl⟩
  obtain ⟨m, hm⟩ : ∃ m, m = ys.length := ⟨_, rfl⟩
  rw [← hn] at hlen ⊢
  rw [← hm] at hlen2 ⊢
  have HN := hid hn
  have HM := hid hm
  clear hn hm
  have HD := hid (show ∀ k, k < n → xs.drop k = xs[k]?.getD 0 :: xs.drop (k + 1) from fun k hk => by
    rw [HN.out] at hk
    rw [List.drop_eq_getElem_cons hk, List.getElem?_eq_getElem hk]; rfl)
  have HE := hid (show ∀ k, k < m → ys.drop k = ys[k]?.getD 0 :: ys.drop (k + 1) from fun k hk => by
    rw [HM.out] at hk
    rw [List.drop_eq_getElem_cons hk, List.getElem?_eq_getElem hk]; rfl)
  obtain ⟨R, hR⟩ : ∃ R, R = cmpL xs ys := ⟨_, rfl⟩
  rw [← hR]
  have HR0 := hid (show R = cmpL (xs.drop 0) (ys.drop 0) from hR)
  clear hR
  go_enter Try.func61, Try.ntmps61
  go_wp2
  go_loopw [5, 6, 7, 8, 11] (fun v5 v6 v7 v8 v11 wr => ∃ k : Nat, k ≤ n ∧ k ≤ m ∧ v11 = .int .i64 (k : Int) ∧ Hid (R = cmpL (xs.drop k) (ys.drop k)) ∧ wr = w) (fun _ _ _ _ v11 _ => n - (intOf v11).toNat)
  case atStart => exact ⟨0, Nat.zero_le _, Nat.zero_le _, rfl, HR0, rfl⟩
  case round =>
    obtain ⟨k, hk, hkm, rfl, HA, rfl⟩ := hrel
    by_cases hlt : k < n
    · obtain ⟨b1, o1, x, rfl, hbl, hc1, hx1, hx2, hg, _⟩ := hA.at (k := k) (by rw [← HN.out]; exact hlt)
      have hkI : (k : Int) < n := by omega
      have hk0 : (0 : Int) ≤ (k : Int) := by omega
      by_cases hlm : k < m
      · obtain ⟨b2, o2, y, rfl, hbl2, hc2, hy1, hy2, hg2, _⟩ := hB.at (k := k) (by rw [← HM.out]; exact hlm)
        have hkM : ¬ (k : Int) ≥ (m : Int) := by omega
        have hkM2 : (k : Int) < (m : Int) := by omega
        have hst := HA.out
        rw [HD.out k hlt, HE.out k hlm, hg.out, hg2.out] at hst
        replace hst : R = if cmpI x y = 0 then cmpL (xs.drop (k + 1)) (ys.drop (k + 1)) else cmpI x y := hst
        have hcc := hc x y
        rcases cmpI_cases x y with hh | hh | hh
        · rw [hh.2] at hcc hst
          have HR := hid (show R = -1 from hst)
          clear hh hg hg2 hst
          go_wp2_with fail
          refine hcc.mono ?_
          rintro e V1 ⟨rfl, rfl⟩
          go_wp2
          go_ret
          exact ⟨ret_int HR.out.symm, rfl⟩
        · rw [hh.2] at hcc hst
          have HR := hid (show R = cmpL (xs.drop (k + 1)) (ys.drop (k + 1)) from hst)
          clear hh hg hg2 hst
          go_wp2_with fail
          refine hcc.mono ?_
          rintro e V1 ⟨rfl, rfl⟩
          go_wp2
          go_roundw
          case rel => exact ⟨k + 1, by omega, by omega, by simp, HR, trivial⟩
          case measure => simp [intOf]; omega
        · rw [hh.2] at hcc hst
          have HR := hid (show R = 1 from hst)
          clear hh hg hg2 hst
          go_wp2_with fail
          refine hcc.mono ?_
          rintro e V1 ⟨rfl, rfl⟩
          go_wp2
          go_ret
          exact ⟨ret_int HR.out.symm, rfl⟩
      · have hkM : (k : Int) ≥ (m : Int) := by omega
        have hst := HA.out
        rw [HD.out k hlt, List.drop_eq_nil_iff.2 (show ys.length ≤ k by rw [← HM.out]; omega)] at hst
        have HR := hid (show R = 1 from hst)
        clear hg hst
        go_wp2
        go_ret
        exact ⟨ret_int HR.out.symm, rfl⟩
    · obtain rfl : k = n := by omega
      have hst := HA.out
      rw [List.drop_eq_nil_iff.2 (show xs.length ≤ k by rw [← HN.out]; exact Nat.le_refl _)] at hst
      by_cases hlm : k < m
      · rw [HE.out k hlm] at hst
        have HR := hid (show R = -1 from hst)
        have hkM : (k : Int) < (m : Int) := by omega
        clear hst
        go_wp2
        go_ret
        exact ⟨ret_int HR.out.symm, rfl⟩
      · rw [List.drop_eq_nil_iff.2 (show ys.length ≤ k by rw [← HM.out]; omega)] at hst
        have HR := hid (show R = 0 from hst)
        have hkM : ¬ (k : Int) < (m : Int) := by omega
        clear hst
        go_wp2
        go_ret
        exact ⟨ret_int HR.out.symm, rfl⟩
/-- A reading as it lies in memory. -/
structure Rq where
  a1 : Option Addr
  n1 : Nat
  c1 : Nat
  a2 : Option Addr
  c2 : Nat
  l : List Int
def Rq.enc (q : Rq) : List Value := [.slice q.a1 q.n1 q.c1, .slice q.a2 q.l.length q.c2]
/-- Its list is read, and lies in no cell of the block. -/
def Rgd (w : World) (blk : Nat) (q : Rq) : Prop := Iz 0 w q.a2 q.l ∧ ∀ ad, q.a2 = some ad → ad.block ≠ blk
def Rs (w : World) (blk : Nat) : Type := { q : Rq // Rgd w blk q }
instance (w : World) (blk : Nat) : Inhabited (Rs w blk) := ⟨⟨⟨none, 0, 0, none, 0, []⟩, Iz.none_ 0 w, fun _ e => nomatch e⟩⟩
def Rs.enc {w : World} {blk : Nat} (q : Rs w blk) : List Value := q.1.enc
set_option maxRecDepth 100000 in
set_option maxHeartbeats 2000000 in
theorem Lists1_any (x y : Rq) (W : World) (hx : Ints W x.a2 x.l) (hy : Ints W y.a2 y.l) : Calls Try.prog 60 #[.agg x.enc.toArray, .agg y.enc.toArray] W fun e w' => e = .returned (.int .i64 (cmpL x.l y.l)) ∧ ∃ q os', w' = grow (W.drewN q) os' := by
  obtain ⟨a1, n1, c1, a2, c2, l⟩ := x
  obtain ⟨b1, m1, d1, b2, d2, l'⟩ := y
  have hb1 := below_one (w := W) (.cells #[.slice a1 n1 c1, .slice a2 l.length c2] 62)
  have hb2 := below_one (w := W.alloc (.cells #[.slice a1 n1 c1, .slice a2 l.length c2] 62)) (.cells #[.slice b1 m1 d1, .slice b2 l'.length d2] 62)
  have hb := hb1.trans (hb2.mono hb1.size)
  have hc := CompareL_any a2 b2 c2 d2 l l' _ (hx.below hb (Nat.le_refl _)) (hy.below hb (Nat.le_refl _))
  simp only [Rq.enc]
  generalize cmpL l l' = r at *
  generalize l.length = n2 at *
  generalize l'.length = m2 at *
  clear hb hb1 hb2 hx hy
  go_enter Try.func60, Try.ntmps60
  go_wp2_with fail
  refine hc.mono ?_
  rintro e V1 ⟨rfl, rfl⟩
  go_wp2
  go_ret
  exact ⟨rfl, 0, _, by rw [alloc_eq_grow, alloc_eq_grow, grow_grow]; rfl⟩
end Go.Proofs.Yteianfbdhakhpaa
/-! slices.CompactFunc at readings: how many stay. -/
namespace Go.Proofs.Yteianfbdhakhpaa
set_option linter.unusedSimpArgs false
set_option linter.unusedVariables false
open Go Go.RowKit

/-- How many of the first are unlike the one before. -/
def kp (Q : Nat → List Int) : Nat → Nat
  | 0 => 0
  | i + 1 => kp Q i + if i = 0 ∨ Q i ≠ Q (i - 1) then 1 else 0
theorem kp_le (Q : Nat → List Int) : ∀ n, kp Q n ≤ n
  | 0 => Nat.le_refl _
  | i + 1 => by have := kp_le Q i; unfold kp; split <;> omega
theorem kp_one (Q : Nat → List Int) : kp Q 1 = 1 := rfl
theorem kp_eq {Q : Nat → List Int} {i j : Nat} (hj : i = j + 1) (h : Q i = Q j) : kp Q (i + 1) = kp Q i := by
  subst hj
  show kp Q (j + 1) + _ = _
  rw [if_neg (by simp; exact h)]; rfl
theorem kp_ne {Q : Nat → List Int} {i j : Nat} (hj : i = j + 1) (h : Q i ≠ Q j) : kp Q (i + 1) = kp Q i + 1 := by
  subst hj
  show kp Q (j + 1) + _ = _
  rw [if_pos (.inr (by simpa using h))]
theorem below_setCells {B : Nat} : ∀ (vs : List Value) (w : World) (b o : Nat), B ≤ b → Below B w (w.setCells b o vs)
  | [], w, _, _, _ => Below.refl _ _
  | v :: r, w, b, o, h => (Below.setCell (p := ⟨b, o, none⟩) (Below.refl B w) h v).trans (below_setCells r _ b (o + 1) h)
theorem heap_setCells : ∀ (vs : List Value) (w : World) (b o : Nat) (k : Nat), k ≠ b → (w.setCells b o vs).heap[k]? = w.heap[k]?
  | [], _, _, _, _, _ => rfl
  | v :: r, w, b, o, k, h => (heap_setCells r (w.setCell ⟨b, o, none⟩ v) b (o + 1) k h).trans (Below.heap_setCell w ⟨b, o, none⟩ v k h)
theorem size_setCells : ∀ (vs : List Value) (w : World) (b o : Nat), (w.setCells b o vs).heap.size = w.heap.size
  | [], _, _, _ => rfl
  | v :: r, w, b, o => (size_setCells r _ b (o + 1)).trans (by simp [World.setCell])
/-- The row of readings, from one on as it was; what the readings are. -/
structure Cpt (B : Nat) (w0 W : World) (blk n kk : Nat) (Q : Nat → Rq) : Prop where
  below : Below B w0 W
  row : ∃ cur, W.heap[blk]? = some (.cells cur 62 (0, 0)) ∧ n * 2 ≤ cur.size ∧ ∀ i, kk ≤ i → i < n → cur[i * 2]? = some (.slice (Q i).a1 (Q i).n1 (Q i).c1) ∧ cur[i * 2 + 1]? = some (.slice (Q i).a2 (Q i).l.length (Q i).c2)
  good : ∀ i, i < n → Rgd W blk (Q i)
theorem Rgd.of {w w' : World} {blk : Nat} {q : Rq} (h : Rgd w blk q) (hs : w.heap.size ≤ w'.heap.size) (hk : ∀ k, k < w.heap.size → k ≠ blk → w'.heap[k]? = w.heap[k]?) : Rgd w' blk q :=
  ⟨h.1.of hs (fun ad vs z e hh => by rw [hk ad.block (Array.getElem?_eq_some_iff.1 hh).1 (h.2 ad e)]; exact hh), h.2⟩
theorem Cpt.grow {B : Nat} {w0 W W' : World} {blk n kk : Nat} {Q : Nat → Rq} (h : Cpt B w0 W blk n kk Q) (hB : B ≤ blk) (hb : Below W.heap.size W W') : Cpt B w0 W' blk n kk Q := by
  obtain ⟨cur, h1, h2, h3⟩ := h.row
  have hl := (Array.getElem?_eq_some_iff.1 h1).1
  exact ⟨h.below.trans (hb.mono (by omega)), ⟨cur, (hb.block _ hl).trans h1, h2, h3⟩, fun i hi => (h.good i hi).of hb.size (fun k hk _ => hb.block k hk)⟩
theorem Cpt.cell {B : Nat} {w0 W : World} {blk n kk : Nat} {Q : Nat → Rq} (h : Cpt B w0 W blk n kk Q) {i : Nat} (hi : kk ≤ i) (hn : i < n) : W.cell? ⟨blk, i * 2, none⟩ = some (.slice (Q i).a1 (Q i).n1 (Q i).c1) ∧ W.cell? ⟨blk, i * 2 + 1, none⟩ = some (.slice (Q i).a2 (Q i).l.length (Q i).c2) := by
  obtain ⟨cur, h1, h2, h3⟩ := h.row
  simp only [World.cell?, h1]
  exact h3 i hi hn
theorem Cpt.isC {B : Nat} {w0 W : World} {blk n kk : Nat} {Q : Nat → Rq} (h : Cpt B w0 W blk n kk Q) {j : Nat} (hj : j < n * 2) : (W.cell? ⟨blk, j, none⟩).isSome = true ∧ W.frozen? ⟨blk, j, none⟩ = false := by
  obtain ⟨cur, h1, h2, h3⟩ := h.row
  refine ⟨?_, ?_⟩
  · simp only [World.cell?, h1]
    simp; omega
  · simp [World.frozen?, h1]
theorem Cpt.stores {B : Nat} {w0 W : World} {blk n kk : Nat} {Q : Nat → Rq} (h : Cpt B w0 W blk n kk Q) (o : Nat) (vs : List Value) (ho : o + vs.length ≤ n * 2) (h1 : ∀ v ∈ vs, v.oneCell' = true) : (storeCells ⟨blk, o, none⟩ vs 0).run Try.prog W = .ok () (W.setCells blk o vs) := by
  have hst := run_storeCells_cells (P := Try.prog) blk o vs 0 W (by intro j hj; exact (h.isC (by omega)).1) (by intro j hj; exact (h.isC (by omega)).2) h1
  simpa using hst
theorem Cpt.set {B : Nat} {w0 W : World} {blk n kk : Nat} {Q : Nat → Rq} (h : Cpt B w0 W blk n kk Q) (hB : B ≤ blk) (x y : Value) : Cpt B w0 (W.setCells blk (kk * 2) [x, y]) blk n (kk + 1) Q := by
  obtain ⟨cur, h1, h2, h3⟩ := h.row
  have hl := (Array.getElem?_eq_some_iff.1 h1).1
  refine ⟨h.below.trans (below_setCells _ _ _ _ hB), ⟨(cur.setIfInBounds (kk * 2) x).setIfInBounds (kk * 2 + 1) y, ?_, by simpa using h2, fun i hi hn => ?_⟩, fun i hi => (h.good i hi).of (by rw [size_setCells]; exact Nat.le_refl _) (fun k _ hk => heap_setCells _ _ _ _ _ hk)⟩
  · show ((W.setCell ⟨blk, kk * 2, none⟩ x).setCell ⟨blk, kk * 2 + 1, none⟩ y).heap[blk]? = _
    simp [World.setCell, Array.getElem?_modify, h1]
  · have := h3 i (by omega) hn
    simp only [Array.getElem?_setIfInBounds]
    rw [if_neg (by omega), if_neg (by omega), if_neg (by omega), if_neg (by omega)]
    exact this
theorem Cpt.mono {B : Nat} {w0 W : World} {blk n k1 k2 : Nat} {Q : Nat → Rq} (h : Cpt B w0 W blk n k1 Q) (hk : k1 ≤ k2) : Cpt B w0 W blk n k2 Q := by
  obtain ⟨cur, h1, h2, h3⟩ := h.row
  exact ⟨h.below, ⟨cur, h1, h2, fun i hi hn => h3 i (by omega) hn⟩, h.good⟩
theorem Cpt.at2 {B : Nat} {w0 W : World} {blk n kk m k j : Nat} {Q : Nat → Rq} (h : Cpt B w0 W blk n kk Q) (hm : m = k + j) (hi : kk ≤ m) (hn : m < n) : W.cell? ⟨blk, k * 2 + j * 2, none⟩ = some (.slice (Q m).a1 (Q m).n1 (Q m).c1) ∧ W.cell? ⟨blk, k * 2 + j * 2 + 1, none⟩ = some (.slice (Q m).a2 (Q m).l.length (Q m).c2) := by
  rw [← Nat.add_mul, ← hm]
  exact h.cell hi hn
end Go.Proofs.Yteianfbdhakhpaa
