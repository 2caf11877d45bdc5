import Derived.Test.YteianfbdhakhpaaTC
/-! Fewest. -/
namespace Go.Proofs.Yteianfbdhakhpaa
set_option linter.unusedSimpArgs false
set_option linter.unusedVariables false
open Go Go.RowKit

attribute [local go_sem] Oper.semAt_some

def fewM (rs : List Rd) : Nat := rs.foldl (fun m r => min m r.1.length) 4
theorem fewM_snoc (rs : List Rd) (r : Rd) : fewM (rs ++ [r]) = min (fewM rs) r.1.length := by unfold fewM; rw [List.foldl_append]; rfl
theorem fewM_le : ∀ (rs : List Rd), fewM rs ≤ 4 := by
  have : ∀ (rs : List Rd) (m : Nat), rs.foldl (fun m r => min m r.1.length) m ≤ m := by
    intro rs
    induction rs with
    | nil => exact fun m => Nat.le_refl _
    | cons r rs ih => exact fun m => Nat.le_trans (ih _) (Nat.min_le_left _ _)
  exact fun rs => this rs 4
def fewX (X : Pu) : Nat := fewM (rdL X 3)
def fewE (X : Pu) : Int := if vB X = true then (if 3 < fewX X then 3 else 0) else 130
def fewN (X : Pu) : Nat := if fewE X = 0 then fewX X else 0

set_option maxRecDepth 100000 in
set_option maxHeartbeats 6000000 in
theorem Fewest_any (aT : Option Addr) (cT : Nat) (X : Pu) (w : World) (hX : Ints w aT X.ts) : Calls Try.prog 22 #[.agg #[.int .i64 X.l, .int .i64 X.n, .int .i64 X.pi, .int .i64 X.sl, .int .i64 X.ga, .int .i64 X.pa, .int .i64 X.sp, .slice aT X.ts.length cT]] w fun e w' => e = .returned (.tuple #[.int .i64 (fewN X), .int .i64 (fewE X)]) ∧ Below w.heap.size w w' := by
  refine calls_of_wp_marks Try.func22 rfl ?_
  simp only [Try.ntmps22, List.size_toArray, List.length_cons, List.length_nil, Nat.reduceAdd, Nat.reduceSub, Array.replicate_succ, Array.replicate_zero, List.push_toArray, List.append_toArray, List.nil_append, List.cons_append]
  obtain ⟨W, hW, hb, hs, x0⟩ := boxes1 w #[.int .i64 X.l, .int .i64 X.n, .int .i64 X.pi, .int .i64 X.sl, .int .i64 X.ga, .int .i64 X.pa, .int .i64 X.sp, .slice aT X.ts.length cT] 24
  have hck := fun V (h : Below w.heap.size w V) => check_any aT cT X true V (hX.below h (Nat.le_refl _))
  obtain ⟨n, hn⟩ : ∃ n, n = X.ts.length := ⟨_, rfl⟩
  have hch : chkE X true = if vB X = true then 0 else 130 := by unfold chkE; simp
  have HFE := hid (show fewE X = if vB X = true then (if 3 < fewX X then 3 else 0) else 130 from rfl)
  have HFN := hid (show fewN X = if fewE X = 0 then fewX X else 0 from rfl)
  have HFX := hid (show fewX X = fewM (rdL X 3) from rfl)
  generalize fewE X = FE at *
  generalize fewN X = FN at *
  generalize fewX X = FX at *
  cases hv : vB X with
  | false =>
    rw [hv] at hch HFE
    have hE2 : ((130 : Int) != 0) = true := by decide
    have HR := hid (show FE = 130 by rw [HFE.out]; rfl)
    have HR2 := hid (show FN = 0 by rw [HFN.out, HR.out]; rfl)
    rw [hch] at hck
    simp only [Bool.false_eq_true, if_false] at hck
    rw [← hn] at x0 hW hck ⊢
    clear hn hch HFE HFN HFX hv hX
    have c0 := x0.cell 0 rfl; have c1 := x0.cell 1 rfl; have c2 := x0.cell 2 rfl; have c3 := x0.cell 3 rfl; have c4 := x0.cell 4 rfl; have c5 := x0.cell 5 rfl; have c6 := x0.cell 6 rfl; have c7 := x0.cell 7 rfl
    go_wp2_with fail
    refine (hck _ hb).mono ?_
    rintro e V1 ⟨rfl, hb1⟩
    replace hb := hb.trans (hb1.mono hb.size)
    clear hb1 hW c0 c1 c2 c3 c4 c5 c6 c7 x0 hck
    go_wp2
    refine leaves_marks (B := w.heap.size) [] _ trivial fun w' hc => ?_
    refine ⟨_, results_tmp2 rfl _ _ _, ?_⟩
    exact ⟨by rw [HR.out, HR2.out]; rfl, hb.trans hc.1⟩
  | true =>
  rw [hv] at hch HFE
  simp only [if_true] at hch HFE
  rw [hch] at hck
  obtain ⟨ok, hsp, htm⟩ := vB_ok hv
  obtain ⟨h24, hr⟩ := timesB_rng htm
  have hrd := fun V => readings_any aT cT X 3 V
  have hit0 := fun C B h1 h2 g1 g2 h3 V h4 k1 k2 => readings_iter aT cT X ok h24 hr 3 (Nat.le_refl _) w hX C B h1 h2 g1 g2 h3 V h4 k1 k2
  rw [← hn] at x0 hW hck hrd hit0 ⊢
  obtain ⟨RS, hRS⟩ : ∃ RS, RS = rdL X 3 := ⟨_, rfl⟩
  rw [← hRS] at hit0 HFX
  have hee : ((0 : Int) != 0) = false := by simp
  clear hv ok hsp htm h24 hr hn hRS hch
  have c0 := x0.cell 0 rfl; have c1 := x0.cell 1 rfl; have c2 := x0.cell 2 rfl; have c3 := x0.cell 3 rfl; have c4 := x0.cell 4 rfl; have c5 := x0.cell 5 rfl; have c6 := x0.cell 6 rfl; have c7 := x0.cell 7 rfl
  go_wp2_with fail
  refine (hck _ hb).mono ?_
  rintro e V1 ⟨rfl, hb1⟩
  clear c0 c1 c2 c3 c4 c5 c6 c7 hck
  replace x0 := x0.below hb1
  have hb2 := hb.trans (hb1.mono hb.size)
  have hs1 := hb1.size
  clear hb1 hW hb
  obtain ⟨V2, hV2⟩ : ∃ V2, V2 = V1.alloc (.cells #[.int .i64 4] 3) := ⟨_, rfl⟩
  have hba := below_one (w := V1) (.cells #[.int .i64 4] 3)
  have hfb := Bx.new V1 #[.int .i64 4] 3
  rw [← hV2] at hba hfb
  have x1 := x0.below hba
  have hb3 := hb2.trans (hba.mono hb2.size)
  have hs2 : V2.heap.size = V1.heap.size + 1 := by rw [hV2]; simp
  have HV2 := hid hV2
  clear hba hV2 x0
  go_upto_region 5 with fail
  rw [← HV2.out]
  obtain ⟨fb, hfb'⟩ : ∃ fb, fb = V1.heap.size := ⟨_, rfl⟩
  rw [← hfb'] at hfb hs1 hs2 ⊢
  have hfw : w.heap.size ≤ fb := by rw [hfb']; exact hb2.size
  clear hfb' HV2 hb2
  have c0 := x1.cell 0 rfl; have c1 := x1.cell 1 rfl; have c2 := x1.cell 2 rfl; have c3 := x1.cell 3 rfl; have c4 := x1.cell 4 rfl; have c5 := x1.cell 5 rfl; have c6 := x1.cell 6 rfl; have c7 := x1.cell 7 rfl
  go_wp2_with fail
  refine (hrd _).mono ?_
  rintro e V3 ⟨rfl, z1, z2, hb4⟩
  clear c0 c1 c2 c3 c4 c5 c6 c7 hrd x1
  replace hfb := hfb.below hb4
  replace hb3 := hb3.trans (hb4.mono hb3.size)
  have hs3 := hb4.size
  have hz2 := z2.lt
  clear hb4
  go_wp2_with fail

  rw [hs2] at z1 z2 hs3
  have hV3 : fb + 1 + 1 < V3.heap.size := by omega
  have hfl := hfb.lt
  have hw3 := hb3.size
  refine wp_rangeFuncF (α := Rd) (gf := 81) (bd := #[]) (lb := #[.pointer (some ⟨fb + 1, 0, none⟩), .pointer (some ⟨fb + 1 + 1, 0, none⟩)]) (E := ER) (xs := RS) 62 w.heap.size (fun k => k = fb) (fun k h => by omega) rfl (enters_of Try.func81 (by kernel_rfl) rfl) (fun x vs W hE => by obtain ⟨a1, c1, a2, c2, rfl, _⟩ := hE; rfl)
    (hit0 _ _ (fun k h => by rcases h with h | h | h <;> omega) (fun k h => by rcases h with h | h | h <;> omega) (fb + 1) (fb + 1 + 1) (fun h => by rcases h with h | h | h <;> omega) V3 hb3 z1 z2)
    (fun pre W => Bx W fb #[.int .i64 (fewM pre : Int)] 3 ∧ Below w.heap.size w W) ?hI ?h0
    (fun x a' W => ∃ (a1 : Option Addr) (c1 : Nat) (a2 : Option Addr) (c2 : Nat) (rb : Nat), Bx W rb #[.slice a1 x.1.length c1, .slice a2 x.2.length c2] 62 ∧ V3.heap.size + 2 ≤ rb ∧ a' = { tmps := #[.agg #[.int .i64 X.l, .int .i64 X.n, .int .i64 X.pi, .int .i64 X.sl, .int .i64 X.ga, .int .i64 X.pa, .int .i64 X.sp, .slice aT n cT], .pointer (some ⟨w.heap.size, 0, none⟩), .int .i64 0, .int .i64 0, .int .i64 0, .pointer (some ⟨fb, 0, none⟩), .pointer (some ⟨rb, 0, none⟩), .agg #[.int .i64 X.l, .int .i64 X.n, .int .i64 X.pi, .int .i64 X.sl, .int .i64 X.ga, .int .i64 X.pa, .int .i64 X.sp, .slice aT n cT], .int .i64 0, .int .i64 0, .bool false, undef, .agg #[.int .i64 X.l, .int .i64 X.n, .int .i64 X.pi, .int .i64 X.sl, .int .i64 X.ga, .int .i64 X.pa, .int .i64 X.sp, .slice aT n cT], .func (.func 81) #[] #[.pointer (some ⟨fb + 1, 0, none⟩), .pointer (some ⟨fb + 1 + 1, 0, none⟩)], .agg #[.slice a1 x.1.length c1, .slice a2 x.2.length c2], undef, undef, undef, undef, undef, undef, undef, undef], defers := [] }) ?hAx ?assign ?body ?done
  case hI =>
    rintro pre W W' ⟨i1, i4⟩ hs'
    exact ⟨hs'.bx i1, i4.trans (hs'.1.mono (by omega))⟩
  case h0 => exact ⟨hfb, hb3⟩
  case hAx =>
    rintro x a' W W' ⟨a1, c1, a2, c2, rb, k1, k2, k5⟩ hs'
    exact ⟨a1, c1, a2, c2, rb, hs'.bx k1, k2, k5⟩
  case assign =>
    rintro l' pre x vs W K hx ⟨i1, i4⟩ ⟨a1, c1, a2, c2, rfl, hE1, hE2⟩ hsz hK
    have hba := below_one (w := W) (.cells #[.slice a1 x.1.length c1, .slice a2 x.2.length c2] 62)
    have HK := hid (hK)
    have HH := hid (And.intro (Kc.of_below (T := 62) (n0 := w.heap.size) (C := fun k => k = fb) hba) (And.intro (i1.below hba) (And.intro (i4.trans (hba.mono (by omega))) (Bx.new W #[.slice a1 x.1.length c1, .slice a2 x.2.length c2] 62))))
    clear hK hba i1 i4 hE1 hE2 hit0 z1 z2 hfb
    refine wpIn_region_plain rfl ?_
    go_wp2_with fail
    obtain ⟨q1, q2, q5, q6⟩ := HH.out
    exact HK.out _ _ q1 ⟨q2, q5⟩ ⟨a1, c1, a2, c2, W.heap.size, q6, hsz, rfl⟩
  case body =>
    rintro l' pre x a' W hx ⟨i1, i4⟩ ⟨a1, c1, a2, c2, rb, k1, k2, rfl⟩ hsz
    have HSN := hid (fewM_snoc pre x)
    have h4 := fewM_le pre
    generalize fewM (pre ++ [x]) = FN2 at *
    generalize fewM pre = F1 at *
    generalize x.1.length = n1 at *
    generalize x.2.length = n2 at *
    have v0 := i1.cell 0 rfl
    have v0f := i1.free 0
    have u0 := k1.cell 0 rfl
    have hmin : min (F1 : Int) (n1 : Int) = ((min F1 n1 : Nat) : Int) := by omega
    have j4 : Bx (W.setCell ⟨fb, 0, none⟩ (.int .i64 (FN2 : Int))) fb #[.int .i64 (FN2 : Int)] 3 := by have := i1.set 0 (.int .i64 (FN2 : Int)); simpa using this
    have hk2 := Kc.set (n0 := w.heap.size) (T := 62) (C := fun k => k = fb) (a := W) (p := ⟨fb, 0, none⟩) rfl (.int .i64 (FN2 : Int))
    have hbl := i4.trans (hk2.below (fun k e => by omega) (by omega))
    have HF := hid (And.intro hk2 (And.intro j4 hbl))
    rw [← HSN.out] at hmin
    clear i1 i4 k1 hit0 z1 z2 hfb hk2 j4 hbl hx
    by_cases hle : F1 ≤ n1
    · obtain rfl : FN2 = F1 := by have := HSN.out; omega
      have hleI : (FN2 : Int) ≤ n1 := by omega
      have hleJ : ¬ (n1 : Int) < FN2 := by omega
      clear hle hmin
      refine wpIn_block ?_
      refine wpIn_region_plain rfl ?_
      go_wp2
      exact HF.out
    · obtain rfl : FN2 = n1 := by have := HSN.out; omega
      have hleI : ¬ (F1 : Int) ≤ FN2 := by omega
      have hleJ : (FN2 : Int) < F1 := by omega
      clear hle hmin
      refine wpIn_block ?_
      refine wpIn_region_plain rfl ?_
      go_wp2
      exact HF.out
  case done =>
    rintro W ⟨i1, i4⟩ hD hsz
    have hM := Marks.one hD
    rw [← HFX.out] at i1
    have v0 := i1.cell 0 rfl
    clear i1 hit0 z1 z2 hfb
    by_cases h3 : 3 < FX
    · have h3I : (FX : Int) > 3 := by omega
      have HR := hid (show FE = 3 by rw [HFE.out, if_pos h3])
      have HR2 := hid (show FN = 0 by rw [HFN.out, HR.out]; rfl)
      clear h3
      go_wp2_with fail
      refine leaves_marks _ _ hM fun w' hc => ?_
      refine ⟨_, results_tmp2 rfl _ _ _, ?_⟩
      exact ⟨by rw [HR.out, HR2.out]; rfl, i4.trans (hc.1.mono (by omega))⟩
    · have h3I : ¬ (FX : Int) > 3 := by omega
      have HR := hid (show FE = 0 by rw [HFE.out, if_neg h3])
      have HR2 := hid (show FN = FX by rw [HFN.out, HR.out]; rfl)
      clear h3
      go_wp2_with fail
      refine leaves_marks _ _ hM fun w' hc => ?_
      refine ⟨_, results_tmp2 rfl _ _ _, ?_⟩
      exact ⟨by rw [HR.out, HR2.out]; rfl, i4.trans (hc.1.mono (by omega))⟩
end Go.Proofs.Yteianfbdhakhpaa
