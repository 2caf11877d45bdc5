import Derived.Test.YteianfbdhakhpaaTR
/-! The reference's Check; ready, Far, isKnown. -/
namespace Go.Proofs.Yteianfbdhakhpaa
set_option linter.unusedSimpArgs false
set_option linter.unusedVariables false
open Go Go.RowKit

theorem vB_iff (X : Pu) : vB X = true ↔ ((1 ≤ X.l ∧ X.l ≤ 5) ∧ (1 ≤ X.n ∧ X.n ≤ 5) ∧ (1 ≤ X.pi ∧ X.pi ≤ 99) ∧ (0 ≤ X.sl ∧ X.sl ≤ X.pi - 1) ∧ (1 ≤ X.pa ∧ X.pa ≤ 999) ∧ (X.pi + X.sl + 1 ≤ X.ga ∧ X.ga ≤ X.pa - 1) ∧ (0 ≤ X.sp ∧ X.sp ≤ 3) ∧ X.ts.length ≤ 24 ∧ risB 0 99999 X.ts = true) := by
  unfold vB distB
  rw [timesB_ris]
  simp only [Bool.and_eq_true, fromI_iff, decide_eq_true_eq]
  constructor
  · rintro ⟨h1, h2, ⟨h3, h4, h5, h6, h7⟩, h8, h9, h10⟩
    exact ⟨h1, h2, h3, h4, by omega, by omega, h8, h10, h9⟩
  · rintro ⟨h1, h2, h3, h4, h5, h6, h7, h8, h9⟩
    exact ⟨h1, h2, ⟨h3, h4, by omega, by omega, by omega⟩, h7, h9, h8⟩
theorem within_true {lo x hi : Int} (h : lo ≤ x ∧ x ≤ hi) (w : World) : Calls Try.prog 49 #[.int .i64 x, .int .i64 lo, .int .i64 hi] w fun e w' => e = .returned (.bool true) ∧ w = w' := by
  have := within_any lo x hi w
  rwa [fromI_iff.2 h] at this
theorem within_false {lo x hi : Int} (h : ¬ (lo ≤ x ∧ x ≤ hi)) (w : World) : Calls Try.prog 49 #[.int .i64 x, .int .i64 lo, .int .i64 hi] w fun e w' => e = .returned (.bool false) ∧ w = w' := by
  have := within_any lo x hi w
  rwa [show fromI lo x hi = false from Bool.eq_false_iff.2 (fun h2 => h (fromI_iff.1 h2))] at this
/-- The error of a train by itself. -/
def vE (X : Pu) : Int := if vB X = true then 0 else 130
set_option maxRecDepth 100000 in
set_option maxHeartbeats 6000000 in
theorem rCheck_any (aT : Option Addr) (cT : Nat) (X : Pu) (w : World) (hX : Ints w aT X.ts) : Calls Try.prog 16 #[.agg #[.int .i64 X.l, .int .i64 X.n, .int .i64 X.pi, .int .i64 X.sl, .int .i64 X.ga, .int .i64 X.pa, .int .i64 X.sp, .slice aT X.ts.length cT]] w fun e w' => e = .returned (.int .i64 (vE X)) ∧ Below w.heap.size w w' := by
  obtain ⟨W, hW, hb, _, x0⟩ := boxes1 w #[.int .i64 X.l, .int .i64 X.n, .int .i64 X.pi, .int .i64 X.sl, .int .i64 X.ga, .int .i64 X.pa, .int .i64 X.sp, .slice aT X.ts.length cT] 24
  have c0 := x0.cell 0 rfl; have c1 := x0.cell 1 rfl; have c2 := x0.cell 2 rfl; have c3 := x0.cell 3 rfl; have c4 := x0.cell 4 rfl; have c5 := x0.cell 5 rfl; have c6 := x0.cell 6 rfl; have c7 := x0.cell 7 rfl
  have hri := Rising_any aT cT X.ts 0 99999 W (hX.below hb (Nat.le_refl _))
  have HV := hid (vB_iff X)
  have HE := hid (show vE X = if vB X = true then 0 else 130 from rfl)
  have HN := hid (show vB X ≠ true → vE X = 130 from fun h => by rw [HE.out, if_neg h])
  have HY := hid (show vB X = true → vE X = 0 from fun h => by rw [HE.out, if_pos h])
  generalize vE X = E at *
  generalize vB X = r at *
  clear HE hX x0
  obtain ⟨rb, hrb⟩ : ∃ rb, rb = risB 0 99999 X.ts := ⟨_, rfl⟩
  rw [← hrb] at hri HV
  obtain ⟨m, hm⟩ : ∃ m, m = X.ts.length := ⟨_, rfl⟩
  rw [← hm] at hri HV c7 hW ⊢
  clear hrb hm
  go_enter Try.func16, Try.ntmps16
  by_cases p0 : 1 ≤ X.l ∧ X.l ≤ 5
  · have hc := within_true p0 W
    go_wp2_with fail
    refine hc.mono ?_
    rintro e V0 ⟨rfl, rfl⟩
    clear hc
    by_cases p1 : 1 ≤ X.n ∧ X.n ≤ 5
    · have hc := within_true p1 W
      go_wp2_with fail
      refine hc.mono ?_
      rintro e V1 ⟨rfl, rfl⟩
      clear hc
      by_cases p2 : 1 ≤ X.pi ∧ X.pi ≤ 99
      · have hc := within_true p2 W
        go_wp2_with fail
        refine hc.mono ?_
        rintro e V2 ⟨rfl, rfl⟩
        clear hc
        have ew3 : IntKind.i64.wrap (X.pi - 1) = X.pi - 1 := IntWalk.i64_in _ (by omega)
        by_cases p3 : 0 ≤ X.sl ∧ X.sl ≤ X.pi - 1
        · have hc := within_true p3 W
          go_wp2_with fail
          refine hc.mono ?_
          rintro e V3 ⟨rfl, rfl⟩
          clear hc
          by_cases p4 : 1 ≤ X.pa ∧ X.pa ≤ 999
          · have hc := within_true p4 W
            go_wp2_with fail
            refine hc.mono ?_
            rintro e V4 ⟨rfl, rfl⟩
            clear hc
            have ew5 : IntKind.i64.wrap (X.pi + X.sl) = X.pi + X.sl := IntWalk.i64_in _ (by omega)
            have ew6 : IntKind.i64.wrap (X.pi + X.sl + 1) = X.pi + X.sl + 1 := IntWalk.i64_in _ (by omega)
            have ew7 : IntKind.i64.wrap (X.pa - 1) = X.pa - 1 := IntWalk.i64_in _ (by omega)
            by_cases p5 : X.pi + X.sl + 1 ≤ X.ga ∧ X.ga ≤ X.pa - 1
            · have hc := within_true p5 W
              go_wp2_with fail
              refine hc.mono ?_
              rintro e V5 ⟨rfl, rfl⟩
              clear hc
              by_cases p6 : 0 ≤ X.sp ∧ X.sp ≤ 3
              · have hc := within_true p6 W
                go_wp2_with fail
                refine hc.mono ?_
                rintro e V6 ⟨rfl, rfl⟩
                clear hc
                by_cases p7 : m ≤ 24
                · have p7I : ¬ (m : Int) > 24 := by omega
                  cases rb with
                  | true =>
                    have HR := hid (HY.out (HV.out.2 ⟨p0, p1, p2, p3, p4, p5, p6, p7, rfl⟩))
                    clear HV HN HY
                    go_wp2_with fail
                    refine hri.mono ?_
                    rintro e V9 ⟨rfl, hb9⟩
                    replace hb := hb.trans (hb9.mono hb.size)
                    clear hb9
                    go_wp2
                    go_ret
                    exact ⟨by rw [HR.out]; rfl, hb⟩
                  | false =>
                    have HR := hid (HN.out fun hr => by have := (HV.out.1 hr).2.2.2.2.2.2.2.2; cases this)
                    clear HV HN HY
                    go_wp2_with fail
                    refine hri.mono ?_
                    rintro e V9 ⟨rfl, hb9⟩
                    replace hb := hb.trans (hb9.mono hb.size)
                    clear hb9
                    go_wp2
                    go_ret
                    exact ⟨by rw [HR.out]; rfl, hb⟩
                · have p7I : (m : Int) > 24 := by omega
                  have HR := hid (HN.out fun hr => p7 (HV.out.1 hr).2.2.2.2.2.2.2.1)
                  clear HV HN HY hri
                  go_wp2
                  go_ret
                  exact ⟨by rw [HR.out]; rfl, hb⟩
              · have hc := within_false p6 W
                have HR := hid (HN.out fun hr => p6 ((HV.out.1 hr).2.2.2.2.2.2.1))
                clear HV HN HY hri
                go_wp2_with fail
                refine hc.mono ?_
                rintro e V6 ⟨rfl, rfl⟩
                go_wp2
                go_ret
                exact ⟨by rw [HR.out]; rfl, hb⟩
            · have hc := within_false p5 W
              have HR := hid (HN.out fun hr => p5 ((HV.out.1 hr).2.2.2.2.2.1))
              clear HV HN HY hri
              go_wp2_with fail
              refine hc.mono ?_
              rintro e V5 ⟨rfl, rfl⟩
              go_wp2
              go_ret
              exact ⟨by rw [HR.out]; rfl, hb⟩
          · have hc := within_false p4 W
            have HR := hid (HN.out fun hr => p4 ((HV.out.1 hr).2.2.2.2.1))
            clear HV HN HY hri
            go_wp2_with fail
            refine hc.mono ?_
            rintro e V4 ⟨rfl, rfl⟩
            go_wp2
            go_ret
            exact ⟨by rw [HR.out]; rfl, hb⟩
        · have hc := within_false p3 W
          have HR := hid (HN.out fun hr => p3 ((HV.out.1 hr).2.2.2.1))
          clear HV HN HY hri
          go_wp2_with fail
          refine hc.mono ?_
          rintro e V3 ⟨rfl, rfl⟩
          go_wp2
          go_ret
          exact ⟨by rw [HR.out]; rfl, hb⟩
      · have hc := within_false p2 W
        have HR := hid (HN.out fun hr => p2 ((HV.out.1 hr).2.2.1))
        clear HV HN HY hri
        go_wp2_with fail
        refine hc.mono ?_
        rintro e V2 ⟨rfl, rfl⟩
        go_wp2
        go_ret
        exact ⟨by rw [HR.out]; rfl, hb⟩
    · have hc := within_false p1 W
      have HR := hid (HN.out fun hr => p1 ((HV.out.1 hr).2.1))
      clear HV HN HY hri
      go_wp2_with fail
      refine hc.mono ?_
      rintro e V1 ⟨rfl, rfl⟩
      go_wp2
      go_ret
      exact ⟨by rw [HR.out]; rfl, hb⟩
  · have hc := within_false p0 W
    have HR := hid (HN.out fun hr => p0 ((HV.out.1 hr).1))
    clear HV HN HY hri
    go_wp2_with fail
    refine hc.mono ?_
    rintro e V0 ⟨rfl, rfl⟩
    go_wp2
    go_ret
    exact ⟨by rw [HR.out]; rfl, hb⟩

/-- Whether a train lies beyond the statements' reach. -/
def farB (X : Pu) : Bool := decide (X.ts.length > 40) || (vB X && decide (X.ts.length > 14))
theorem vE_zero (X : Pu) : (vE X == 0) = vB X := by
  unfold vE
  cases vB X <;> rfl
set_option maxRecDepth 100000 in
set_option maxHeartbeats 2000000 in
theorem Far_any (aT : Option Addr) (cT : Nat) (X : Pu) (w : World) (hX : Ints w aT X.ts) : Calls Try.prog 21 #[.agg #[.int .i64 X.l, .int .i64 X.n, .int .i64 X.pi, .int .i64 X.sl, .int .i64 X.ga, .int .i64 X.pa, .int .i64 X.sp, .slice aT X.ts.length cT]] w fun e w' => e = .returned (.bool (farB X)) ∧ Below w.heap.size w w' := by
  obtain ⟨W, hW, hb, _, x0⟩ := boxes1 w #[.int .i64 X.l, .int .i64 X.n, .int .i64 X.pi, .int .i64 X.sl, .int .i64 X.ga, .int .i64 X.pa, .int .i64 X.sp, .slice aT X.ts.length cT] 24
  have hc := rCheck_any aT cT X W (hX.below hb (Nat.le_refl _))
  have HZ := hid (vE_zero X)
  have HF := hid (show farB X = (decide (X.ts.length > 40) || (vB X && decide (X.ts.length > 14))) from rfl)
  generalize farB X = R at *
  generalize vE X = E at *
  generalize vB X = r at *
  obtain ⟨m, hm⟩ : ∃ m, m = X.ts.length := ⟨_, rfl⟩
  rw [← hm] at hc HF x0 hW ⊢
  clear hm hX
  by_cases h40 : m > 40
  · have h40I : (m : Int) > 40 := by omega
    have HR := hid (show R = true by rw [HF.out, decide_eq_true h40]; rfl)
    clear HF HZ hc h40
    have c0 := x0.cell 0 rfl; have c1 := x0.cell 1 rfl; have c2 := x0.cell 2 rfl; have c3 := x0.cell 3 rfl; have c4 := x0.cell 4 rfl; have c5 := x0.cell 5 rfl; have c6 := x0.cell 6 rfl; have c7 := x0.cell 7 rfl
    go_enter Try.func21, Try.ntmps21
    go_wp2
    go_ret
    exact ⟨ret_bool HR.out.symm, hb⟩
  · have h40I : ¬ (m : Int) > 40 := by omega
    rw [decide_eq_false h40, Bool.false_or] at HF
    clear h40
    cases r with
    | false =>
      have hE : (E == 0) = false := HZ.out
      have HR := hid (show R = false by rw [HF.out]; rfl)
      clear HF HZ
      have c0 := x0.cell 0 rfl; have c1 := x0.cell 1 rfl; have c2 := x0.cell 2 rfl; have c3 := x0.cell 3 rfl; have c4 := x0.cell 4 rfl; have c5 := x0.cell 5 rfl; have c6 := x0.cell 6 rfl; have c7 := x0.cell 7 rfl
      go_enter Try.func21, Try.ntmps21
      go_wp2_with fail
      refine hc.mono ?_
      rintro e V ⟨rfl, hb1⟩
      clear c0 c1 c2 c3 c4 c5 c6 c7
      replace x0 := x0.below hb1
      replace hb := hb.trans (hb1.mono hb.size)
      clear hb1 hc hW
      have c0 := x0.cell 0 rfl; have c1 := x0.cell 1 rfl; have c2 := x0.cell 2 rfl; have c3 := x0.cell 3 rfl; have c4 := x0.cell 4 rfl; have c5 := x0.cell 5 rfl; have c6 := x0.cell 6 rfl; have c7 := x0.cell 7 rfl
      go_wp2
      go_ret
      exact ⟨ret_bool HR.out.symm, hb⟩
    | true =>
      have hE : (E == 0) = true := HZ.out
      by_cases h14 : m > 14
      · have h14I : (m : Int) > 14 := by omega
        have HR := hid (show R = true by rw [HF.out, decide_eq_true h14]; rfl)
        clear HF HZ h14
        have c0 := x0.cell 0 rfl; have c1 := x0.cell 1 rfl; have c2 := x0.cell 2 rfl; have c3 := x0.cell 3 rfl; have c4 := x0.cell 4 rfl; have c5 := x0.cell 5 rfl; have c6 := x0.cell 6 rfl; have c7 := x0.cell 7 rfl
        go_enter Try.func21, Try.ntmps21
        go_wp2_with fail
        refine hc.mono ?_
        rintro e V ⟨rfl, hb1⟩
        clear c0 c1 c2 c3 c4 c5 c6 c7
        replace x0 := x0.below hb1
        replace hb := hb.trans (hb1.mono hb.size)
        clear hb1 hc hW
        have c0 := x0.cell 0 rfl; have c1 := x0.cell 1 rfl; have c2 := x0.cell 2 rfl; have c3 := x0.cell 3 rfl; have c4 := x0.cell 4 rfl; have c5 := x0.cell 5 rfl; have c6 := x0.cell 6 rfl; have c7 := x0.cell 7 rfl
        go_wp2
        go_ret
        exact ⟨ret_bool HR.out.symm, hb⟩
      · have h14I : ¬ (m : Int) > 14 := by omega
        have HR := hid (show R = false by rw [HF.out, decide_eq_false h14]; rfl)
        clear HF HZ h14
        have c0 := x0.cell 0 rfl; have c1 := x0.cell 1 rfl; have c2 := x0.cell 2 rfl; have c3 := x0.cell 3 rfl; have c4 := x0.cell 4 rfl; have c5 := x0.cell 5 rfl; have c6 := x0.cell 6 rfl; have c7 := x0.cell 7 rfl
        go_enter Try.func21, Try.ntmps21
        go_wp2_with fail
        refine hc.mono ?_
        rintro e V ⟨rfl, hb1⟩
        clear c0 c1 c2 c3 c4 c5 c6 c7
        replace x0 := x0.below hb1
        replace hb := hb.trans (hb1.mono hb.size)
        clear hb1 hc hW
        have c0 := x0.cell 0 rfl; have c1 := x0.cell 1 rfl; have c2 := x0.cell 2 rfl; have c3 := x0.cell 3 rfl; have c4 := x0.cell 4 rfl; have c5 := x0.cell 5 rfl; have c6 := x0.cell 6 rfl; have c7 := x0.cell 7 rfl
        go_wp2
        go_ret
        exact ⟨ret_bool (by first | exact HR.out.symm | exact (decide_eq_false (by omega)).trans HR.out.symm), hb⟩
/-- Whether a train is valid and within reach. -/
def rdyB (X : Pu) : Bool := !farB X && vB X
set_option maxRecDepth 100000 in
set_option maxHeartbeats 2000000 in
theorem ready_any (aT : Option Addr) (cT : Nat) (X : Pu) (w : World) (hX : Ints w aT X.ts) : Calls Try.prog 38 #[.agg #[.int .i64 X.l, .int .i64 X.n, .int .i64 X.pi, .int .i64 X.sl, .int .i64 X.ga, .int .i64 X.pa, .int .i64 X.sp, .slice aT X.ts.length cT]] w fun e w' => e = .returned (.bool (rdyB X)) ∧ Below w.heap.size w w' := by
  obtain ⟨W, hW, hb, _, x0⟩ := boxes1 w #[.int .i64 X.l, .int .i64 X.n, .int .i64 X.pi, .int .i64 X.sl, .int .i64 X.ga, .int .i64 X.pa, .int .i64 X.sp, .slice aT X.ts.length cT] 24
  have hf := Far_any aT cT X W (hX.below hb (Nat.le_refl _))
  have hc := fun V (h : Below W.heap.size W V) => rCheck_any aT cT X V ((hX.below hb (Nat.le_refl _)).below h (Nat.le_refl _))
  have HZ := hid (vE_zero X)
  have HF := hid (show rdyB X = (!farB X && vB X) from rfl)
  generalize rdyB X = R at *
  generalize farB X = f at *
  generalize vE X = E at *
  generalize vB X = r at *
  generalize X.ts.length = m at *
  clear hX
  have c0 := x0.cell 0 rfl; have c1 := x0.cell 1 rfl; have c2 := x0.cell 2 rfl; have c3 := x0.cell 3 rfl; have c4 := x0.cell 4 rfl; have c5 := x0.cell 5 rfl; have c6 := x0.cell 6 rfl; have c7 := x0.cell 7 rfl
  cases f with
  | true =>
    have HR := hid (show R = false by rw [HF.out]; rfl)
    clear HF HZ hc
    go_enter Try.func38, Try.ntmps38
    go_wp2_with fail
    refine hf.mono ?_
    rintro e V ⟨rfl, hb1⟩
    replace hb := hb.trans (hb1.mono hb.size)
    clear hb1 hf hW c0 c1 c2 c3 c4 c5 c6 c7 x0
    go_wp2
    go_ret
    exact ⟨ret_bool HR.out.symm, hb⟩
  | false =>
    have hE : (E == 0) = r := HZ.out
    have HR := hid (show R = r by rw [HF.out]; rfl)
    clear HF HZ
    go_enter Try.func38, Try.ntmps38
    go_wp2_with fail
    refine hf.mono ?_
    rintro e V ⟨rfl, hb1⟩
    have hc1 := hc V hb1
    clear c0 c1 c2 c3 c4 c5 c6 c7
    replace x0 := x0.below hb1
    replace hb := hb.trans (hb1.mono hb.size)
    clear hb1 hf hW hc
    have c0 := x0.cell 0 rfl; have c1 := x0.cell 1 rfl; have c2 := x0.cell 2 rfl; have c3 := x0.cell 3 rfl; have c4 := x0.cell 4 rfl; have c5 := x0.cell 5 rfl; have c6 := x0.cell 6 rfl; have c7 := x0.cell 7 rfl
    go_wp2_with fail
    refine hc1.mono ?_
    rintro e V2 ⟨rfl, hb1⟩
    replace hb := hb.trans (hb1.mono hb.size)
    clear hb1 hc1 c0 c1 c2 c3 c4 c5 c6 c7 x0
    go_wp2
    go_ret
    exact ⟨ret_bool HR.out.symm, hb⟩
/-- Whether an error is none, or 'unknown'. -/
def knB (e : Int) : Bool := decide (e = 0) || decide (e = 3)
set_option maxRecDepth 100000 in
set_option maxHeartbeats 1000000 in
theorem isKnown_any (x : Int) (w : World) : Calls Try.prog 46 #[.int .i64 x] w fun e w' => e = .returned (.bool (knB x)) ∧ w = w' := by
  have HK := hid (show knB x = (decide (x = 0) || decide (x = 3)) from rfl)
  generalize knB x = R at *
  by_cases h0 : x = 0
  · have hE : (x == 0) = true := by simp [h0]
    have HR := hid (show R = true by rw [HK.out, decide_eq_true h0]; rfl)
    clear h0 HK
    go_enter Try.func46, Try.ntmps46
    go_wp2
    go_ret
    exact ⟨ret_bool HR.out.symm, rfl⟩
  · have hE : (x == 0) = false := by simp [h0]
    rw [decide_eq_false h0, Bool.false_or] at HK
    by_cases h3 : x = 3
    · have hE3 : (x == 3) = true := by simp [h3]
      have HR := hid (show R = true by rw [HK.out, decide_eq_true h3])
      clear h0 HK h3
      go_enter Try.func46, Try.ntmps46
      go_wp2
      go_ret
      exact ⟨ret_bool HR.out.symm, rfl⟩
    · have hE3 : (x == 3) = false := by simp [h3]
      have HR := hid (show R = false by rw [HK.out, decide_eq_false h3])
      clear h0 HK h3
      go_enter Try.func46, Try.ntmps46
      go_wp2
      go_ret
      exact ⟨ret_bool HR.out.symm, rfl⟩
end Go.Proofs.Yteianfbdhakhpaa
