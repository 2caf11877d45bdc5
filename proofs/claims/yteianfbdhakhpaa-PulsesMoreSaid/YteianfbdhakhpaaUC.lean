import Derived.Test.YteianfbdhakhpaaTV
import Derived.Test.YteianfbdhakhpaaUA
/-! The law of more sparks. -/
namespace Go.Proofs.Yteianfbdhakhpaa
set_option linter.unusedSimpArgs false
set_option linter.unusedVariables false
open Go Go.RowKit

theorem erX_03 {X : Pu} (hv : vB X = true) : erX X true = 0 ∨ erX X true = 3 := by
  rw [erX_few hv]
  by_cases h : (fewX X : Int) ≤ X.sp
  · exact .inl (if_pos h)
  · exact .inr (if_neg h)
set_option maxRecDepth 100000 in
set_option maxHeartbeats 4000000 in
theorem PulsesMore_any (aT : Option Addr) (cT : Nat) (X : Pu) (more s : Int) (w : World) (hX : Ints w aT X.ts) : Calls Try.prog 9 #[.agg #[.int .i64 X.l, .int .i64 X.n, .int .i64 X.pi, .int .i64 X.sl, .int .i64 X.ga, .int .i64 X.pa, .int .i64 X.sp, .slice aT X.ts.length cT], .int .i64 more, .int .i64 s] w fun e w' => e = .returned (.bool true) ∧ Below w.heap.size w w' := by
  obtain ⟨W, hW, hb, _, x0⟩ := boxes1 w #[.int .i64 X.l, .int .i64 X.n, .int .i64 X.pi, .int .i64 X.sl, .int .i64 X.ga, .int .i64 X.pa, .int .i64 X.sp, .slice aT X.ts.length cT] 24
  replace hX := hX.below hb (Nat.le_refl _)
  obtain ⟨k, hk⟩ : ∃ k, k = X.sp + more := ⟨_, rfl⟩
  have hrd := fun V h => ready_any aT cT X V h
  have hse := fun V => rIsSelection_any aT cT X s V
  have hma := fun V h => Many_any aT cT X V h
  have hli := fun V h => Lists_any aT cT X V h
  have has := fun V h => Asked_any aT cT X s V h
  have hrl := fun V h => Real_any aT cT X V h
  have hsk := fun V h => Sparks_any aT cT X V h
  have hcp := fun V h h1 => Copy_any aT cT X V h h1
  have hwk := fun V => works_any V
  have hmaY : ∀ aQ cQ V, Ints V aQ X.ts → Calls Try.prog 24 #[.agg #[.int .i64 X.l, .int .i64 X.n, .int .i64 X.pi, .int .i64 X.sl, .int .i64 X.ga, .int .i64 X.pa, .int .i64 k, .slice aQ X.ts.length cQ]] V _ := fun aQ cQ V h => Many_any aQ cQ (X.at k) V h
  have hliY : ∀ aQ cQ V, Ints V aQ X.ts → Calls Try.prog 26 #[.agg #[.int .i64 X.l, .int .i64 X.n, .int .i64 X.pi, .int .i64 X.sl, .int .i64 X.ga, .int .i64 X.pa, .int .i64 k, .slice aQ X.ts.length cQ]] V _ := fun aQ cQ V h => Lists_any aQ cQ (X.at k) V h
  have hasY : ∀ aQ cQ V, Ints V aQ X.ts → Calls Try.prog 30 #[.agg #[.int .i64 X.l, .int .i64 X.n, .int .i64 X.pi, .int .i64 X.sl, .int .i64 X.ga, .int .i64 X.pa, .int .i64 k, .slice aQ X.ts.length cQ], .int .i64 s] V _ := fun aQ cQ V h => Asked_any aQ cQ (X.at k) s V h
  have hrlY : ∀ aQ cQ V, Ints V aQ X.ts → Calls Try.prog 32 #[.agg #[.int .i64 X.l, .int .i64 X.n, .int .i64 X.pi, .int .i64 X.sl, .int .i64 X.ga, .int .i64 X.pa, .int .i64 k, .slice aQ X.ts.length cQ]] V _ := fun aQ cQ V h => Real_any aQ cQ (X.at k) V h
  have hskY : ∀ aQ cQ V, Ints V aQ X.ts → Calls Try.prog 34 #[.agg #[.int .i64 X.l, .int .i64 X.n, .int .i64 X.pi, .int .i64 X.sl, .int .i64 X.ga, .int .i64 X.pa, .int .i64 k, .slice aQ X.ts.length cQ]] V _ := fun aQ cQ V h => Sparks_any aQ cQ (X.at k) V h
  have HRD := hid (show rdyB X = true → _ from rdyB_ok)
  have HSP := hid (show vB X = true → 0 ≤ X.sp ∧ X.sp ≤ 3 from fun h => (vB_ok h).2.1)
  have HEX := hid (show vB X = true → _ from fun h => erX_03 h)
  have HEY := hid (show vB X = true → 0 ≤ k ∧ k ≤ 3 → _ from fun h h2 => erX_03 (vB_at h h2))
  have HML := hid (show vB X = true → X.sp ≤ k → k ≤ 3 → erX X true = 0 → selB X s = true → _ from fun h1 h2 h3 h4 h5 => (show MoreLaw X (X.at k) s → erX (X.at k) true = 0 ∧ manN X ≤ manN (X.at k) ∧ lsN X ≤ lsN (X.at k) ∧ 1 ≤ lsN X ∧ lsN X ≤ manN X ∧ askE X s = 0 ∧ askE (X.at k) s = 0 ∧ askLo (X.at k) s ≤ askLo X s ∧ askLo X s ≤ askHi X s ∧ askHi X s ≤ askHi (X.at k) s ∧ inAll (soX reB (X.at k)) (soX reB X) = true ∧ inAll (soX spB (X.at k)) (soX spB X) = true from fun h => ⟨h.e, h.m, h.l, h.l1, h.lm, h.ae, h.be, h.lo, h.lh, h.hi, h.re, h.sp⟩) (more_law h1 h2 h3 h4 h5))
  have HLN := hid (show (soX reB X).length ≤ X.ts.length ∧ (soX reB (X.at k)).length ≤ X.ts.length ∧ (soX spB X).length ≤ X.ts.length ∧ (soX spB (X.at k)).length ≤ X.ts.length from ⟨soX_len _ _, soX_len reB (X.at k), soX_len _ _, soX_len spB (X.at k)⟩)
  unfold CpP at hcp
  unfold ReP at hrl hrlY hsk hskY
  generalize rdyB X = rd at *
  generalize vB X = vb at *
  generalize selB X s = sb at *
  generalize erX X true = ER at *
  generalize erX (X.at k) true = ERY at *
  generalize manN X = MN at *
  generalize manN (X.at k) = MNY at *
  generalize lsN X = LN at *
  generalize lsN (X.at k) = LNY at *
  generalize askE X s = AE at *
  generalize askE (X.at k) s = AEY at *
  generalize askLo X s = AL at *
  generalize askLo (X.at k) s = ALY at *
  generalize askHi X s = AH at *
  generalize askHi (X.at k) s = AHY at *
  generalize soX reB X = SO at *
  generalize soX reB (X.at k) = SOY at *
  generalize soX spB X = SK at *
  generalize soX spB (X.at k) = SKY at *
  generalize hnn : X.ts.length = n at *
  have HNN := hid hnn
  clear hnn
  generalize hts : X.ts = ts at *
  clear hts
  have HKD := hid hk
  clear hk
  go_enter Try.func9, Try.ntmps9
  have c0 := x0.cell 0 rfl; have c1 := x0.cell 1 rfl; have c2 := x0.cell 2 rfl; have c3 := x0.cell 3 rfl; have c4 := x0.cell 4 rfl; have c5 := x0.cell 5 rfl; have c6 := x0.cell 6 rfl; have c7 := x0.cell 7 rfl
  go_wp2_with fail
  refine (hrd _ hX).mono ?_
  rintro e Vc1 ⟨rfl, hb1⟩
  clear c0 c1 c2 c3 c4 c5 c6 c7
  replace x0 := x0.below hb1
  replace hX := hX.below hb1 (Nat.le_refl _)
  replace hb := hb.trans (hb1.mono hb.size)
  clear hb1 hrd hW
  have c0 := x0.cell 0 rfl; have c1 := x0.cell 1 rfl; have c2 := x0.cell 2 rfl; have c3 := x0.cell 3 rfl; have c4 := x0.cell 4 rfl; have c5 := x0.cell 5 rfl; have c6 := x0.cell 6 rfl; have c7 := x0.cell 7 rfl
  cases rd with
  | false =>
    go_wp2_with fail
    refine (hwk _).mono ?_
    rintro e Vw ⟨rfl, hbw9⟩
    clear c0 c1 c2 c3 c4 c5 c6 c7
    replace hb := hb.trans (hbw9.mono hb.size)
    go_wp2
    go_ret
    exact ⟨rfl, hb⟩
  | true =>
    have HV := hid (HRD.out rfl).1
    have HL14 := hid (HRD.out rfl).2
    have hsp := HSP.out HV.out
    clear HRD HSP
    by_cases hb0 : more < 0
    · skip
      go_wp2_with fail
      refine (hwk _).mono ?_
      rintro e Vw ⟨rfl, hbw9⟩
      clear c0 c1 c2 c3 c4 c5 c6 c7
      replace hb := hb.trans (hbw9.mono hb.size)
      go_wp2
      go_ret
      exact ⟨rfl, hb⟩
    by_cases hb9 : more > 3
    · skip
      go_wp2_with fail
      refine (hwk _).mono ?_
      rintro e Vw ⟨rfl, hbw9⟩
      clear c0 c1 c2 c3 c4 c5 c6 c7
      replace hb := hb.trans (hbw9.mono hb.size)
      go_wp2
      go_ret
      exact ⟨rfl, hb⟩
    have ewk : IntKind.i64.wrap (X.sp + more) = k := by rw [IntWalk.i64_in _ (by omega)]; exact HKD.out.symm
    by_cases hb8 : k > 3
    · skip
      go_wp2_with fail
      refine (hwk _).mono ?_
      rintro e Vw ⟨rfl, hbw9⟩
      clear c0 c1 c2 c3 c4 c5 c6 c7
      replace hb := hb.trans (hbw9.mono hb.size)
      go_wp2
      go_ret
      exact ⟨rfl, hb⟩
    have hkr : 0 ≤ k ∧ k ≤ 3 ∧ X.sp ≤ k := by have := HKD.out; omega
    have HKR := hid hkr
    clear hkr
    go_wp2_with fail
    refine (hse _).mono ?_
    rintro e Vc6 ⟨rfl, hb1⟩
    clear c0 c1 c2 c3 c4 c5 c6 c7
    replace x0 := x0.below hb1
    replace hX := hX.below hb1 (Nat.le_refl _)
    replace hb := hb.trans (hb1.mono hb.size)
    clear hb1 hse
    have c0 := x0.cell 0 rfl; have c1 := x0.cell 1 rfl; have c2 := x0.cell 2 rfl; have c3 := x0.cell 3 rfl; have c4 := x0.cell 4 rfl; have c5 := x0.cell 5 rfl; have c6 := x0.cell 6 rfl; have c7 := x0.cell 7 rfl
    cases sb with
    | false =>
      go_wp2_with fail
      refine (hwk _).mono ?_
      rintro e Vw ⟨rfl, hbw9⟩
      clear c0 c1 c2 c3 c4 c5 c6 c7
      replace hb := hb.trans (hbw9.mono hb.size)
      go_wp2
      go_ret
      exact ⟨rfl, hb⟩
    | true =>
      go_wp2_with fail
      refine (hcp _ hX (by have := HL14.out; omega)).mono ?_
      rintro e Vq ⟨hb1, aQ, cQ, rfl, hQ⟩
      clear c0 c1 c2 c3 c4 c5 c6 c7
      replace x0 := x0.below hb1
      replace hX := hX.below hb1 (Nat.le_refl _)
      replace hb := hb.trans (hb1.mono hb.size)
      clear hb1 hcp
      replace hQ := hQ.i
      have HX0L2 := hid x0.lt
      have c0 := x0.cell 0 rfl; have c1 := x0.cell 1 rfl; have c2 := x0.cell 2 rfl; have c3 := x0.cell 3 rfl; have c4 := x0.cell 4 rfl; have c5 := x0.cell 5 rfl; have c6 := x0.cell 6 rfl; have c7 := x0.cell 7 rfl
      have H_hv := hid ((And.intro hX hQ))
      clear hX
      clear hQ
      have hba := below_one (w := Vq) (.cells #[.int .i64 X.l, .int .i64 X.n, .int .i64 X.pi, .int .i64 X.sl, .int .i64 X.ga, .int .i64 X.pa, .int .i64 X.sp, .slice aQ n cQ] 24)
      have HXa := hid (And.intro (x0.below hba) (And.intro (hb.trans (hba.mono hb.size)) (And.intro (Bx.new Vq #[.int .i64 X.l, .int .i64 X.n, .int .i64 X.pi, .int .i64 X.sl, .int .i64 X.ga, .int .i64 X.pa, .int .i64 X.sp, .slice aQ n cQ] 24) (And.intro hba hb.size))))
      clear hba hb x0
      go_upto_region 4 with fail
      clear c0 c1 c2 c3 c4 c5 c6 c7
      obtain ⟨x0, hb, x7, hv, hwz_x7⟩ := HXa.out
      clear HXa
      obtain ⟨sa_x7, hsa⟩ : ∃ q, q = Vq.heap.size := ⟨_, rfl⟩
      have HS_x7 := hid hsa
      rw [← hsa] at x7 hv hwz_x7 ⊢
      clear hsa
      generalize World.alloc _ _ = Va_x7 at *
      have HW_x7 := hid hwz_x7
      clear hwz_x7
      have c0 := x0.cell 0 rfl; have c1 := x0.cell 1 rfl; have c2 := x0.cell 2 rfl; have c3 := x0.cell 3 rfl; have c4 := x0.cell 4 rfl; have c5 := x0.cell 5 rfl; have c6 := x0.cell 6 rfl; have c7 := x0.cell 7 rfl
      have HX07 := hid (show w.heap.size < sa_x7 by rw [HS_x7.out]; exact HX0L2.out)
      have d0 := x7.cell 0 rfl; have d1 := x7.cell 1 rfl; have d2 := x7.cell 2 rfl; have d3 := x7.cell 3 rfl; have d4 := x7.cell 4 rfl; have d5 := x7.cell 5 rfl; have d6 := x7.cell 6 rfl; have d7 := x7.cell 7 rfl
      have HXs := hid (And.intro (x0.other (a := ⟨sa_x7, 6, none⟩) (by show _ ≠ sa_x7; exact Nat.ne_of_lt HX07.out) (.int .i64 k)) (And.intro (show Bx _ sa_x7 #[.int .i64 X.l, .int .i64 X.n, .int .i64 X.pi, .int .i64 X.sl, .int .i64 X.ga, .int .i64 X.pa, .int .i64 k, .slice aQ n cQ] 24 from x7.set 6 (.int .i64 k)) (And.intro (hv.setCell (p := ⟨sa_x7, 6, none⟩) (Nat.le_refl _) (.int .i64 k)) (hb.setCell (p := ⟨sa_x7, 6, none⟩) HW_x7.out (.int .i64 k)))))
      have f0 := x7.free 0; have f1 := x7.free 1; have f2 := x7.free 2; have f3 := x7.free 3; have f4 := x7.free 4; have f5 := x7.free 5; have f6 := x7.free 6; have f7 := x7.free 7
      clear hb x0 x7 hv
      go_upto_region 5 with fail
      clear d0 d1 d2 d3 d4 d5 d6 d7
      clear c0 c1 c2 c3 c4 c5 c6 c7
      clear f0 f1 f2 f3 f4 f5 f6 f7
      obtain ⟨x0, x7, hv, hb⟩ := HXs.out
      clear HXs
      generalize World.setCell _ _ _ = Vs_10 at *
      have c0 := x0.cell 0 rfl; have c1 := x0.cell 1 rfl; have c2 := x0.cell 2 rfl; have c3 := x0.cell 3 rfl; have c4 := x0.cell 4 rfl; have c5 := x0.cell 5 rfl; have c6 := x0.cell 6 rfl; have c7 := x0.cell 7 rfl
      have hX := (H_hv.out.1.below hv (by rw [HS_x7.out]; exact Nat.le_refl _))
      have hQ := (H_hv.out.2.below hv (by rw [HS_x7.out]; exact Nat.le_refl _))
      clear hv
      have d0 := x7.cell 0 rfl; have d1 := x7.cell 1 rfl; have d2 := x7.cell 2 rfl; have d3 := x7.cell 3 rfl; have d4 := x7.cell 4 rfl; have d5 := x7.cell 5 rfl; have d6 := x7.cell 6 rfl; have d7 := x7.cell 7 rfl
      go_wp2_with fail
      refine (hma _ hX).mono ?_
      rintro e Vc11 ⟨rfl, hb1⟩
      clear d0 d1 d2 d3 d4 d5 d6 d7
      clear c0 c1 c2 c3 c4 c5 c6 c7
      replace x0 := x0.below hb1
      replace x7 := x7.below hb1
      replace hX := hX.below hb1 (Nat.le_refl _)
      replace hQ := hQ.below hb1 (Nat.le_refl _)
      replace hb := hb.trans (hb1.mono hb.size)
      clear hb1 hma
      have c0 := x0.cell 0 rfl; have c1 := x0.cell 1 rfl; have c2 := x0.cell 2 rfl; have c3 := x0.cell 3 rfl; have c4 := x0.cell 4 rfl; have c5 := x0.cell 5 rfl; have c6 := x0.cell 6 rfl; have c7 := x0.cell 7 rfl
      have d0 := x7.cell 0 rfl; have d1 := x7.cell 1 rfl; have d2 := x7.cell 2 rfl; have d3 := x7.cell 3 rfl; have d4 := x7.cell 4 rfl; have d5 := x7.cell 5 rfl; have d6 := x7.cell 6 rfl; have d7 := x7.cell 7 rfl
      go_wp2_with fail
      refine (hmaY aQ cQ _ hQ).mono ?_
      rintro e Vc12 ⟨rfl, hb1⟩
      clear d0 d1 d2 d3 d4 d5 d6 d7
      clear c0 c1 c2 c3 c4 c5 c6 c7
      replace x0 := x0.below hb1
      replace x7 := x7.below hb1
      replace hX := hX.below hb1 (Nat.le_refl _)
      replace hQ := hQ.below hb1 (Nat.le_refl _)
      replace hb := hb.trans (hb1.mono hb.size)
      clear hb1 hmaY
      have c0 := x0.cell 0 rfl; have c1 := x0.cell 1 rfl; have c2 := x0.cell 2 rfl; have c3 := x0.cell 3 rfl; have c4 := x0.cell 4 rfl; have c5 := x0.cell 5 rfl; have c6 := x0.cell 6 rfl; have c7 := x0.cell 7 rfl
      have d0 := x7.cell 0 rfl; have d1 := x7.cell 1 rfl; have d2 := x7.cell 2 rfl; have d3 := x7.cell 3 rfl; have d4 := x7.cell 4 rfl; have d5 := x7.cell 5 rfl; have d6 := x7.cell 6 rfl; have d7 := x7.cell 7 rfl
      go_wp2_with fail
      refine (hli _ hX).mono ?_
      rintro e Vc13 ⟨rfl, hb1⟩
      clear d0 d1 d2 d3 d4 d5 d6 d7
      clear c0 c1 c2 c3 c4 c5 c6 c7
      replace x0 := x0.below hb1
      replace x7 := x7.below hb1
      replace hX := hX.below hb1 (Nat.le_refl _)
      replace hQ := hQ.below hb1 (Nat.le_refl _)
      replace hb := hb.trans (hb1.mono hb.size)
      clear hb1 hli
      have c0 := x0.cell 0 rfl; have c1 := x0.cell 1 rfl; have c2 := x0.cell 2 rfl; have c3 := x0.cell 3 rfl; have c4 := x0.cell 4 rfl; have c5 := x0.cell 5 rfl; have c6 := x0.cell 6 rfl; have c7 := x0.cell 7 rfl
      have d0 := x7.cell 0 rfl; have d1 := x7.cell 1 rfl; have d2 := x7.cell 2 rfl; have d3 := x7.cell 3 rfl; have d4 := x7.cell 4 rfl; have d5 := x7.cell 5 rfl; have d6 := x7.cell 6 rfl; have d7 := x7.cell 7 rfl
      go_wp2_with fail
      refine (hliY aQ cQ _ hQ).mono ?_
      rintro e Vc14 ⟨rfl, hb1⟩
      clear d0 d1 d2 d3 d4 d5 d6 d7
      clear c0 c1 c2 c3 c4 c5 c6 c7
      replace x0 := x0.below hb1
      replace x7 := x7.below hb1
      replace hX := hX.below hb1 (Nat.le_refl _)
      replace hQ := hQ.below hb1 (Nat.le_refl _)
      replace hb := hb.trans (hb1.mono hb.size)
      clear hb1 hliY
      have c0 := x0.cell 0 rfl; have c1 := x0.cell 1 rfl; have c2 := x0.cell 2 rfl; have c3 := x0.cell 3 rfl; have c4 := x0.cell 4 rfl; have c5 := x0.cell 5 rfl; have c6 := x0.cell 6 rfl; have c7 := x0.cell 7 rfl
      have d0 := x7.cell 0 rfl; have d1 := x7.cell 1 rfl; have d2 := x7.cell 2 rfl; have d3 := x7.cell 3 rfl; have d4 := x7.cell 4 rfl; have d5 := x7.cell 5 rfl; have d6 := x7.cell 6 rfl; have d7 := x7.cell 7 rfl
      have hk3 : knB 3 = true := rfl
      have hk0 : knB 0 = true := rfl
      have hkE := fun V => isKnown_any ER V
      have hkM := fun V => isKnown_any ERY V
      rcases HEX.out HV.out with h0 | h0
      · obtain ⟨q1, q2, q3, q4, q5, q6, q7, q8, q9, q10, q11, q12⟩ := HML.out HV.out HKR.out.2.2 HKR.out.2.1 h0 trivial
        subst h0 q1 q6 q7
        rw [hk0] at hkE hkM
        have r1 : ¬ (MN : Int) > MNY := by omega
        have r2 : ¬ (LN : Int) > LNY := by omega
        have r3 : ¬ (LN : Int) < 1 := by omega
        have r4 : ¬ (LN : Int) > MN := by omega
        have r5 : ¬ (ALY : Int) > AL := by omega
        have r6 : ¬ (AL : Int) > AH := by omega
        have r7 : ¬ (AH : Int) > AHY := by omega
        clear HML HEX HEY q2 q3 q4 q5 q8 q9 q10
        go_wp2_with fail
        refine (hkE _).mono ?_
        rintro e Vc15 ⟨rfl, rfl⟩
        clear hkE
        go_wp2_with fail
        refine (hkM _).mono ?_
        rintro e Vc16 ⟨rfl, rfl⟩
        clear hkM
        go_wp2_with fail
        refine (has _ hX).mono ?_
        rintro e Vc17 ⟨rfl, hb1⟩
        clear d0 d1 d2 d3 d4 d5 d6 d7
        clear c0 c1 c2 c3 c4 c5 c6 c7
        replace x0 := x0.below hb1
        replace x7 := x7.below hb1
        replace hX := hX.below hb1 (Nat.le_refl _)
        replace hQ := hQ.below hb1 (Nat.le_refl _)
        replace hb := hb.trans (hb1.mono hb.size)
        clear hb1 has
        have c0 := x0.cell 0 rfl; have c1 := x0.cell 1 rfl; have c2 := x0.cell 2 rfl; have c3 := x0.cell 3 rfl; have c4 := x0.cell 4 rfl; have c5 := x0.cell 5 rfl; have c6 := x0.cell 6 rfl; have c7 := x0.cell 7 rfl
        have d0 := x7.cell 0 rfl; have d1 := x7.cell 1 rfl; have d2 := x7.cell 2 rfl; have d3 := x7.cell 3 rfl; have d4 := x7.cell 4 rfl; have d5 := x7.cell 5 rfl; have d6 := x7.cell 6 rfl; have d7 := x7.cell 7 rfl
        have hba := below_one (w := Vc17) (.cells #[.int .i64 (AL : Int), .int .i64 (AH : Int)] 39)
        have HXa := hid (And.intro (x0.below hba) (And.intro (x7.below hba) (And.intro (hX.below hba (Nat.le_refl _)) (And.intro (hQ.below hba (Nat.le_refl _)) (And.intro (hb.trans (hba.mono hb.size)) (Bx.new Vc17 #[.int .i64 (AL : Int), .int .i64 (AH : Int)] 39))))))
        clear hba hb x0 x7 hX hQ
        go_upto_region 14 with fail
        clear d0 d1 d2 d3 d4 d5 d6 d7
        clear c0 c1 c2 c3 c4 c5 c6 c7
        obtain ⟨x0, x7, hX, hQ, hb, x16⟩ := HXa.out
        clear HXa
        generalize Vc17.heap.size = sa_x16 at *
        generalize World.alloc _ _ = Va_x16 at *
        have d0 := x7.cell 0 rfl; have d1 := x7.cell 1 rfl; have d2 := x7.cell 2 rfl; have d3 := x7.cell 3 rfl; have d4 := x7.cell 4 rfl; have d5 := x7.cell 5 rfl; have d6 := x7.cell 6 rfl; have d7 := x7.cell 7 rfl
        have c0 := x0.cell 0 rfl; have c1 := x0.cell 1 rfl; have c2 := x0.cell 2 rfl; have c3 := x0.cell 3 rfl; have c4 := x0.cell 4 rfl; have c5 := x0.cell 5 rfl; have c6 := x0.cell 6 rfl; have c7 := x0.cell 7 rfl
        go_wp2_with fail
        refine (hasY aQ cQ _ hQ).mono ?_
        rintro e Vc19 ⟨rfl, hb1⟩
        clear d0 d1 d2 d3 d4 d5 d6 d7
        clear c0 c1 c2 c3 c4 c5 c6 c7
        replace x0 := x0.below hb1
        replace x7 := x7.below hb1
        replace x16 := x16.below hb1
        replace hX := hX.below hb1 (Nat.le_refl _)
        replace hQ := hQ.below hb1 (Nat.le_refl _)
        replace hb := hb.trans (hb1.mono hb.size)
        clear hb1 hasY
        have c0 := x0.cell 0 rfl; have c1 := x0.cell 1 rfl; have c2 := x0.cell 2 rfl; have c3 := x0.cell 3 rfl; have c4 := x0.cell 4 rfl; have c5 := x0.cell 5 rfl; have c6 := x0.cell 6 rfl; have c7 := x0.cell 7 rfl
        have d0 := x7.cell 0 rfl; have d1 := x7.cell 1 rfl; have d2 := x7.cell 2 rfl; have d3 := x7.cell 3 rfl; have d4 := x7.cell 4 rfl; have d5 := x7.cell 5 rfl; have d6 := x7.cell 6 rfl; have d7 := x7.cell 7 rfl
        have hba := below_one (w := Vc19) (.cells #[.int .i64 (ALY : Int), .int .i64 (AHY : Int)] 39)
        have HXa := hid (And.intro (x0.below hba) (And.intro (x7.below hba) (And.intro (x16.below hba) (And.intro (hX.below hba (Nat.le_refl _)) (And.intro (hQ.below hba (Nat.le_refl _)) (And.intro (hb.trans (hba.mono hb.size)) (Bx.new Vc19 #[.int .i64 (ALY : Int), .int .i64 (AHY : Int)] 39)))))))
        clear hba hb x0 x7 x16 hX hQ
        go_upto_region 15 with fail
        clear d0 d1 d2 d3 d4 d5 d6 d7
        clear c0 c1 c2 c3 c4 c5 c6 c7
        obtain ⟨x0, x7, x16, hX, hQ, hb, x18⟩ := HXa.out
        clear HXa
        generalize Vc19.heap.size = sa_x18 at *
        generalize World.alloc _ _ = Va_x18 at *
        have d0 := x7.cell 0 rfl; have d1 := x7.cell 1 rfl; have d2 := x7.cell 2 rfl; have d3 := x7.cell 3 rfl; have d4 := x7.cell 4 rfl; have d5 := x7.cell 5 rfl; have d6 := x7.cell 6 rfl; have d7 := x7.cell 7 rfl
        have c0 := x0.cell 0 rfl; have c1 := x0.cell 1 rfl; have c2 := x0.cell 2 rfl; have c3 := x0.cell 3 rfl; have c4 := x0.cell 4 rfl; have c5 := x0.cell 5 rfl; have c6 := x0.cell 6 rfl; have c7 := x0.cell 7 rfl
        have p0 := x16.cell 0 rfl; have p1 := x16.cell 1 rfl
        have q0 := x18.cell 0 rfl; have q1 := x18.cell 1 rfl
        go_wp2_with fail
        refine (hrl _ hX).mono ?_
        rintro e Vc21 ⟨hb1, a1, k1, rfl, z1⟩
        clear q0 q1
        clear d0 d1 d2 d3 d4 d5 d6 d7
        clear c0 c1 c2 c3 c4 c5 c6 c7
        clear p0 p1
        replace x0 := x0.below hb1
        replace x7 := x7.below hb1
        replace x16 := x16.below hb1
        replace x18 := x18.below hb1
        replace hX := hX.below hb1 (Nat.le_refl _)
        replace hQ := hQ.below hb1 (Nat.le_refl _)
        replace hb := hb.trans (hb1.mono hb.size)
        clear hb1 hrl
        have c0 := x0.cell 0 rfl; have c1 := x0.cell 1 rfl; have c2 := x0.cell 2 rfl; have c3 := x0.cell 3 rfl; have c4 := x0.cell 4 rfl; have c5 := x0.cell 5 rfl; have c6 := x0.cell 6 rfl; have c7 := x0.cell 7 rfl
        have d0 := x7.cell 0 rfl; have d1 := x7.cell 1 rfl; have d2 := x7.cell 2 rfl; have d3 := x7.cell 3 rfl; have d4 := x7.cell 4 rfl; have d5 := x7.cell 5 rfl; have d6 := x7.cell 6 rfl; have d7 := x7.cell 7 rfl
        have p0 := x16.cell 0 rfl; have p1 := x16.cell 1 rfl
        have q0 := x18.cell 0 rfl; have q1 := x18.cell 1 rfl
        clear p0 p1
        clear q0 q1
        clear x16 x18
        go_wp2_with fail
        refine (hrlY aQ cQ _ hQ).mono ?_
        rintro e Vc22 ⟨hb1, a2, k2, rfl, z2⟩
        clear d0 d1 d2 d3 d4 d5 d6 d7
        clear c0 c1 c2 c3 c4 c5 c6 c7
        replace x0 := x0.below hb1
        replace x7 := x7.below hb1
        replace hX := hX.below hb1 (Nat.le_refl _)
        replace hQ := hQ.below hb1 (Nat.le_refl _)
        replace z1 := z1.below hb1
        replace hb := hb.trans (hb1.mono hb.size)
        clear hb1 hrlY
        have c0 := x0.cell 0 rfl; have c1 := x0.cell 1 rfl; have c2 := x0.cell 2 rfl; have c3 := x0.cell 3 rfl; have c4 := x0.cell 4 rfl; have c5 := x0.cell 5 rfl; have c6 := x0.cell 6 rfl; have c7 := x0.cell 7 rfl
        have d0 := x7.cell 0 rfl; have d1 := x7.cell 1 rfl; have d2 := x7.cell 2 rfl; have d3 := x7.cell 3 rfl; have d4 := x7.cell 4 rfl; have d5 := x7.cell 5 rfl; have d6 := x7.cell 6 rfl; have d7 := x7.cell 7 rfl
        go_wp2_with fail
        refine (hsk _ hX).mono ?_
        rintro e Vc23 ⟨hb1, a3, k3, rfl, z3⟩
        clear d0 d1 d2 d3 d4 d5 d6 d7
        clear c0 c1 c2 c3 c4 c5 c6 c7
        replace x0 := x0.below hb1
        replace x7 := x7.below hb1
        replace hX := hX.below hb1 (Nat.le_refl _)
        replace hQ := hQ.below hb1 (Nat.le_refl _)
        replace z1 := z1.below hb1
        replace z2 := z2.below hb1
        replace hb := hb.trans (hb1.mono hb.size)
        clear hb1 hsk
        have c0 := x0.cell 0 rfl; have c1 := x0.cell 1 rfl; have c2 := x0.cell 2 rfl; have c3 := x0.cell 3 rfl; have c4 := x0.cell 4 rfl; have c5 := x0.cell 5 rfl; have c6 := x0.cell 6 rfl; have c7 := x0.cell 7 rfl
        have d0 := x7.cell 0 rfl; have d1 := x7.cell 1 rfl; have d2 := x7.cell 2 rfl; have d3 := x7.cell 3 rfl; have d4 := x7.cell 4 rfl; have d5 := x7.cell 5 rfl; have d6 := x7.cell 6 rfl; have d7 := x7.cell 7 rfl
        go_wp2_with fail
        refine (hskY aQ cQ _ hQ).mono ?_
        rintro e Vc24 ⟨hb1, a4, k4, rfl, z4⟩
        clear d0 d1 d2 d3 d4 d5 d6 d7
        clear c0 c1 c2 c3 c4 c5 c6 c7
        replace x0 := x0.below hb1
        replace x7 := x7.below hb1
        replace hX := hX.below hb1 (Nat.le_refl _)
        replace hQ := hQ.below hb1 (Nat.le_refl _)
        replace z1 := z1.below hb1
        replace z2 := z2.below hb1
        replace z3 := z3.below hb1
        replace hb := hb.trans (hb1.mono hb.size)
        clear hb1 hskY
        have c0 := x0.cell 0 rfl; have c1 := x0.cell 1 rfl; have c2 := x0.cell 2 rfl; have c3 := x0.cell 3 rfl; have c4 := x0.cell 4 rfl; have c5 := x0.cell 5 rfl; have c6 := x0.cell 6 rfl; have c7 := x0.cell 7 rfl
        have d0 := x7.cell 0 rfl; have d1 := x7.cell 1 rfl; have d2 := x7.cell 2 rfl; have d3 := x7.cell 3 rfl; have d4 := x7.cell 4 rfl; have d5 := x7.cell 5 rfl; have d6 := x7.cell 6 rfl; have d7 := x7.cell 7 rfl
        clear c0 c1 c2 c3 c4 c5 c6 c7
        clear d0 d1 d2 d3 d4 d5 d6 d7
        clear x0 x7 hX hQ
        have hi1 := isIn_any a2 a1 k2 k1 SOY SO (by have h1 := HLN.out; have h2 := HL14.out; omega) (by have h1 := HLN.out; have h2 := HL14.out; omega) _ z2.i z1.i
        have hi2 := isIn_any a4 a3 k4 k3 SKY SK (by have h1 := HLN.out; have h2 := HL14.out; omega) (by have h1 := HLN.out; have h2 := HL14.out; omega) _ z4.i z3.i
        rw [q11] at hi1
        rw [q12] at hi2
        go_wp2_with fail
        refine (hi1).mono ?_
        rintro e Vc25 ⟨rfl, rfl⟩
        clear hi1
        go_wp2_with fail
        refine (hi2).mono ?_
        rintro e Vc26 ⟨rfl, rfl⟩
        clear hi2
        go_wp2_with fail
        refine (hwk _).mono ?_
        rintro e Vw ⟨rfl, hbw9⟩
        replace hb := hb.trans (hbw9.mono hb.size)
        go_wp2
        go_ret
        exact ⟨rfl, hb⟩
      · subst h0
        rw [hk3] at hkE
        rcases HEY.out HV.out ⟨HKR.out.1, HKR.out.2.1⟩ with h1 | h1
        · subst h1
          rw [hk0] at hkM
          go_wp2_with fail
          refine (hkE _).mono ?_
          rintro e Vc28 ⟨rfl, rfl⟩
          clear hkE
          go_wp2_with fail
          refine (hkM _).mono ?_
          rintro e Vc29 ⟨rfl, rfl⟩
          clear hkM
          go_wp2_with fail
          refine (hwk _).mono ?_
          rintro e Vw ⟨rfl, hbw9⟩
          clear d0 d1 d2 d3 d4 d5 d6 d7
          clear c0 c1 c2 c3 c4 c5 c6 c7
          replace hb := hb.trans (hbw9.mono hb.size)
          go_wp2
          go_ret
          exact ⟨rfl, hb⟩
        · subst h1
          rw [hk3] at hkM
          go_wp2_with fail
          refine (hkE _).mono ?_
          rintro e Vc31 ⟨rfl, rfl⟩
          clear hkE
          go_wp2_with fail
          refine (hkM _).mono ?_
          rintro e Vc32 ⟨rfl, rfl⟩
          clear hkM
          go_wp2_with fail
          refine (hwk _).mono ?_
          rintro e Vw ⟨rfl, hbw9⟩
          clear d0 d1 d2 d3 d4 d5 d6 d7
          clear c0 c1 c2 c3 c4 c5 c6 c7
          replace hb := hb.trans (hbw9.mono hb.size)
          go_wp2
          go_ret
          exact ⟨rfl, hb⟩
end Go.Proofs.Yteianfbdhakhpaa
