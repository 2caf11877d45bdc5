import Derived.Test.YteianfbdhakhpaaM4
import Derived.Test.YteianfbdhakhpaaTT
/-! The law of the fewest sparks. -/
namespace Go.Proofs.Yteianfbdhakhpaa
set_option linter.unusedSimpArgs false
set_option linter.unusedVariables false
open Go Go.RowKit

theorem rdyB_ok {X : Pu} (h : rdyB X = true) : vB X = true ∧ X.ts.length ≤ 14 := by
  simp only [rdyB, farB, Bool.and_eq_true, Bool.not_eq_true', Bool.or_eq_false_iff, decide_eq_false_iff_not, Bool.and_eq_false_iff] at h
  obtain ⟨⟨h1, h2⟩, h3⟩ := h
  rw [h3] at h2
  exact ⟨h3, by rcases h2 with h2 | h2
                · cases h2
                · omega⟩
set_option maxRecDepth 100000 in
set_option maxHeartbeats 8000000 in
theorem PulsesFewest_any (aT : Option Addr) (cT : Nat) (X : Pu) (w : World) (hX : Ints w aT X.ts) : Calls Try.prog 12 #[.agg #[.int .i64 X.l, .int .i64 X.n, .int .i64 X.pi, .int .i64 X.sl, .int .i64 X.ga, .int .i64 X.pa, .int .i64 X.sp, .slice aT X.ts.length cT]] w fun e w' => e = .returned (.bool true) ∧ Below w.heap.size w w' := by
  obtain ⟨W, hW, hb, _, x0⟩ := boxes1 w #[.int .i64 X.l, .int .i64 X.n, .int .i64 X.pi, .int .i64 X.sl, .int .i64 X.ga, .int .i64 X.pa, .int .i64 X.sp, .slice aT X.ts.length cT] 24
  replace hX := hX.below hb (Nat.le_refl _)
  have hrd := fun V h => ready_any aT cT X V h
  have hfe := fun V h => Fewest_any aT cT X V h
  have hma := fun V h => Many_any aT cT X V h
  have hcp := fun V h h1 => Copy_any aT cT X V h h1
  have hmq : ∀ aQ cQ V, Ints V aQ X.ts → ∀ k, Calls Try.prog 24 #[.agg #[.int .i64 X.l, .int .i64 X.n, .int .i64 X.pi, .int .i64 X.sl, .int .i64 X.ga, .int .i64 X.pa, .int .i64 k, .slice aQ X.ts.length cQ]] V (fun e w' => e = .returned (.tuple #[.int .i64 (manN (X.at k)), .int .i64 (erX (X.at k) true)]) ∧ Below V.heap.size V w') := fun aQ cQ V h k => Many_any aQ cQ (X.at k) V h
  have hwk := fun V => works_any V
  have HRD := hid (show rdyB X = true → _ from rdyB_ok)
  have HER := hid (show vB X = true → erX X true = _ from erX_few)
  have HFE := hid (show vB X = true → _ from fun h => fewE_cases h)
  have HMP := hid (show erX X true = 0 → 1 ≤ manN X from manN_pos)
  have HAT := hid (show vB X = true → ∀ k : Int, 0 ≤ k ∧ k ≤ 3 → erX (X.at k) true = if (fewX X : Int) ≤ k then 0 else 3 from fun h k hk => by rw [erX_few (vB_at h hk), fewX_at]; rfl)
  have HSP := hid (show vB X = true → 0 ≤ X.sp ∧ X.sp ≤ 3 from fun h => (vB_ok h).2.1)
  unfold CpP at hcp
  generalize rdyB X = rd at *
  generalize vB X = vb at *
  generalize fewE X = FE at *
  generalize fewN X = FN at *
  generalize fewX X = FX at *
  generalize erX X true = ER at *
  generalize manN X = MN at *
  generalize hnn : X.ts.length = n at *
  have HNN := hid hnn
  clear hnn
  generalize hts : X.ts = ts at *
  clear hts
  go_enter Try.func12, Try.ntmps12
  have c0 := x0.cell 0 rfl; have c1 := x0.cell 1 rfl; have c2 := x0.cell 2 rfl; have c3 := x0.cell 3 rfl; have c4 := x0.cell 4 rfl; have c5 := x0.cell 5 rfl; have c6 := x0.cell 6 rfl; have c7 := x0.cell 7 rfl
  go_wp2_with fail
  refine (hrd _ hX).mono ?_
  rintro e Vc1 ⟨rfl, hb1⟩
  clear c0 c1 c2 c3 c4 c5 c6 c7
  replace x0 := x0.below hb1
  replace hX := hX.below hb1 (Nat.le_refl _)
  replace hb := hb.trans (hb1.mono hb.size)
  clear hb1 hrd hW
  have c0 := x0.cell 0 rfl; have c1 := x0.cell 1 rfl; have c2 := x0.cell 2 rfl; have c3 := x0.cell 3 rfl; have c4 := x0.cell 4 rfl; have c5 := x0.cell 5 rfl; have c6 := x0.cell 6 rfl; have c7 := x0.cell 7 rfl
  cases rd with
  | false =>
    go_wp2_with fail
    refine (hwk _).mono ?_
    rintro e Vw ⟨rfl, hbw9⟩
    clear c0 c1 c2 c3 c4 c5 c6 c7
    replace hb := hb.trans (hbw9.mono hb.size)
    go_wp2
    go_ret
    exact ⟨rfl, hb⟩
  | true =>
    have HV := hid (HRD.out rfl).1
    have HL14 := hid (HRD.out rfl).2
    clear HRD
    go_wp2_with fail
    refine (hfe _ hX).mono ?_
    rintro e Vc3 ⟨rfl, hb1⟩
    clear c0 c1 c2 c3 c4 c5 c6 c7
    replace x0 := x0.below hb1
    replace hX := hX.below hb1 (Nat.le_refl _)
    replace hb := hb.trans (hb1.mono hb.size)
    clear hb1 hfe
    have c0 := x0.cell 0 rfl; have c1 := x0.cell 1 rfl; have c2 := x0.cell 2 rfl; have c3 := x0.cell 3 rfl; have c4 := x0.cell 4 rfl; have c5 := x0.cell 5 rfl; have c6 := x0.cell 6 rfl; have c7 := x0.cell 7 rfl
    go_wp2_with fail
    refine (hma _ hX).mono ?_
    rintro e Vc4 ⟨rfl, hb1⟩
    clear c0 c1 c2 c3 c4 c5 c6 c7
    replace x0 := x0.below hb1
    replace hX := hX.below hb1 (Nat.le_refl _)
    replace hb := hb.trans (hb1.mono hb.size)
    clear hb1 hma
    have c0 := x0.cell 0 rfl; have c1 := x0.cell 1 rfl; have c2 := x0.cell 2 rfl; have c3 := x0.cell 3 rfl; have c4 := x0.cell 4 rfl; have c5 := x0.cell 5 rfl; have c6 := x0.cell 6 rfl; have c7 := x0.cell 7 rfl
    have hkE := fun V => isKnown_any FE V
    have hkM := fun V => isKnown_any ER V
    obtain ⟨hE, hX3, hN⟩ | ⟨hE, hX3, hN⟩ := HFE.out HV.out
    · have hFN3 : ¬ (FN : Int) > 3 := by omega
      have hFN0 : ¬ (FN : Int) < 0 := by omega
      have HF3 := hid (And.intro hX3 hN)
      have hk0 : knB 0 = true := rfl
      have hk3 : knB 3 = true := rfl
      clear HFE hX3 hN
      subst hE
      rw [hk0] at hkE
      by_cases hsp : (FN : Int) ≤ X.sp
      · have her : ER = 0 := by rw [HER.out HV.out, if_pos (by have := HF3.out; omega)]
        have hmn := HMP.out her
        have hmI : ¬ (MN : Int) < 1 := by omega
        subst her
        rw [hk0] at hkM
        clear HER HMP hmn hk0 hk3
        go_wp2_with fail
        refine (hkE _).mono ?_
        rintro e Vc35 ⟨rfl, rfl⟩
        clear hkE
        go_wp2_with fail
        refine (hkM _).mono ?_
        rintro e Vc36 ⟨rfl, rfl⟩
        clear hkM
        go_wp2_with fail
        refine (hcp _ hX (by have := HL14.out; omega)).mono ?_
        rintro e Vq ⟨hb1, aQ, cQ, rfl, hQ⟩
        clear c0 c1 c2 c3 c4 c5 c6 c7
        replace x0 := x0.below hb1
        replace hX := hX.below hb1 (Nat.le_refl _)
        replace hb := hb.trans (hb1.mono hb.size)
        clear hb1 hcp
        replace hQ := hQ.i
        have HX0L2 := hid x0.lt
        have c0 := x0.cell 0 rfl; have c1 := x0.cell 1 rfl; have c2 := x0.cell 2 rfl; have c3 := x0.cell 3 rfl; have c4 := x0.cell 4 rfl; have c5 := x0.cell 5 rfl; have c6 := x0.cell 6 rfl; have c7 := x0.cell 7 rfl
        have H_hv := hid ((And.intro hX hQ))
        clear hX
        clear hQ
        have hba := below_one (w := Vq) (.cells #[.int .i64 X.l, .int .i64 X.n, .int .i64 X.pi, .int .i64 X.sl, .int .i64 X.ga, .int .i64 X.pa, .int .i64 X.sp, .slice aQ n cQ] 24)
        have HXa := hid (And.intro (x0.below hba) (And.intro (hb.trans (hba.mono hb.size)) (And.intro (Bx.new Vq #[.int .i64 X.l, .int .i64 X.n, .int .i64 X.pi, .int .i64 X.sl, .int .i64 X.ga, .int .i64 X.pa, .int .i64 X.sp, .slice aQ n cQ] 24) (And.intro hba hb.size))))
        clear hba hb x0
        go_upto_region 10 with fail
        clear c0 c1 c2 c3 c4 c5 c6 c7
        obtain ⟨x0, hb, x7, hv, hwz_x7⟩ := HXa.out
        clear HXa
        obtain ⟨sa_x7, hsa⟩ : ∃ q, q = Vq.heap.size := ⟨_, rfl⟩
        have HS_x7 := hid hsa
        rw [← hsa] at x7 hv hwz_x7 ⊢
        clear hsa
        generalize World.alloc _ _ = Va_x7 at *
        have HW_x7 := hid hwz_x7
        clear hwz_x7
        have c0 := x0.cell 0 rfl; have c1 := x0.cell 1 rfl; have c2 := x0.cell 2 rfl; have c3 := x0.cell 3 rfl; have c4 := x0.cell 4 rfl; have c5 := x0.cell 5 rfl; have c6 := x0.cell 6 rfl; have c7 := x0.cell 7 rfl
        have HX07 := hid (show w.heap.size < sa_x7 by rw [HS_x7.out]; exact HX0L2.out)
        have d0 := x7.cell 0 rfl; have d1 := x7.cell 1 rfl; have d2 := x7.cell 2 rfl; have d3 := x7.cell 3 rfl; have d4 := x7.cell 4 rfl; have d5 := x7.cell 5 rfl; have d6 := x7.cell 6 rfl; have d7 := x7.cell 7 rfl
        have HXs := hid (And.intro (x0.other (a := ⟨sa_x7, 6, none⟩) (by show _ ≠ sa_x7; exact Nat.ne_of_lt HX07.out) (.int .i64 (FN : Int))) (And.intro (show Bx _ sa_x7 #[.int .i64 X.l, .int .i64 X.n, .int .i64 X.pi, .int .i64 X.sl, .int .i64 X.ga, .int .i64 X.pa, .int .i64 (FN : Int), .slice aQ n cQ] 24 from x7.set 6 (.int .i64 (FN : Int))) (And.intro (hv.setCell (p := ⟨sa_x7, 6, none⟩) (Nat.le_refl _) (.int .i64 (FN : Int))) (hb.setCell (p := ⟨sa_x7, 6, none⟩) HW_x7.out (.int .i64 (FN : Int))))))
        have f0 := x7.free 0; have f1 := x7.free 1; have f2 := x7.free 2; have f3 := x7.free 3; have f4 := x7.free 4; have f5 := x7.free 5; have f6 := x7.free 6; have f7 := x7.free 7
        clear hb x0 x7 hv
        go_upto_region 11 with fail
        clear d0 d1 d2 d3 d4 d5 d6 d7
        clear c0 c1 c2 c3 c4 c5 c6 c7
        clear f0 f1 f2 f3 f4 f5 f6 f7
        obtain ⟨x0, x7, hv, hb⟩ := HXs.out
        clear HXs
        generalize World.setCell _ _ _ = Vs_39 at *
        have c0 := x0.cell 0 rfl; have c1 := x0.cell 1 rfl; have c2 := x0.cell 2 rfl; have c3 := x0.cell 3 rfl; have c4 := x0.cell 4 rfl; have c5 := x0.cell 5 rfl; have c6 := x0.cell 6 rfl; have c7 := x0.cell 7 rfl
        have d0 := x7.cell 0 rfl; have d1 := x7.cell 1 rfl; have d2 := x7.cell 2 rfl; have d3 := x7.cell 3 rfl; have d4 := x7.cell 4 rfl; have d5 := x7.cell 5 rfl; have d6 := x7.cell 6 rfl; have d7 := x7.cell 7 rfl
        have hm1 := hmq aQ cQ _ (H_hv.out.2.below hv (by rw [HS_x7.out]; exact Nat.le_refl _)) (FN : Int)
        rw [HAT.out HV.out (FN : Int) (by have := HF3.out; omega), if_pos (by have := HF3.out; omega)] at hm1
        generalize manN (X.at (FN : Int)) = MQ at hm1
        go_wp2_with fail
        refine (hm1).mono ?_
        rintro e Vc40 ⟨rfl, hb1⟩
        clear d0 d1 d2 d3 d4 d5 d6 d7
        clear c0 c1 c2 c3 c4 c5 c6 c7
        replace hv := hv.trans (hb1.mono (Nat.le_of_lt x7.lt))
        replace x0 := x0.below hb1
        replace x7 := x7.below hb1
        replace hb := hb.trans (hb1.mono hb.size)
        clear hb1 hm1
        have c0 := x0.cell 0 rfl; have c1 := x0.cell 1 rfl; have c2 := x0.cell 2 rfl; have c3 := x0.cell 3 rfl; have c4 := x0.cell 4 rfl; have c5 := x0.cell 5 rfl; have c6 := x0.cell 6 rfl; have c7 := x0.cell 7 rfl
        have d0 := x7.cell 0 rfl; have d1 := x7.cell 1 rfl; have d2 := x7.cell 2 rfl; have d3 := x7.cell 3 rfl; have d4 := x7.cell 4 rfl; have d5 := x7.cell 5 rfl; have d6 := x7.cell 6 rfl; have d7 := x7.cell 7 rfl
        by_cases hz : FN = 0
        · have hzI : (FN : Int) = 0 := by omega
          have hzB : ((FN : Int) == 0) = true := by simp [hz]
          clear hzI
          go_wp2_with fail
          refine (hwk _).mono ?_
          rintro e Vw ⟨rfl, hbw9⟩
          clear d0 d1 d2 d3 d4 d5 d6 d7
          clear c0 c1 c2 c3 c4 c5 c6 c7
          replace hb := hb.trans (hbw9.mono hb.size)
          go_wp2
          go_ret
          exact ⟨rfl, hb⟩
        · have hzB : ((FN : Int) == 0) = false := by rw [beq_eq_false_iff_ne]; omega
          obtain ⟨G, hG⟩ : ∃ G, G = FN - 1 := ⟨_, rfl⟩
          have ewg : IntKind.i64.wrap ((FN : Int) - 1) = (G : Int) := by rw [IntWalk.i64_in _ (by omega)]; omega
          have HG := hid (And.intro hG (show FN ≠ 0 from hz))
          clear hG hz
          have HXs := hid (And.intro (x0.other (a := ⟨sa_x7, 6, none⟩) (by show _ ≠ sa_x7; exact Nat.ne_of_lt HX07.out) (.int .i64 (G : Int))) (And.intro (show Bx _ sa_x7 #[.int .i64 X.l, .int .i64 X.n, .int .i64 X.pi, .int .i64 X.sl, .int .i64 X.ga, .int .i64 X.pa, .int .i64 (G : Int), .slice aQ n cQ] 24 from x7.set 6 (.int .i64 (G : Int))) (And.intro (hv.setCell (p := ⟨sa_x7, 6, none⟩) (Nat.le_refl _) (.int .i64 (G : Int))) (hb.setCell (p := ⟨sa_x7, 6, none⟩) HW_x7.out (.int .i64 (G : Int))))))
          have f0 := x7.free 0; have f1 := x7.free 1; have f2 := x7.free 2; have f3 := x7.free 3; have f4 := x7.free 4; have f5 := x7.free 5; have f6 := x7.free 6; have f7 := x7.free 7
          clear hb x0 x7 hv
          go_upto_region 17 with fail
          clear d0 d1 d2 d3 d4 d5 d6 d7
          clear c0 c1 c2 c3 c4 c5 c6 c7
          clear f0 f1 f2 f3 f4 f5 f6 f7
          obtain ⟨x0, x7, hv, hb⟩ := HXs.out
          clear HXs
          generalize World.setCell _ _ _ = Vs_42 at *
          have d0 := x7.cell 0 rfl; have d1 := x7.cell 1 rfl; have d2 := x7.cell 2 rfl; have d3 := x7.cell 3 rfl; have d4 := x7.cell 4 rfl; have d5 := x7.cell 5 rfl; have d6 := x7.cell 6 rfl; have d7 := x7.cell 7 rfl
          have c0 := x0.cell 0 rfl; have c1 := x0.cell 1 rfl; have c2 := x0.cell 2 rfl; have c3 := x0.cell 3 rfl; have c4 := x0.cell 4 rfl; have c5 := x0.cell 5 rfl; have c6 := x0.cell 6 rfl; have c7 := x0.cell 7 rfl
          have hm1 := hmq aQ cQ _ (H_hv.out.2.below hv (by rw [HS_x7.out]; exact Nat.le_refl _)) (G : Int)
          rw [HAT.out HV.out (G : Int) (by have h1 := HF3.out; have h2 := HG.out; omega), if_neg (by have h1 := HF3.out; have h2 := HG.out; omega)] at hm1
          generalize manN (X.at (G : Int)) = MQ2 at hm1
          go_wp2_with fail
          refine (hm1).mono ?_
          rintro e Vc43 ⟨rfl, hb1⟩
          clear d0 d1 d2 d3 d4 d5 d6 d7
          clear c0 c1 c2 c3 c4 c5 c6 c7
          replace hv := hv.trans (hb1.mono (Nat.le_of_lt x7.lt))
          replace x0 := x0.below hb1
          replace x7 := x7.below hb1
          replace hb := hb.trans (hb1.mono hb.size)
          clear hb1 hm1
          have c0 := x0.cell 0 rfl; have c1 := x0.cell 1 rfl; have c2 := x0.cell 2 rfl; have c3 := x0.cell 3 rfl; have c4 := x0.cell 4 rfl; have c5 := x0.cell 5 rfl; have c6 := x0.cell 6 rfl; have c7 := x0.cell 7 rfl
          have d0 := x7.cell 0 rfl; have d1 := x7.cell 1 rfl; have d2 := x7.cell 2 rfl; have d3 := x7.cell 3 rfl; have d4 := x7.cell 4 rfl; have d5 := x7.cell 5 rfl; have d6 := x7.cell 6 rfl; have d7 := x7.cell 7 rfl
          go_wp2_with fail
          refine (hwk _).mono ?_
          rintro e Vw ⟨rfl, hbw9⟩
          clear d0 d1 d2 d3 d4 d5 d6 d7
          clear c0 c1 c2 c3 c4 c5 c6 c7
          replace hb := hb.trans (hbw9.mono hb.size)
          go_wp2
          go_ret
          exact ⟨rfl, hb⟩
      · have her : ER = 3 := by rw [HER.out HV.out, if_neg (by have := HF3.out; omega)]
        subst her
        rw [hk3] at hkM
        clear HER HMP hk0 hk3
        go_wp2_with fail
        refine (hkE _).mono ?_
        rintro e Vc91 ⟨rfl, rfl⟩
        clear hkE
        go_wp2_with fail
        refine (hkM _).mono ?_
        rintro e Vc92 ⟨rfl, rfl⟩
        clear hkM
        go_wp2_with fail
        refine (hcp _ hX (by have := HL14.out; omega)).mono ?_
        rintro e Vq ⟨hb1, aQ, cQ, rfl, hQ⟩
        clear c0 c1 c2 c3 c4 c5 c6 c7
        replace x0 := x0.below hb1
        replace hX := hX.below hb1 (Nat.le_refl _)
        replace hb := hb.trans (hb1.mono hb.size)
        clear hb1 hcp
        replace hQ := hQ.i
        have HX0L2 := hid x0.lt
        have c0 := x0.cell 0 rfl; have c1 := x0.cell 1 rfl; have c2 := x0.cell 2 rfl; have c3 := x0.cell 3 rfl; have c4 := x0.cell 4 rfl; have c5 := x0.cell 5 rfl; have c6 := x0.cell 6 rfl; have c7 := x0.cell 7 rfl
        have H_hv := hid ((And.intro hX hQ))
        clear hX
        clear hQ
        have hba := below_one (w := Vq) (.cells #[.int .i64 X.l, .int .i64 X.n, .int .i64 X.pi, .int .i64 X.sl, .int .i64 X.ga, .int .i64 X.pa, .int .i64 X.sp, .slice aQ n cQ] 24)
        have HXa := hid (And.intro (x0.below hba) (And.intro (hb.trans (hba.mono hb.size)) (And.intro (Bx.new Vq #[.int .i64 X.l, .int .i64 X.n, .int .i64 X.pi, .int .i64 X.sl, .int .i64 X.ga, .int .i64 X.pa, .int .i64 X.sp, .slice aQ n cQ] 24) (And.intro hba hb.size))))
        clear hba hb x0
        go_upto_region 10 with fail
        clear c0 c1 c2 c3 c4 c5 c6 c7
        obtain ⟨x0, hb, x7, hv, hwz_x7⟩ := HXa.out
        clear HXa
        obtain ⟨sa_x7, hsa⟩ : ∃ q, q = Vq.heap.size := ⟨_, rfl⟩
        have HS_x7 := hid hsa
        rw [← hsa] at x7 hv hwz_x7 ⊢
        clear hsa
        generalize World.alloc _ _ = Va_x7 at *
        have HW_x7 := hid hwz_x7
        clear hwz_x7
        have c0 := x0.cell 0 rfl; have c1 := x0.cell 1 rfl; have c2 := x0.cell 2 rfl; have c3 := x0.cell 3 rfl; have c4 := x0.cell 4 rfl; have c5 := x0.cell 5 rfl; have c6 := x0.cell 6 rfl; have c7 := x0.cell 7 rfl
        have HX07 := hid (show w.heap.size < sa_x7 by rw [HS_x7.out]; exact HX0L2.out)
        have d0 := x7.cell 0 rfl; have d1 := x7.cell 1 rfl; have d2 := x7.cell 2 rfl; have d3 := x7.cell 3 rfl; have d4 := x7.cell 4 rfl; have d5 := x7.cell 5 rfl; have d6 := x7.cell 6 rfl; have d7 := x7.cell 7 rfl
        have HXs := hid (And.intro (x0.other (a := ⟨sa_x7, 6, none⟩) (by show _ ≠ sa_x7; exact Nat.ne_of_lt HX07.out) (.int .i64 (FN : Int))) (And.intro (show Bx _ sa_x7 #[.int .i64 X.l, .int .i64 X.n, .int .i64 X.pi, .int .i64 X.sl, .int .i64 X.ga, .int .i64 X.pa, .int .i64 (FN : Int), .slice aQ n cQ] 24 from x7.set 6 (.int .i64 (FN : Int))) (And.intro (hv.setCell (p := ⟨sa_x7, 6, none⟩) (Nat.le_refl _) (.int .i64 (FN : Int))) (hb.setCell (p := ⟨sa_x7, 6, none⟩) HW_x7.out (.int .i64 (FN : Int))))))
        have f0 := x7.free 0; have f1 := x7.free 1; have f2 := x7.free 2; have f3 := x7.free 3; have f4 := x7.free 4; have f5 := x7.free 5; have f6 := x7.free 6; have f7 := x7.free 7
        clear hb x0 x7 hv
        go_upto_region 11 with fail
        clear d0 d1 d2 d3 d4 d5 d6 d7
        clear c0 c1 c2 c3 c4 c5 c6 c7
        clear f0 f1 f2 f3 f4 f5 f6 f7
        obtain ⟨x0, x7, hv, hb⟩ := HXs.out
        clear HXs
        generalize World.setCell _ _ _ = Vs_95 at *
        have c0 := x0.cell 0 rfl; have c1 := x0.cell 1 rfl; have c2 := x0.cell 2 rfl; have c3 := x0.cell 3 rfl; have c4 := x0.cell 4 rfl; have c5 := x0.cell 5 rfl; have c6 := x0.cell 6 rfl; have c7 := x0.cell 7 rfl
        have d0 := x7.cell 0 rfl; have d1 := x7.cell 1 rfl; have d2 := x7.cell 2 rfl; have d3 := x7.cell 3 rfl; have d4 := x7.cell 4 rfl; have d5 := x7.cell 5 rfl; have d6 := x7.cell 6 rfl; have d7 := x7.cell 7 rfl
        have hm1 := hmq aQ cQ _ (H_hv.out.2.below hv (by rw [HS_x7.out]; exact Nat.le_refl _)) (FN : Int)
        rw [HAT.out HV.out (FN : Int) (by have := HF3.out; omega), if_pos (by have := HF3.out; omega)] at hm1
        generalize manN (X.at (FN : Int)) = MQ at hm1
        go_wp2_with fail
        refine (hm1).mono ?_
        rintro e Vc96 ⟨rfl, hb1⟩
        clear d0 d1 d2 d3 d4 d5 d6 d7
        clear c0 c1 c2 c3 c4 c5 c6 c7
        replace hv := hv.trans (hb1.mono (Nat.le_of_lt x7.lt))
        replace x0 := x0.below hb1
        replace x7 := x7.below hb1
        replace hb := hb.trans (hb1.mono hb.size)
        clear hb1 hm1
        have c0 := x0.cell 0 rfl; have c1 := x0.cell 1 rfl; have c2 := x0.cell 2 rfl; have c3 := x0.cell 3 rfl; have c4 := x0.cell 4 rfl; have c5 := x0.cell 5 rfl; have c6 := x0.cell 6 rfl; have c7 := x0.cell 7 rfl
        have d0 := x7.cell 0 rfl; have d1 := x7.cell 1 rfl; have d2 := x7.cell 2 rfl; have d3 := x7.cell 3 rfl; have d4 := x7.cell 4 rfl; have d5 := x7.cell 5 rfl; have d6 := x7.cell 6 rfl; have d7 := x7.cell 7 rfl
        by_cases hz : FN = 0
        · have hzI : (FN : Int) = 0 := by omega
          have hzB : ((FN : Int) == 0) = true := by simp [hz]
          clear hzI
          go_wp2_with fail
          refine (hwk _).mono ?_
          rintro e Vw ⟨rfl, hbw9⟩
          clear d0 d1 d2 d3 d4 d5 d6 d7
          clear c0 c1 c2 c3 c4 c5 c6 c7
          replace hb := hb.trans (hbw9.mono hb.size)
          go_wp2
          go_ret
          exact ⟨rfl, hb⟩
        · have hzB : ((FN : Int) == 0) = false := by rw [beq_eq_false_iff_ne]; omega
          obtain ⟨G, hG⟩ : ∃ G, G = FN - 1 := ⟨_, rfl⟩
          have ewg : IntKind.i64.wrap ((FN : Int) - 1) = (G : Int) := by rw [IntWalk.i64_in _ (by omega)]; omega
          have HG := hid (And.intro hG (show FN ≠ 0 from hz))
          clear hG hz
          have HXs := hid (And.intro (x0.other (a := ⟨sa_x7, 6, none⟩) (by show _ ≠ sa_x7; exact Nat.ne_of_lt HX07.out) (.int .i64 (G : Int))) (And.intro (show Bx _ sa_x7 #[.int .i64 X.l, .int .i64 X.n, .int .i64 X.pi, .int .i64 X.sl, .int .i64 X.ga, .int .i64 X.pa, .int .i64 (G : Int), .slice aQ n cQ] 24 from x7.set 6 (.int .i64 (G : Int))) (And.intro (hv.setCell (p := ⟨sa_x7, 6, none⟩) (Nat.le_refl _) (.int .i64 (G : Int))) (hb.setCell (p := ⟨sa_x7, 6, none⟩) HW_x7.out (.int .i64 (G : Int))))))
          have f0 := x7.free 0; have f1 := x7.free 1; have f2 := x7.free 2; have f3 := x7.free 3; have f4 := x7.free 4; have f5 := x7.free 5; have f6 := x7.free 6; have f7 := x7.free 7
          clear hb x0 x7 hv
          go_upto_region 17 with fail
          clear d0 d1 d2 d3 d4 d5 d6 d7
          clear c0 c1 c2 c3 c4 c5 c6 c7
          clear f0 f1 f2 f3 f4 f5 f6 f7
          obtain ⟨x0, x7, hv, hb⟩ := HXs.out
          clear HXs
          generalize World.setCell _ _ _ = Vs_98 at *
          have d0 := x7.cell 0 rfl; have d1 := x7.cell 1 rfl; have d2 := x7.cell 2 rfl; have d3 := x7.cell 3 rfl; have d4 := x7.cell 4 rfl; have d5 := x7.cell 5 rfl; have d6 := x7.cell 6 rfl; have d7 := x7.cell 7 rfl
          have c0 := x0.cell 0 rfl; have c1 := x0.cell 1 rfl; have c2 := x0.cell 2 rfl; have c3 := x0.cell 3 rfl; have c4 := x0.cell 4 rfl; have c5 := x0.cell 5 rfl; have c6 := x0.cell 6 rfl; have c7 := x0.cell 7 rfl
          have hm1 := hmq aQ cQ _ (H_hv.out.2.below hv (by rw [HS_x7.out]; exact Nat.le_refl _)) (G : Int)
          rw [HAT.out HV.out (G : Int) (by have h1 := HF3.out; have h2 := HG.out; omega), if_neg (by have h1 := HF3.out; have h2 := HG.out; omega)] at hm1
          generalize manN (X.at (G : Int)) = MQ2 at hm1
          go_wp2_with fail
          refine (hm1).mono ?_
          rintro e Vc99 ⟨rfl, hb1⟩
          clear d0 d1 d2 d3 d4 d5 d6 d7
          clear c0 c1 c2 c3 c4 c5 c6 c7
          replace hv := hv.trans (hb1.mono (Nat.le_of_lt x7.lt))
          replace x0 := x0.below hb1
          replace x7 := x7.below hb1
          replace hb := hb.trans (hb1.mono hb.size)
          clear hb1 hm1
          have c0 := x0.cell 0 rfl; have c1 := x0.cell 1 rfl; have c2 := x0.cell 2 rfl; have c3 := x0.cell 3 rfl; have c4 := x0.cell 4 rfl; have c5 := x0.cell 5 rfl; have c6 := x0.cell 6 rfl; have c7 := x0.cell 7 rfl
          have d0 := x7.cell 0 rfl; have d1 := x7.cell 1 rfl; have d2 := x7.cell 2 rfl; have d3 := x7.cell 3 rfl; have d4 := x7.cell 4 rfl; have d5 := x7.cell 5 rfl; have d6 := x7.cell 6 rfl; have d7 := x7.cell 7 rfl
          go_wp2_with fail
          refine (hwk _).mono ?_
          rintro e Vw ⟨rfl, hbw9⟩
          clear d0 d1 d2 d3 d4 d5 d6 d7
          clear c0 c1 c2 c3 c4 c5 c6 c7
          replace hb := hb.trans (hbw9.mono hb.size)
          go_wp2
          go_ret
          exact ⟨rfl, hb⟩
    · have her : ER = 3 := by rw [HER.out HV.out, if_neg (by have h1 := HSP.out HV.out; omega)]
      subst hE her hN
      clear HFE HMP HAT hX3
      have hk3 : knB 3 = true := rfl
      rw [hk3] at hkE hkM
      go_wp2_with fail
      refine (hkE _).mono ?_
      rintro e Vc15 ⟨rfl, rfl⟩
      clear hkE
      go_wp2_with fail
      refine (hkM _).mono ?_
      rintro e Vc16 ⟨rfl, rfl⟩
      clear hkM
      go_wp2_with fail
      refine (hwk _).mono ?_
      rintro e Vw ⟨rfl, hbw9⟩
      clear c0 c1 c2 c3 c4 c5 c6 c7
      replace hb := hb.trans (hbw9.mono hb.size)
      go_wp2
      go_ret
      exact ⟨rfl, hb⟩
end Go.Proofs.Yteianfbdhakhpaa
