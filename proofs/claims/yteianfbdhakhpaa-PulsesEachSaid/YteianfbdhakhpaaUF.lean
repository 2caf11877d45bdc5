import Derived.Test.YteianfbdhakhpaaV3
import Derived.Test.YteianfbdhakhpaaTT
import Derived.Test.YteianfbdhakhpaaUA
/-! The law of each reading. -/
namespace Go.Proofs.Yteianfbdhakhpaa
set_option linter.unusedSimpArgs false
set_option linter.unusedVariables false
open Go Go.RowKit

set_option maxRecDepth 100000 in
set_option maxHeartbeats 6000000 in
theorem PulsesEach_any (aT : Option Addr) (cT : Nat) (X : Pu) (aP : Option Addr) (cP : Nat) (sp : List Int) (s : Int) (w : World) (hX : Ints w aT X.ts) (hP : Ints w aP sp) : Calls Try.prog 7 #[.agg #[.int .i64 X.l, .int .i64 X.n, .int .i64 X.pi, .int .i64 X.sl, .int .i64 X.ga, .int .i64 X.pa, .int .i64 X.sp, .slice aT X.ts.length cT], .slice aP sp.length cP, .int .i64 s] w fun e w' => e = .returned (.bool true) ∧ Below w.heap.size w w' := by
  obtain ⟨W, hW, hb, _, x0⟩ := boxes1 w #[.int .i64 X.l, .int .i64 X.n, .int .i64 X.pi, .int .i64 X.sl, .int .i64 X.ga, .int .i64 X.pa, .int .i64 X.sp, .slice aT X.ts.length cT] 24
  replace hX := hX.below hb (Nat.le_refl _)
  replace hP := hP.below hb (Nat.le_refl _)
  have hrd := fun V h => ready_any aT cT X V h
  have hrg := fun hv V h1 h2 => IsReading_any aT cT X hv aP cP sp V h1 h2
  have hse := fun V => rIsSelection_any aT cT X s V
  have hcp := fun V h h1 => Copy_any aT cT X V h h1
  have hle := fun V h1 h2 h3 => Less_any aT aP cT cP X.ts sp V h1 h2 h3
  have hreY : ∀ aQ cQ V, Ints V aQ (woL X.ts sp) → Calls Try.prog 28 #[.agg #[.int .i64 X.l, .int .i64 X.n, .int .i64 X.pi, .int .i64 X.sl, .int .i64 X.ga, .int .i64 X.pa, .int .i64 0, .slice aQ (woL X.ts sp).length cQ]] V _ := fun aQ cQ V h => Read_any aQ cQ (X.les sp) V h
  have hclY := fun hv h24 a' c' V h => Clean_any aT cT X (vB_ok hv).1 a' c' (woL X.ts sp) V h (Nat.le_trans (woA_len _ _ _) h24) (fun x hx => (timesB_rng (vB_ok hv).2.2).2 x (woA_mem _ _ _ x hx))
  have hak := fun V h => Asked_any aT cT X s V h
  have hrl := fun V h => Real_any aT cT X V h
  have hsk := fun V h => Sparks_any aT cT X V h
  have hfe := fun V h => Fewest_any aT cT X V h
  have hwk := fun V => works_any V
  have HRD := hid (show rdyB X = true → _ from rdyB_ok)
  have HLN := hid (show rdgB X sp = true → ∃ L, lof X (woL X.ts sp) = some L from fun h => by
    unfold rdgB at h
    rw [Bool.and_eq_true] at h
    exact Option.isSome_iff_exists.1 h.2)
  have HLW := hid (show ∀ L, vB X = true → rdgB X sp = true → lof X (woL X.ts sp) = some L → selB X s = true → _ from fun L h1 h2 h3 h4 => each_law h1 h2 h3 h4)
  unfold CpP at hcp
  unfold ReP at hreY hrl hsk
  unfold LoP at hclY
  generalize rdyB X = rd at *
  generalize rdgB X sp = rg at *
  generalize selB X s = sb at *
  generalize hnn : X.ts.length = n at *
  have HNN := hid hnn.symm
  clear hnn
  generalize hmm : sp.length = m at *
  have HMM := hid hmm.symm
  clear hmm
  have hm63 := hP.len
  rw [← HMM.out] at hm63
  go_enter Try.func7, Try.ntmps7
  have c0 := x0.cell 0 rfl; have c1 := x0.cell 1 rfl; have c2 := x0.cell 2 rfl; have c3 := x0.cell 3 rfl; have c4 := x0.cell 4 rfl; have c5 := x0.cell 5 rfl; have c6 := x0.cell 6 rfl; have c7 := x0.cell 7 rfl
  go_wp2_with fail
  refine (hrd _ hX).mono ?_
  rintro e Vc1 ⟨rfl, hb1⟩
  clear c0 c1 c2 c3 c4 c5 c6 c7
  replace x0 := x0.below hb1
  replace hX := hX.below hb1 (Nat.le_refl _)
  replace hP := hP.below hb1 (Nat.le_refl _)
  replace hb := hb.trans (hb1.mono hb.size)
  clear hb1 hrd hW
  have c0 := x0.cell 0 rfl; have c1 := x0.cell 1 rfl; have c2 := x0.cell 2 rfl; have c3 := x0.cell 3 rfl; have c4 := x0.cell 4 rfl; have c5 := x0.cell 5 rfl; have c6 := x0.cell 6 rfl; have c7 := x0.cell 7 rfl
  cases rd with
  | false =>
    go_wp2_with fail
    refine (hwk _).mono ?_
    rintro e Vw ⟨rfl, hbw9⟩
    clear c0 c1 c2 c3 c4 c5 c6 c7
    replace hb := hb.trans (hbw9.mono hb.size)
    go_wp2
    go_ret
    exact ⟨rfl, hb⟩
  | true =>
    have HV := hid (HRD.out (by trivial)).1
    have HL14 := hid (HRD.out (by trivial)).2
    clear HRD
    by_cases hm40 : (m : Int) > 40
    · skip
      go_wp2_with fail
      refine (hwk _).mono ?_
      rintro e Vw ⟨rfl, hbw9⟩
      clear c0 c1 c2 c3 c4 c5 c6 c7
      replace hb := hb.trans (hbw9.mono hb.size)
      go_wp2
      go_ret
      exact ⟨rfl, hb⟩
    have bm40 : decide ((40 : Int) < (m : Int)) = false := decide_eq_false (by omega)
    have hrg1 := hrg HV.out
    clear hrg
    go_wp2_with fail
    refine (hrg1 _ hX hP).mono ?_
    rintro e Vc4 ⟨rfl, hb1⟩
    clear c0 c1 c2 c3 c4 c5 c6 c7
    replace x0 := x0.below hb1
    replace hX := hX.below hb1 (Nat.le_refl _)
    replace hP := hP.below hb1 (Nat.le_refl _)
    replace hb := hb.trans (hb1.mono hb.size)
    clear hb1 hrg1
    have c0 := x0.cell 0 rfl; have c1 := x0.cell 1 rfl; have c2 := x0.cell 2 rfl; have c3 := x0.cell 3 rfl; have c4 := x0.cell 4 rfl; have c5 := x0.cell 5 rfl; have c6 := x0.cell 6 rfl; have c7 := x0.cell 7 rfl
    cases rg with
    | false =>
      go_wp2_with fail
      refine (hwk _).mono ?_
      rintro e Vw ⟨rfl, hbw9⟩
      clear c0 c1 c2 c3 c4 c5 c6 c7
      replace hb := hb.trans (hbw9.mono hb.size)
      go_wp2
      go_ret
      exact ⟨rfl, hb⟩
    | true =>
      obtain ⟨L, hL⟩ := HLN.out (by trivial)
      have HL := hid hL
      clear HLN hL
      go_wp2_with fail
      refine (hse _).mono ?_
      rintro e Vc6 ⟨rfl, hb1⟩
      clear c0 c1 c2 c3 c4 c5 c6 c7
      replace x0 := x0.below hb1
      replace hX := hX.below hb1 (Nat.le_refl _)
      replace hP := hP.below hb1 (Nat.le_refl _)
      replace hb := hb.trans (hb1.mono hb.size)
      clear hb1 hse
      have c0 := x0.cell 0 rfl; have c1 := x0.cell 1 rfl; have c2 := x0.cell 2 rfl; have c3 := x0.cell 3 rfl; have c4 := x0.cell 4 rfl; have c5 := x0.cell 5 rfl; have c6 := x0.cell 6 rfl; have c7 := x0.cell 7 rfl
      cases sb with
      | false =>
        go_wp2_with fail
        refine (hwk _).mono ?_
        rintro e Vw ⟨rfl, hbw9⟩
        clear c0 c1 c2 c3 c4 c5 c6 c7
        replace hb := hb.trans (hbw9.mono hb.size)
        go_wp2
        go_ret
        exact ⟨rfl, hb⟩
      | true =>
        have law := HLW.out L HV.out (by trivial) HL.out (by trivial)
        have l1 := law.re
        have l2 := law.li
        have l3 := law.ak
        have l4 := law.lo
        have l5 := law.hi
        have l6 := law.er
        have l7 := law.rl
        have l8 := law.rn
        have l9 := law.on
        have l10 := law.od
        have l11 := law.fe
        have l12 := law.fn
        rw [← HMM.out] at l12
        have hcl1 := hclY HV.out (by have := HL14.out; omega)
        have hle1 := fun V h1 h2 => hle V h1 h2 (by have := HL14.out; omega)
        clear law HLW hclY hle
        rw [l1, l2] at hreY
        rw [l6] at hrl hsk
        rw [l3] at hak
        rw [l11] at hfe
        rw [HL.out] at hcl1
        clear l1 l2 l3 l6 l11
        have HO := hid l10
        have HR7 := hid l7
        clear l10 l7
        have hin := fun a c x V h => In_any a c (soX reB X) x V h
        have hco := fun a c V h => Count_any a c L s V h
        rw [show (fun x => x == s) = eqB s from rfl] at hco
        have hwi := fun V => Within_any (askLo X s) (cntF (eqB s) L) (askHi X s) V
        rw [show fromI (askLo X s : Int) (cntF (eqB s) L : Int) (askHi X s : Int) = true by simp [fromI]; omega] at hwi
        have hisi := fun a ca b cb V h1 h2 => isIn_any a b ca cb (soX spB X) sp l9 (by rw [← HMM.out]; omega) V h1 h2
        rw [HO.out, ← HMM.out] at hisi
        have hsame := fun a ca b cb V h1 h2 => SameInts_any a b ca cb L L V h1 h2
        rw [decide_eq_true (rfl : L = L)] at hsame
        generalize soX reB X = RL at *
        generalize soX spB X = SK at *
        generalize askLo X s = alo at *
        generalize askHi X s = ahi at *
        generalize cntF (eqB s) L = cnL at *
        generalize fewN X = FN at *
        generalize hO9 : woL X.ts sp = TS at *
        generalize TS.length = n7 at *
        generalize hl9 : L.length = nL at *
        generalize SK.length = nK at *
        generalize RL.length = nR at *
        have HL9 := hid hl9
        clear hO9 hl9
        go_wp2_with fail
        refine (hcp _ hX (by have := HL14.out; omega)).mono ?_
        rintro e Vq ⟨hb1, aQ, cQ, rfl, hQ⟩
        clear hQ
        clear c0 c1 c2 c3 c4 c5 c6 c7
        replace x0 := x0.below hb1
        replace hX := hX.below hb1 (Nat.le_refl _)
        replace hP := hP.below hb1 (Nat.le_refl _)
        replace hb := hb.trans (hb1.mono hb.size)
        clear hb1 hcp
        have HX0L2 := hid x0.lt
        have HX0q := hid x0
        have c0 := x0.cell 0 rfl; have c1 := x0.cell 1 rfl; have c2 := x0.cell 2 rfl; have c3 := x0.cell 3 rfl; have c4 := x0.cell 4 rfl; have c5 := x0.cell 5 rfl; have c6 := x0.cell 6 rfl; have c7 := x0.cell 7 rfl
        have H_hv := hid ((And.intro hX hP))
        clear hX
        clear hP
        have hba := below_one (w := Vq) (.cells #[.int .i64 X.l, .int .i64 X.n, .int .i64 X.pi, .int .i64 X.sl, .int .i64 X.ga, .int .i64 X.pa, .int .i64 X.sp, .slice aQ n cQ] 24)
        have HXa := hid (And.intro (x0.below hba) (And.intro (hb.trans (hba.mono hb.size)) (And.intro (Bx.new Vq #[.int .i64 X.l, .int .i64 X.n, .int .i64 X.pi, .int .i64 X.sl, .int .i64 X.ga, .int .i64 X.pa, .int .i64 X.sp, .slice aQ n cQ] 24) (And.intro hba hb.size))))
        clear hba hb x0
        go_upto_region 4 with fail
        clear c0 c1 c2 c3 c4 c5 c6 c7
        obtain ⟨x0, hb, x7, hv, hwz_x7⟩ := HXa.out
        clear HXa
        obtain ⟨sa_x7, hsa⟩ : ∃ q, q = Vq.heap.size := ⟨_, rfl⟩
        have HS_x7 := hid hsa
        rw [← hsa] at x7 hv hwz_x7 ⊢
        clear hsa
        generalize World.alloc _ _ = Va_x7 at *
        have HW_x7 := hid hwz_x7
        clear hwz_x7
        have c0 := x0.cell 0 rfl; have c1 := x0.cell 1 rfl; have c2 := x0.cell 2 rfl; have c3 := x0.cell 3 rfl; have c4 := x0.cell 4 rfl; have c5 := x0.cell 5 rfl; have c6 := x0.cell 6 rfl; have c7 := x0.cell 7 rfl
        have HX07 := hid (show w.heap.size < sa_x7 by rw [HS_x7.out]; exact HX0L2.out)
        go_wp2_with fail
        refine (hle1 _ (H_hv.out.1.below hv (by rw [HS_x7.out]; exact Nat.le_refl _)) (H_hv.out.2.below hv (by rw [HS_x7.out]; exact Nat.le_refl _))).mono ?_
        rintro e V4 ⟨hb1, a7, k7, rfl, z7⟩
        clear hle1
        clear c0 c1 c2 c3 c4 c5 c6 c7
        have hlt7 := x7.lt
        replace x7 := x7.below hb1
        replace x0 := x0.below hb1
        replace hv := hv.trans (hb1.mono (Nat.le_of_lt hlt7))
        replace hb := hb.trans (hb1.mono hb.size)
        clear hb1
        have e6 := x7.cell 6 rfl
        have f6 := x7.free 6
        have e7 := x7.cell 7 rfl
        have f7 := x7.free 7
        have y7 : Bx _ sa_x7 #[.int .i64 X.l, .int .i64 X.n, .int .i64 X.pi, .int .i64 X.sl, .int .i64 X.ga, .int .i64 X.pa, .int .i64 0, .slice a7 n7 k7] 24 := (x7.set 6 (.int .i64 0)).set 7 (.slice a7 n7 k7)
        have yv := (hv.setCell (p := ⟨sa_x7, 6, none⟩) (Nat.le_refl _) (.int .i64 0)).setCell (p := ⟨sa_x7, 7, none⟩) (Nat.le_refl _) (.slice a7 n7 k7)
        have yb := (hb.setCell (p := ⟨sa_x7, 6, none⟩) HW_x7.out (.int .i64 0)).setCell (p := ⟨sa_x7, 7, none⟩) HW_x7.out (.slice a7 n7 k7)
        have yo := (z7.set ⟨sa_x7, 6, none⟩ (.int .i64 0) hlt7).set ⟨sa_x7, 7, none⟩ (.slice a7 n7 k7) hlt7
        have HY := hid (And.intro y7 (And.intro yv (And.intro yb yo)))
        clear x0 hv hb z7 y7 yv yb yo
        have x7o := x7
        clear x7
        go_upto_region 5 with fail
        clear e6 f6 e7 f7 x7o
        obtain ⟨x7, hv, hb, yo⟩ := HY.out
        clear HY
        generalize World.setCell _ _ _ = V0 at *
        have hX := (H_hv.out.1.below hv (by rw [HS_x7.out]; exact Nat.le_refl _))
        have hP := (H_hv.out.2.below hv (by rw [HS_x7.out]; exact Nat.le_refl _))
        have hQ := yo.i
        have x0 := HX0q.out.below (by rw [← HS_x7.out]; exact hv)
        clear hv yo
        have d0 := x7.cell 0 rfl; have d1 := x7.cell 1 rfl; have d2 := x7.cell 2 rfl; have d3 := x7.cell 3 rfl; have d4 := x7.cell 4 rfl; have d5 := x7.cell 5 rfl; have d6 := x7.cell 6 rfl; have d7 := x7.cell 7 rfl
        go_wp2_with fail
        refine (hreY a7 k7 _ hQ).mono ?_
        rintro e Vc10 ⟨hb1, a1, k1, rfl, z1⟩
        clear d0 d1 d2 d3 d4 d5 d6 d7
        replace x0 := x0.below hb1
        replace x7 := x7.below hb1
        replace hX := hX.below hb1 (Nat.le_refl _)
        replace hP := hP.below hb1 (Nat.le_refl _)
        replace hQ := hQ.below hb1 (Nat.le_refl _)
        replace hb := hb.trans (hb1.mono hb.size)
        clear hb1 hreY
        have d0 := x7.cell 0 rfl; have d1 := x7.cell 1 rfl; have d2 := x7.cell 2 rfl; have d3 := x7.cell 3 rfl; have d4 := x7.cell 4 rfl; have d5 := x7.cell 5 rfl; have d6 := x7.cell 6 rfl; have d7 := x7.cell 7 rfl
        have c0 := x0.cell 0 rfl; have c1 := x0.cell 1 rfl; have c2 := x0.cell 2 rfl; have c3 := x0.cell 3 rfl; have c4 := x0.cell 4 rfl; have c5 := x0.cell 5 rfl; have c6 := x0.cell 6 rfl; have c7 := x0.cell 7 rfl
        go_wp2_with fail
        refine (hcl1 a7 k7 _ hQ).mono ?_
        rintro e Vc11 ⟨hb1, hh⟩
        clear c0 c1 c2 c3 c4 c5 c6 c7
        clear d0 d1 d2 d3 d4 d5 d6 d7
        replace x0 := x0.below hb1
        replace x7 := x7.below hb1
        replace hX := hX.below hb1 (Nat.le_refl _)
        replace hP := hP.below hb1 (Nat.le_refl _)
        replace hQ := hQ.below hb1 (Nat.le_refl _)
        replace z1 := z1.below hb1
        replace hb := hb.trans (hb1.mono hb.size)
        clear hb1 hcl1
        rcases hh with ⟨hh, _⟩ | ⟨L9, a2, k2, hh, rfl, z2⟩
        · cases hh
        obtain rfl := Option.some.inj hh
        rw [HL9.out]
        clear hh
        clear x7
        have c0 := x0.cell 0 rfl; have c1 := x0.cell 1 rfl; have c2 := x0.cell 2 rfl; have c3 := x0.cell 3 rfl; have c4 := x0.cell 4 rfl; have c5 := x0.cell 5 rfl; have c6 := x0.cell 6 rfl; have c7 := x0.cell 7 rfl
        go_wp2_with fail
        refine (hak _ hX).mono ?_
        rintro e Vc12 ⟨rfl, hb1⟩
        clear c0 c1 c2 c3 c4 c5 c6 c7
        replace x0 := x0.below hb1
        replace hX := hX.below hb1 (Nat.le_refl _)
        replace hP := hP.below hb1 (Nat.le_refl _)
        replace hQ := hQ.below hb1 (Nat.le_refl _)
        replace z1 := z1.below hb1
        replace z2 := z2.below hb1
        replace hb := hb.trans (hb1.mono hb.size)
        clear hb1 hak
        have c0 := x0.cell 0 rfl; have c1 := x0.cell 1 rfl; have c2 := x0.cell 2 rfl; have c3 := x0.cell 3 rfl; have c4 := x0.cell 4 rfl; have c5 := x0.cell 5 rfl; have c6 := x0.cell 6 rfl; have c7 := x0.cell 7 rfl
        have hba := below_one (w := Vc12) (.cells #[.int .i64 (alo : Int), .int .i64 (ahi : Int)] 39)
        have HXa := hid (And.intro (x0.below hba) (And.intro (hX.below hba (Nat.le_refl _)) (And.intro (hP.below hba (Nat.le_refl _)) (And.intro (hQ.below hba (Nat.le_refl _)) (And.intro (z1.below hba) (And.intro (z2.below hba) (And.intro (hb.trans (hba.mono hb.size)) (Bx.new Vc12 #[.int .i64 (alo : Int), .int .i64 (ahi : Int)] 39))))))))
        clear hba hb x0 hX hP hQ z1 z2
        go_upto_region 8 with fail
        clear c0 c1 c2 c3 c4 c5 c6 c7
        obtain ⟨x0, hX, hP, hQ, z1, z2, hb, x12⟩ := HXa.out
        clear HXa
        generalize Vc12.heap.size = sa_x12 at *
        generalize World.alloc _ _ = Va_x12 at *
        have c0 := x0.cell 0 rfl; have c1 := x0.cell 1 rfl; have c2 := x0.cell 2 rfl; have c3 := x0.cell 3 rfl; have c4 := x0.cell 4 rfl; have c5 := x0.cell 5 rfl; have c6 := x0.cell 6 rfl; have c7 := x0.cell 7 rfl
        go_wp2_with fail
        refine (hrl _ hX).mono ?_
        rintro e Vc14 ⟨hb1, a3, k3, rfl, z3⟩
        clear c0 c1 c2 c3 c4 c5 c6 c7
        replace x0 := x0.below hb1
        replace x12 := x12.below hb1
        replace hX := hX.below hb1 (Nat.le_refl _)
        replace hP := hP.below hb1 (Nat.le_refl _)
        replace hQ := hQ.below hb1 (Nat.le_refl _)
        replace z1 := z1.below hb1
        replace z2 := z2.below hb1
        replace hb := hb.trans (hb1.mono hb.size)
        clear hb1 hrl
        have c0 := x0.cell 0 rfl; have c1 := x0.cell 1 rfl; have c2 := x0.cell 2 rfl; have c3 := x0.cell 3 rfl; have c4 := x0.cell 4 rfl; have c5 := x0.cell 5 rfl; have c6 := x0.cell 6 rfl; have c7 := x0.cell 7 rfl
        go_wp2_with fail
        refine (hsk _ hX).mono ?_
        rintro e Vc15 ⟨hb1, a4, k4, rfl, z4⟩
        clear c0 c1 c2 c3 c4 c5 c6 c7
        replace x0 := x0.below hb1
        replace x12 := x12.below hb1
        replace hX := hX.below hb1 (Nat.le_refl _)
        replace hP := hP.below hb1 (Nat.le_refl _)
        replace hQ := hQ.below hb1 (Nat.le_refl _)
        replace z1 := z1.below hb1
        replace z2 := z2.below hb1
        replace z3 := z3.below hb1
        replace hb := hb.trans (hb1.mono hb.size)
        clear hb1 hsk
        have c0 := x0.cell 0 rfl; have c1 := x0.cell 1 rfl; have c2 := x0.cell 2 rfl; have c3 := x0.cell 3 rfl; have c4 := x0.cell 4 rfl; have c5 := x0.cell 5 rfl; have c6 := x0.cell 6 rfl; have c7 := x0.cell 7 rfl
        go_wp2_with fail
        refine (hfe _ hX).mono ?_
        rintro e Vc16 ⟨rfl, hb1⟩
        clear c0 c1 c2 c3 c4 c5 c6 c7
        replace x0 := x0.below hb1
        replace x12 := x12.below hb1
        replace hX := hX.below hb1 (Nat.le_refl _)
        replace hP := hP.below hb1 (Nat.le_refl _)
        replace hQ := hQ.below hb1 (Nat.le_refl _)
        replace z1 := z1.below hb1
        replace z2 := z2.below hb1
        replace z3 := z3.below hb1
        replace z4 := z4.below hb1
        replace hb := hb.trans (hb1.mono hb.size)
        clear hb1 hfe
        have c0 := x0.cell 0 rfl; have c1 := x0.cell 1 rfl; have c2 := x0.cell 2 rfl; have c3 := x0.cell 3 rfl; have c4 := x0.cell 4 rfl; have c5 := x0.cell 5 rfl; have c6 := x0.cell 6 rfl; have c7 := x0.cell 7 rfl
        have q1 : ¬ (FN : Int) < 0 := by omega
        have q2 : ¬ (FN : Int) > (m : Int) := by omega
        have q3 : ¬ (nR : Int) > 40 := by omega
        have p1 : decide ((FN : Int) < 0) = false := decide_eq_false (by omega)
        have p2 : decide (m < FN) = false := decide_eq_false (by omega)
        have p3 : decide ((40 : Int) < (nR : Int)) = false := decide_eq_false (by omega)
        have b0 : ((0 : Int) != 0) = false := rfl
        have hs1 := hsame a1 k1 a2 k2 _ z1.i z2.i
        clear hsame
        go_wp2_with fail
        refine (hs1).mono ?_
        rintro e Vc17 ⟨rfl, hb1⟩
        clear c0 c1 c2 c3 c4 c5 c6 c7
        replace x0 := x0.below hb1
        replace x12 := x12.below hb1
        replace hX := hX.below hb1 (Nat.le_refl _)
        replace hP := hP.below hb1 (Nat.le_refl _)
        replace hQ := hQ.below hb1 (Nat.le_refl _)
        replace z1 := z1.below hb1
        replace z2 := z2.below hb1
        replace z3 := z3.below hb1
        replace z4 := z4.below hb1
        replace hb := hb.trans (hb1.mono hb.size)
        clear hb1 hs1
        have c0 := x0.cell 0 rfl; have c1 := x0.cell 1 rfl; have c2 := x0.cell 2 rfl; have c3 := x0.cell 3 rfl; have c4 := x0.cell 4 rfl; have c5 := x0.cell 5 rfl; have c6 := x0.cell 6 rfl; have c7 := x0.cell 7 rfl
        have hs2 := hisi a4 k4 aP cP _ z4.i hP
        clear hisi
        go_wp2_with fail
        refine (hs2).mono ?_
        rintro e Vc18 ⟨rfl, rfl⟩
        clear hs2
        clear c0 c1 c2 c3 c4 c5 c6 c7
        have HPr := hid hP
        have H3 := hid z3.i
        have H2 := hid z2.i
        have H12 := hid x12
        have HBB := hid hb
        clear x0 x12 hX hP hQ z1 z2 z3 z4 hb
        go_wp2
        go_loopw [6, 20] (fun v6 v20 wr => ∃ k : Nat, k ≤ m ∧ v6 = .bool false ∧ v20 = .int .i64 (k : Int) ∧ Below Vc17.heap.size Vc17 wr) (fun _ v20 _ => m - (intOf v20).toNat)
        case atStart => exact ⟨0, Nat.zero_le _, rfl, rfl, Below.refl _ _⟩
        case round =>
          obtain ⟨k, hk, rfl, rfl, hb⟩ := hrel
          by_cases hlt : k < m
          · obtain ⟨b, off, y, rfl, hbl, hc, hy1, hy2, hg, _⟩ := (HPr.out.below hb (Nat.le_refl _)).at (k := k) (by rw [← HMM.out]; exact hlt)
            have hkI : (k : Int) < m := by omega
            have hk0 : (0 : Int) ≤ (k : Int) := by omega
            have hi1 := hin a3 k3 y _ (H3.out.below hb (Nat.le_refl _))
            rw [HR7.out y (List.mem_of_getElem? hg.out)] at hi1
            clear hg hin
            go_wp2_with fail
            refine hi1.mono ?_
            rintro e Vi ⟨rfl, hV⟩
            subst hV
            clear hi1 hc
            go_wp2
            go_roundw
            case rel => exact ⟨k + 1, by omega, rfl, by go_num, hb⟩
            case measure => simp [intOf]; omega
          · have hkI : ¬ (k : Int) < m := by omega
            have x12 := H12.out.below hb
            have hz2 := H2.out.below hb (Nat.le_refl _)
            clear hin
            go_upto_region 18 with fail
            have S0 : BlS wr wr.drew := (Below.refl wr.heap.size wr).drew
            refine wp_region_headW 12 (fun w' => BlS wr w') (by kernel_rfl) (by kernel_rfl) ?_
            generalize wr.drew = Y0 at *
            refine HeadAt.takeW (i := 0) (.slice a2 nL k2) rfl (by kernel_rfl) (.inl ⟨rfl, fun _ _ => by simp [go_sem]⟩) S0 ?_
            (try simp only [Act.put, List.getElem_toArray, List.getElem_cons_succ, List.getElem_cons_zero, List.setIfInBounds_toArray, List.set_cons_succ, List.set_cons_zero])
            refine HeadAt.takeW (i := 1) (.int .i64 s) rfl (by kernel_rfl) (.inl ⟨rfl, fun _ _ => by simp [go_sem]⟩) S0 ?_
            (try simp only [Act.put, List.getElem_toArray, List.getElem_cons_succ, List.getElem_cons_zero, List.setIfInBounds_toArray, List.set_cons_succ, List.set_cons_zero])
            refine HeadAt.takeW (i := 3) (.pointer (some ⟨sa_x12, 0, none⟩)) rfl (by kernel_rfl) (.inl ⟨rfl, fun _ _ => by simp [go_sem]⟩) S0 ?_
            (try simp only [Act.put, List.getElem_toArray, List.getElem_cons_succ, List.getElem_cons_zero, List.setIfInBounds_toArray, List.set_cons_succ, List.set_cons_zero])
            refine HeadAt.takeW (i := 4) (.int .i64 (alo : Int)) rfl (by kernel_rfl) (.inl ⟨rfl, fun w' z => ?_⟩) S0 ?_
            · (have z0 := (x12.below z).cell 0 rfl; simp [go_sem, z0])
            (try simp only [Act.put, List.getElem_toArray, List.getElem_cons_succ, List.getElem_cons_zero, List.setIfInBounds_toArray, List.set_cons_succ, List.set_cons_zero])
            refine HeadAt.takeW (i := 5) (.pointer (some ⟨sa_x12, 1, none⟩)) rfl (by kernel_rfl) (.inl ⟨rfl, fun _ _ => by simp [go_sem]⟩) S0 ?_
            (try simp only [Act.put, List.getElem_toArray, List.getElem_cons_succ, List.getElem_cons_zero, List.setIfInBounds_toArray, List.set_cons_succ, List.set_cons_zero])
            refine HeadAt.takeW (i := 6) (.int .i64 (ahi : Int)) rfl (by kernel_rfl) (.inl ⟨rfl, fun w' z => ?_⟩) S0 ?_
            · (have z0 := (x12.below z).cell 1 rfl; simp [go_sem, z0])
            (try simp only [Act.put, List.getElem_toArray, List.getElem_cons_succ, List.getElem_cons_zero, List.setIfInBounds_toArray, List.set_cons_succ, List.set_cons_zero])
            refine HeadAt.one (i := 2) rfl (by kernel_rfl) ?_
            generalize hK : Upto _ _ = K0
            (try simp only [Act.put, List.getElem_toArray, List.getElem_cons_succ, List.getElem_cons_zero, List.setIfInBounds_toArray, List.set_cons_succ, List.set_cons_zero])
            go_wp2_with fail
            refine (hco a2 k2 _ (hz2.below S0 (Nat.le_refl _))).mono ?_
            rintro e V19 ⟨rfl, hb1⟩
            go_wp2_with fail
            replace S0 := Below.trans S0 (hb1.mono (Below.size S0))
            clear hb1
            subst hK
            refine ⟨S0, ?_⟩
            (try simp only [Act.put, List.getElem_toArray, List.getElem_cons_succ, List.getElem_cons_zero, List.setIfInBounds_toArray, List.set_cons_succ, List.set_cons_zero])
            refine HeadAt.one (i := 7) rfl (by kernel_rfl) ?_
            generalize hK : Upto _ _ = K0
            (try simp only [Act.put, List.getElem_toArray, List.getElem_cons_succ, List.getElem_cons_zero, List.setIfInBounds_toArray, List.set_cons_succ, List.set_cons_zero])
            go_wp2_with fail
            refine (hwi _).mono ?_
            rintro e V20 ⟨rfl, rfl⟩
            go_wp2_with fail
            subst hK
            refine ⟨S0, ?_⟩
            (try simp only [Act.put, List.getElem_toArray, List.getElem_cons_succ, List.getElem_cons_zero, List.setIfInBounds_toArray, List.set_cons_succ, List.set_cons_zero])
            refine HeadAt.takeW (i := 8) (.bool true) rfl (by kernel_rfl) (.inl ⟨rfl, fun _ _ => by simp [go_sem]⟩) S0 ?_
            (try simp only [Act.put, List.getElem_toArray, List.getElem_cons_succ, List.getElem_cons_zero, List.setIfInBounds_toArray, List.set_cons_succ, List.set_cons_zero])
            refine HeadAt.one (i := 9) rfl (by kernel_rfl) ?_
            generalize hK : Upto _ _ = K0
            (try simp only [Act.put, List.getElem_toArray, List.getElem_cons_succ, List.getElem_cons_zero, List.setIfInBounds_toArray, List.set_cons_succ, List.set_cons_zero])
            go_wp2_with fail
            refine (hwk _).mono ?_
            rintro e V21 ⟨rfl, hb1⟩
            go_wp2_with fail
            replace S0 := Below.trans S0 (hb1.mono (Below.size S0))
            clear hb1
            subst hK
            refine ⟨S0, ?_⟩
            (try simp only [Act.put, List.getElem_toArray, List.getElem_cons_succ, List.getElem_cons_zero, List.setIfInBounds_toArray, List.set_cons_succ, List.set_cons_zero])
            refine HeadAt.takeW (i := 10) (.bool true) rfl (by kernel_rfl) (.inl ⟨rfl, fun _ _ => by simp [go_sem]⟩) S0 ?_
            (try simp only [Act.put, List.getElem_toArray, List.getElem_cons_succ, List.getElem_cons_zero, List.setIfInBounds_toArray, List.set_cons_succ, List.set_cons_zero])
            refine HeadAt.takeW (i := 11) (.bool true) rfl (by kernel_rfl) (.inl ⟨rfl, fun _ _ => by simp [go_sem]⟩) S0 ?_
            (try simp only [Act.put, List.getElem_toArray, List.getElem_cons_succ, List.getElem_cons_zero, List.setIfInBounds_toArray, List.set_cons_succ, List.set_cons_zero])
            refine HeadAt.done (by kernel_rfl) ?_
            (try simp only [Act.put, List.drop_succ_cons, List.drop_zero, List.getElem_toArray, List.getElem_cons_succ, List.getElem_cons_zero])
            go_wp2_with fail
            refine NoPanic.normal ?_
            have hbz := HBB.out.trans ((hb.trans (Below.mono S0 hb.size)).mono HBB.out.size)
            clear S0
            go_wp2
            go_ret
            exact ⟨rfl, hbz⟩
end Go.Proofs.Yteianfbdhakhpaa
