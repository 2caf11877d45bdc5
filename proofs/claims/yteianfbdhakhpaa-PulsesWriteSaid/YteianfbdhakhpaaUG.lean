import Derived.Test.YteianfbdhakhpaaV7
import Derived.Test.YteianfbdhakhpaaTX
import Derived.Test.YteianfbdhakhpaaUA
/-! Fewest, Many, Lists and Read are the specification's. -/
namespace Go.Proofs.Yteianfbdhakhpaa
set_option linter.unusedSimpArgs false
set_option linter.unusedVariables false
open Go Go.RowKit
theorem farB_len {X : Pu} (h : farB X = false) : X.ts.length ≤ 40 := by
  unfold farB at h
  rw [Bool.or_eq_false_iff, decide_eq_false_iff_not] at h
  omega
set_option maxRecDepth 100000 in
set_option maxHeartbeats 6000000 in
theorem PulsesMany_any (aT : Option Addr) (cT : Nat) (X : Pu) (w : World) (hX : Ints w aT X.ts) : Calls Try.prog 4 #[.agg #[.int .i64 X.l, .int .i64 X.n, .int .i64 X.pi, .int .i64 X.sl, .int .i64 X.ga, .int .i64 X.pa, .int .i64 X.sp, .slice aT X.ts.length cT]] w fun e w' => e = .returned (.bool true) ∧ Below w.heap.size w w' := by
  obtain ⟨W, hW, hb, _, x0⟩ := boxes1 w #[.int .i64 X.l, .int .i64 X.n, .int .i64 X.pi, .int .i64 X.sl, .int .i64 X.ga, .int .i64 X.pa, .int .i64 X.sp, .slice aT X.ts.length cT] 24
  replace hX := hX.below hb (Nat.le_refl _)
  have hfa := fun V h => Far_any aT cT X V h
  have hcp := fun V h h1 => Copy_any aT cT X V h h1
  have hfe := fun aT cT V h => Fewest_any aT cT X V h
  have hma := fun aT cT V h => Many_any aT cT X V h
  have hli := fun aT cT V h => Lists_any aT cT X V h
  have hre := fun aT cT V h => Read_any aT cT X V h
  have kfe := fun V h => rFewest_any aT cT X V h
  have kma := fun V h => rMany_any aT cT X V h
  have kli := fun V h => rLists_any aT cT X V h
  have kre := fun V h => rRead_any aT cT X V h
  have hsm := fun a ca b cb V h1 h2 => SameInts_any a b ca cb (rdLi X true) (rdLi X true) V h1 h2
  rw [decide_eq_true (rfl : rdLi X true = rdLi X true)] at hsm
  have hsa := fun aQ cQ V h1 h2 => same_eq aQ cQ X aT cT V h1 h2
  have hwk := fun V => works_any V
  have HL := hid (show farB X = false → X.ts.length ≤ 40 from farB_len)
  unfold CpP at hcp
  unfold ReP at hre kre
  generalize farB X = fb at *
  generalize fewE X = FE at *
  generalize fewN X = FN at *
  generalize manN X = MN at *
  generalize lsN X = LN at *
  generalize erX X true = ER at *
  generalize rdE X true = RE at *
  generalize hrl : rdLi X true = RL at *
  clear hrl
  generalize RL.length = nR at *
  generalize hnn : X.ts.length = n at *
  have HNN := hid hnn
  clear hnn
  generalize hts : X.ts = ts at *
  clear hts
  go_enter Try.func4, Try.ntmps4
  have c0 := x0.cell 0 rfl; have c1 := x0.cell 1 rfl; have c2 := x0.cell 2 rfl; have c3 := x0.cell 3 rfl; have c4 := x0.cell 4 rfl; have c5 := x0.cell 5 rfl; have c6 := x0.cell 6 rfl; have c7 := x0.cell 7 rfl
  go_wp2_with fail
  refine (hfa _ hX).mono ?_
  rintro e Vc1 ⟨rfl, hb1⟩
  clear c0 c1 c2 c3 c4 c5 c6 c7
  replace x0 := x0.below hb1
  replace hX := hX.below hb1 (Nat.le_refl _)
  replace hb := hb.trans (hb1.mono hb.size)
  clear hb1 hfa hW
  have c0 := x0.cell 0 rfl; have c1 := x0.cell 1 rfl; have c2 := x0.cell 2 rfl; have c3 := x0.cell 3 rfl; have c4 := x0.cell 4 rfl; have c5 := x0.cell 5 rfl; have c6 := x0.cell 6 rfl; have c7 := x0.cell 7 rfl
  cases fb with
  | true =>
    go_wp2_with fail
    refine (hwk _).mono ?_
    rintro e Vw ⟨rfl, hbw9⟩
    clear c0 c1 c2 c3 c4 c5 c6 c7
    replace hb := hb.trans (hbw9.mono hb.size)
    go_wp2
    go_ret
    exact ⟨rfl, hb⟩
  | false =>
    have h40 := HL.out rfl
    clear HL
    go_wp2_with fail
    refine (hcp _ hX (by omega)).mono ?_
    rintro e Vq ⟨hb1, aQ, cQ, rfl, zQ⟩
    have hQ := zQ.i
    clear zQ
    clear c0 c1 c2 c3 c4 c5 c6 c7
    replace x0 := x0.below hb1
    replace hX := hX.below hb1 (Nat.le_refl _)
    replace hb := hb.trans (hb1.mono hb.size)
    clear hb1 hcp
    have c0 := x0.cell 0 rfl; have c1 := x0.cell 1 rfl; have c2 := x0.cell 2 rfl; have c3 := x0.cell 3 rfl; have c4 := x0.cell 4 rfl; have c5 := x0.cell 5 rfl; have c6 := x0.cell 6 rfl; have c7 := x0.cell 7 rfl
    have hba := below_one (w := Vq) (.cells #[.int .i64 X.l, .int .i64 X.n, .int .i64 X.pi, .int .i64 X.sl, .int .i64 X.ga, .int .i64 X.pa, .int .i64 X.sp, .slice aQ n cQ] 24)
    have HXa := hid (And.intro (x0.below hba) (And.intro (hX.below hba (Nat.le_refl _)) (And.intro (hQ.below hba (Nat.le_refl _)) (And.intro (hb.trans (hba.mono hb.size)) (Bx.new Vq #[.int .i64 X.l, .int .i64 X.n, .int .i64 X.pi, .int .i64 X.sl, .int .i64 X.ga, .int .i64 X.pa, .int .i64 X.sp, .slice aQ n cQ] 24)))))
    clear hba hb x0 hX hQ
    go_upto_region 4 with fail
    clear c0 c1 c2 c3 c4 c5 c6 c7
    obtain ⟨x0, hX, hQ, hb, x3⟩ := HXa.out
    clear HXa
    generalize Vq.heap.size = sa_x3 at *
    generalize World.alloc _ _ = Va_x3 at *
    have c0 := x0.cell 0 rfl; have c1 := x0.cell 1 rfl; have c2 := x0.cell 2 rfl; have c3 := x0.cell 3 rfl; have c4 := x0.cell 4 rfl; have c5 := x0.cell 5 rfl; have c6 := x0.cell 6 rfl; have c7 := x0.cell 7 rfl
    have d0 := x3.cell 0 rfl; have d1 := x3.cell 1 rfl; have d2 := x3.cell 2 rfl; have d3 := x3.cell 3 rfl; have d4 := x3.cell 4 rfl; have d5 := x3.cell 5 rfl; have d6 := x3.cell 6 rfl; have d7 := x3.cell 7 rfl
    have b1 : ((FN : Int) != (FN : Int)) = false := by simp
    have b2 : (FE != FE) = false := by simp
    have b3 : ((MN : Int) != (MN : Int)) = false := by simp
    have b4 : (ER != ER) = false := by simp
    have b5 : ((LN : Int) == (LN : Int)) = true := by simp
    have b6 : (ER == ER) = true := by simp
    have b7 : (RE == RE) = true := by simp
    go_wp2_with fail
    refine (hfe aQ cQ _ hQ).mono ?_
    rintro e Vc5 ⟨rfl, hb1⟩
    clear d0 d1 d2 d3 d4 d5 d6 d7
    clear c0 c1 c2 c3 c4 c5 c6 c7
    replace x0 := x0.below hb1
    replace x3 := x3.below hb1
    replace hX := hX.below hb1 (Nat.le_refl _)
    replace hQ := hQ.below hb1 (Nat.le_refl _)
    replace hb := hb.trans (hb1.mono hb.size)
    clear hb1 hfe
    have c0 := x0.cell 0 rfl; have c1 := x0.cell 1 rfl; have c2 := x0.cell 2 rfl; have c3 := x0.cell 3 rfl; have c4 := x0.cell 4 rfl; have c5 := x0.cell 5 rfl; have c6 := x0.cell 6 rfl; have c7 := x0.cell 7 rfl
    have d0 := x3.cell 0 rfl; have d1 := x3.cell 1 rfl; have d2 := x3.cell 2 rfl; have d3 := x3.cell 3 rfl; have d4 := x3.cell 4 rfl; have d5 := x3.cell 5 rfl; have d6 := x3.cell 6 rfl; have d7 := x3.cell 7 rfl
    go_wp2_with fail
    refine (kfe _ hX).mono ?_
    rintro e Vc6 ⟨rfl, hb1⟩
    clear d0 d1 d2 d3 d4 d5 d6 d7
    clear c0 c1 c2 c3 c4 c5 c6 c7
    replace x0 := x0.below hb1
    replace x3 := x3.below hb1
    replace hX := hX.below hb1 (Nat.le_refl _)
    replace hQ := hQ.below hb1 (Nat.le_refl _)
    replace hb := hb.trans (hb1.mono hb.size)
    clear hb1 kfe
    have c0 := x0.cell 0 rfl; have c1 := x0.cell 1 rfl; have c2 := x0.cell 2 rfl; have c3 := x0.cell 3 rfl; have c4 := x0.cell 4 rfl; have c5 := x0.cell 5 rfl; have c6 := x0.cell 6 rfl; have c7 := x0.cell 7 rfl
    have d0 := x3.cell 0 rfl; have d1 := x3.cell 1 rfl; have d2 := x3.cell 2 rfl; have d3 := x3.cell 3 rfl; have d4 := x3.cell 4 rfl; have d5 := x3.cell 5 rfl; have d6 := x3.cell 6 rfl; have d7 := x3.cell 7 rfl
    go_wp2_with fail
    refine (hma aQ cQ _ hQ).mono ?_
    rintro e Vc7 ⟨rfl, hb1⟩
    clear d0 d1 d2 d3 d4 d5 d6 d7
    clear c0 c1 c2 c3 c4 c5 c6 c7
    replace x0 := x0.below hb1
    replace x3 := x3.below hb1
    replace hX := hX.below hb1 (Nat.le_refl _)
    replace hQ := hQ.below hb1 (Nat.le_refl _)
    replace hb := hb.trans (hb1.mono hb.size)
    clear hb1 hma
    have c0 := x0.cell 0 rfl; have c1 := x0.cell 1 rfl; have c2 := x0.cell 2 rfl; have c3 := x0.cell 3 rfl; have c4 := x0.cell 4 rfl; have c5 := x0.cell 5 rfl; have c6 := x0.cell 6 rfl; have c7 := x0.cell 7 rfl
    have d0 := x3.cell 0 rfl; have d1 := x3.cell 1 rfl; have d2 := x3.cell 2 rfl; have d3 := x3.cell 3 rfl; have d4 := x3.cell 4 rfl; have d5 := x3.cell 5 rfl; have d6 := x3.cell 6 rfl; have d7 := x3.cell 7 rfl
    go_wp2_with fail
    refine (kma _ hX).mono ?_
    rintro e Vc8 ⟨rfl, hb1⟩
    clear d0 d1 d2 d3 d4 d5 d6 d7
    clear c0 c1 c2 c3 c4 c5 c6 c7
    replace x0 := x0.below hb1
    replace x3 := x3.below hb1
    replace hX := hX.below hb1 (Nat.le_refl _)
    replace hQ := hQ.below hb1 (Nat.le_refl _)
    replace hb := hb.trans (hb1.mono hb.size)
    clear hb1 kma
    have c0 := x0.cell 0 rfl; have c1 := x0.cell 1 rfl; have c2 := x0.cell 2 rfl; have c3 := x0.cell 3 rfl; have c4 := x0.cell 4 rfl; have c5 := x0.cell 5 rfl; have c6 := x0.cell 6 rfl; have c7 := x0.cell 7 rfl
    have d0 := x3.cell 0 rfl; have d1 := x3.cell 1 rfl; have d2 := x3.cell 2 rfl; have d3 := x3.cell 3 rfl; have d4 := x3.cell 4 rfl; have d5 := x3.cell 5 rfl; have d6 := x3.cell 6 rfl; have d7 := x3.cell 7 rfl
    go_wp2_with fail
    refine (hli aQ cQ _ hQ).mono ?_
    rintro e Vc9 ⟨rfl, hb1⟩
    clear d0 d1 d2 d3 d4 d5 d6 d7
    clear c0 c1 c2 c3 c4 c5 c6 c7
    replace x0 := x0.below hb1
    replace x3 := x3.below hb1
    replace hX := hX.below hb1 (Nat.le_refl _)
    replace hQ := hQ.below hb1 (Nat.le_refl _)
    replace hb := hb.trans (hb1.mono hb.size)
    clear hb1 hli
    have c0 := x0.cell 0 rfl; have c1 := x0.cell 1 rfl; have c2 := x0.cell 2 rfl; have c3 := x0.cell 3 rfl; have c4 := x0.cell 4 rfl; have c5 := x0.cell 5 rfl; have c6 := x0.cell 6 rfl; have c7 := x0.cell 7 rfl
    have d0 := x3.cell 0 rfl; have d1 := x3.cell 1 rfl; have d2 := x3.cell 2 rfl; have d3 := x3.cell 3 rfl; have d4 := x3.cell 4 rfl; have d5 := x3.cell 5 rfl; have d6 := x3.cell 6 rfl; have d7 := x3.cell 7 rfl
    go_wp2_with fail
    refine (kli _ hX).mono ?_
    rintro e Vc10 ⟨rfl, hb1⟩
    clear d0 d1 d2 d3 d4 d5 d6 d7
    clear c0 c1 c2 c3 c4 c5 c6 c7
    replace x0 := x0.below hb1
    replace x3 := x3.below hb1
    replace hX := hX.below hb1 (Nat.le_refl _)
    replace hQ := hQ.below hb1 (Nat.le_refl _)
    replace hb := hb.trans (hb1.mono hb.size)
    clear hb1 kli
    have c0 := x0.cell 0 rfl; have c1 := x0.cell 1 rfl; have c2 := x0.cell 2 rfl; have c3 := x0.cell 3 rfl; have c4 := x0.cell 4 rfl; have c5 := x0.cell 5 rfl; have c6 := x0.cell 6 rfl; have c7 := x0.cell 7 rfl
    have d0 := x3.cell 0 rfl; have d1 := x3.cell 1 rfl; have d2 := x3.cell 2 rfl; have d3 := x3.cell 3 rfl; have d4 := x3.cell 4 rfl; have d5 := x3.cell 5 rfl; have d6 := x3.cell 6 rfl; have d7 := x3.cell 7 rfl
    go_wp2_with fail
    refine (hre aQ cQ _ hQ).mono ?_
    rintro e Vc11 ⟨hb1, a1, k1, rfl, z1⟩
    clear d0 d1 d2 d3 d4 d5 d6 d7
    clear c0 c1 c2 c3 c4 c5 c6 c7
    replace x0 := x0.below hb1
    replace x3 := x3.below hb1
    replace hX := hX.below hb1 (Nat.le_refl _)
    replace hQ := hQ.below hb1 (Nat.le_refl _)
    replace hb := hb.trans (hb1.mono hb.size)
    clear hb1 hre
    have c0 := x0.cell 0 rfl; have c1 := x0.cell 1 rfl; have c2 := x0.cell 2 rfl; have c3 := x0.cell 3 rfl; have c4 := x0.cell 4 rfl; have c5 := x0.cell 5 rfl; have c6 := x0.cell 6 rfl; have c7 := x0.cell 7 rfl
    have d0 := x3.cell 0 rfl; have d1 := x3.cell 1 rfl; have d2 := x3.cell 2 rfl; have d3 := x3.cell 3 rfl; have d4 := x3.cell 4 rfl; have d5 := x3.cell 5 rfl; have d6 := x3.cell 6 rfl; have d7 := x3.cell 7 rfl
    go_wp2_with fail
    refine (kre _ hX).mono ?_
    rintro e Vc12 ⟨hb1, a2, k2, rfl, z2⟩
    clear d0 d1 d2 d3 d4 d5 d6 d7
    clear c0 c1 c2 c3 c4 c5 c6 c7
    replace x0 := x0.below hb1
    replace x3 := x3.below hb1
    replace hX := hX.below hb1 (Nat.le_refl _)
    replace hQ := hQ.below hb1 (Nat.le_refl _)
    replace z1 := z1.below hb1
    replace hb := hb.trans (hb1.mono hb.size)
    clear hb1 kre
    have c0 := x0.cell 0 rfl; have c1 := x0.cell 1 rfl; have c2 := x0.cell 2 rfl; have c3 := x0.cell 3 rfl; have c4 := x0.cell 4 rfl; have c5 := x0.cell 5 rfl; have c6 := x0.cell 6 rfl; have c7 := x0.cell 7 rfl
    have d0 := x3.cell 0 rfl; have d1 := x3.cell 1 rfl; have d2 := x3.cell 2 rfl; have d3 := x3.cell 3 rfl; have d4 := x3.cell 4 rfl; have d5 := x3.cell 5 rfl; have d6 := x3.cell 6 rfl; have d7 := x3.cell 7 rfl
    have hs1 := hsm a1 k1 a2 k2 _ z1.i z2.i
    clear hsm
    go_wp2_with fail
    refine (hs1).mono ?_
    rintro e Vc13 ⟨rfl, hb1⟩
    clear d0 d1 d2 d3 d4 d5 d6 d7
    clear c0 c1 c2 c3 c4 c5 c6 c7
    replace x0 := x0.below hb1
    replace x3 := x3.below hb1
    replace hX := hX.below hb1 (Nat.le_refl _)
    replace hQ := hQ.below hb1 (Nat.le_refl _)
    replace z1 := z1.below hb1
    replace z2 := z2.below hb1
    replace hb := hb.trans (hb1.mono hb.size)
    clear hb1 hs1
    have c0 := x0.cell 0 rfl; have c1 := x0.cell 1 rfl; have c2 := x0.cell 2 rfl; have c3 := x0.cell 3 rfl; have c4 := x0.cell 4 rfl; have c5 := x0.cell 5 rfl; have c6 := x0.cell 6 rfl; have c7 := x0.cell 7 rfl
    have d0 := x3.cell 0 rfl; have d1 := x3.cell 1 rfl; have d2 := x3.cell 2 rfl; have d3 := x3.cell 3 rfl; have d4 := x3.cell 4 rfl; have d5 := x3.cell 5 rfl; have d6 := x3.cell 6 rfl; have d7 := x3.cell 7 rfl
    have hs2 := hsa aQ cQ _ hQ hX
    clear hsa
    go_wp2_with fail
    refine (hs2).mono ?_
    rintro e Vc14 ⟨rfl, hb1⟩
    clear d0 d1 d2 d3 d4 d5 d6 d7
    clear c0 c1 c2 c3 c4 c5 c6 c7
    replace x0 := x0.below hb1
    replace x3 := x3.below hb1
    replace hX := hX.below hb1 (Nat.le_refl _)
    replace hQ := hQ.below hb1 (Nat.le_refl _)
    replace z1 := z1.below hb1
    replace z2 := z2.below hb1
    replace hb := hb.trans (hb1.mono hb.size)
    clear hb1 hs2
    have c0 := x0.cell 0 rfl; have c1 := x0.cell 1 rfl; have c2 := x0.cell 2 rfl; have c3 := x0.cell 3 rfl; have c4 := x0.cell 4 rfl; have c5 := x0.cell 5 rfl; have c6 := x0.cell 6 rfl; have c7 := x0.cell 7 rfl
    have d0 := x3.cell 0 rfl; have d1 := x3.cell 1 rfl; have d2 := x3.cell 2 rfl; have d3 := x3.cell 3 rfl; have d4 := x3.cell 4 rfl; have d5 := x3.cell 5 rfl; have d6 := x3.cell 6 rfl; have d7 := x3.cell 7 rfl
    go_wp2_with fail
    refine (hwk _).mono ?_
    rintro e Vw ⟨rfl, hbw9⟩
    clear d0 d1 d2 d3 d4 d5 d6 d7
    clear c0 c1 c2 c3 c4 c5 c6 c7
    replace hb := hb.trans (hbw9.mono hb.size)
    go_wp2
    go_ret
    exact ⟨rfl, hb⟩
end Go.Proofs.Yteianfbdhakhpaa
