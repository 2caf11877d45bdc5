import Derived.Test.YteianfbdhakhpaaV9
import Derived.Test.YteianfbdhakhpaaUG
/-! Asked, Real and Sparks are the specification's. -/
namespace Go.Proofs.Yteianfbdhakhpaa
set_option linter.unusedSimpArgs false
set_option linter.unusedVariables false
open Go Go.RowKit
set_option maxRecDepth 100000 in
set_option maxHeartbeats 6000000 in
theorem PulsesReal_any (aT : Option Addr) (cT : Nat) (X : Pu) (s : Int) (w : World) (hX : Ints w aT X.ts) : Calls Try.prog 5 #[.agg #[.int .i64 X.l, .int .i64 X.n, .int .i64 X.pi, .int .i64 X.sl, .int .i64 X.ga, .int .i64 X.pa, .int .i64 X.sp, .slice aT X.ts.length cT], .int .i64 s] w fun e w' => e = .returned (.bool true) ∧ Below w.heap.size w w' := by
  obtain ⟨W, hW, hb, _, x0⟩ := boxes1 w #[.int .i64 X.l, .int .i64 X.n, .int .i64 X.pi, .int .i64 X.sl, .int .i64 X.ga, .int .i64 X.pa, .int .i64 X.sp, .slice aT X.ts.length cT] 24
  replace hX := hX.below hb (Nat.le_refl _)
  have hfa := fun V h => Far_any aT cT X V h
  have hcp := fun V h h1 => Copy_any aT cT X V h h1
  have hak := fun aT cT V h => Asked_any aT cT X s V h
  have hrl := fun aT cT V h => Real_any aT cT X V h
  have hsk := fun aT cT V h => Sparks_any aT cT X V h
  have kak := fun V h => rAsked_any aT cT X s V h
  have krl := fun V h => rReal_any aT cT X V h
  have ksk := fun V h => rSparks_any aT cT X V h
  have hs1 := fun a ca b cb V h1 h2 => SameInts_any a b ca cb (soX reB X) (soX reB X) V h1 h2
  rw [decide_eq_true (rfl : soX reB X = soX reB X)] at hs1
  have hs2 := fun a ca b cb V h1 h2 => SameInts_any a b ca cb (soX spB X) (soX spB X) V h1 h2
  rw [decide_eq_true (rfl : soX spB X = soX spB X)] at hs2
  have hsa := fun aQ cQ V h1 h2 => same_eq aQ cQ X aT cT V h1 h2
  have hwk := fun V => works_any V
  have HL := hid (show farB X = false → X.ts.length ≤ 40 from farB_len)
  unfold CpP at hcp
  unfold ReP at hrl hsk krl ksk
  generalize farB X = fb at *
  generalize askLo X s = AL at *
  generalize askHi X s = AH at *
  generalize askE X s = AE at *
  generalize erX X true = ER at *
  generalize hrl1 : soX reB X = RL at *
  generalize hsl1 : soX spB X = SL at *
  clear hrl1 hsl1
  generalize RL.length = nR at *
  generalize SL.length = nS at *
  generalize hnn : X.ts.length = n at *
  have HNN := hid hnn
  clear hnn
  generalize hts : X.ts = ts at *
  clear hts
  have hsp := fun V => span_eql (AL : Int) (AH : Int) (AL : Int) (AH : Int) V
  replace hsp : ∀ V, (binOp .eql 39 (.agg #[.int .i64 (AL : Int), .int .i64 (AH : Int)]) (.agg #[.int .i64 (AL : Int), .int .i64 (AH : Int)])).run Try.prog V = .ok (.bool true) V := fun V => by rw [hsp]; simp
  go_enter Try.func5, Try.ntmps5
  have c0 := x0.cell 0 rfl; have c1 := x0.cell 1 rfl; have c2 := x0.cell 2 rfl; have c3 := x0.cell 3 rfl; have c4 := x0.cell 4 rfl; have c5 := x0.cell 5 rfl; have c6 := x0.cell 6 rfl; have c7 := x0.cell 7 rfl
  go_wp2_with fail
  refine (hfa _ hX).mono ?_
  rintro e Vc1 ⟨rfl, hb1⟩
  clear c0 c1 c2 c3 c4 c5 c6 c7
  replace x0 := x0.below hb1
  replace hX := hX.below hb1 (Nat.le_refl _)
  replace hb := hb.trans (hb1.mono hb.size)
  clear hb1 hfa hW
  have c0 := x0.cell 0 rfl; have c1 := x0.cell 1 rfl; have c2 := x0.cell 2 rfl; have c3 := x0.cell 3 rfl; have c4 := x0.cell 4 rfl; have c5 := x0.cell 5 rfl; have c6 := x0.cell 6 rfl; have c7 := x0.cell 7 rfl
  cases fb with
  | true =>
    go_wp2_with fail
    refine (hwk _).mono ?_
    rintro e Vw ⟨rfl, hbw9⟩
    clear c0 c1 c2 c3 c4 c5 c6 c7
    replace hb := hb.trans (hbw9.mono hb.size)
    go_wp2
    go_ret
    exact ⟨rfl, hb⟩
  | false =>
    have h40 := HL.out rfl
    clear HL
    go_wp2_with fail
    refine (hcp _ hX (by omega)).mono ?_
    rintro e Vq ⟨hb1, aQ, cQ, rfl, zQ⟩
    have hQ := zQ.i
    clear zQ
    clear c0 c1 c2 c3 c4 c5 c6 c7
    replace x0 := x0.below hb1
    replace hX := hX.below hb1 (Nat.le_refl _)
    replace hb := hb.trans (hb1.mono hb.size)
    clear hb1 hcp
    have c0 := x0.cell 0 rfl; have c1 := x0.cell 1 rfl; have c2 := x0.cell 2 rfl; have c3 := x0.cell 3 rfl; have c4 := x0.cell 4 rfl; have c5 := x0.cell 5 rfl; have c6 := x0.cell 6 rfl; have c7 := x0.cell 7 rfl
    have hba := below_one (w := Vq) (.cells #[.int .i64 X.l, .int .i64 X.n, .int .i64 X.pi, .int .i64 X.sl, .int .i64 X.ga, .int .i64 X.pa, .int .i64 X.sp, .slice aQ n cQ] 24)
    have HXa := hid (And.intro (x0.below hba) (And.intro (hX.below hba (Nat.le_refl _)) (And.intro (hQ.below hba (Nat.le_refl _)) (And.intro (hb.trans (hba.mono hb.size)) (Bx.new Vq #[.int .i64 X.l, .int .i64 X.n, .int .i64 X.pi, .int .i64 X.sl, .int .i64 X.ga, .int .i64 X.pa, .int .i64 X.sp, .slice aQ n cQ] 24)))))
    clear hba hb x0 hX hQ
    go_upto_region 4 with fail
    clear c0 c1 c2 c3 c4 c5 c6 c7
    obtain ⟨x0, hX, hQ, hb, x3⟩ := HXa.out
    clear HXa
    generalize Vq.heap.size = sa_x3 at *
    generalize World.alloc _ _ = Va_x3 at *
    have c0 := x0.cell 0 rfl; have c1 := x0.cell 1 rfl; have c2 := x0.cell 2 rfl; have c3 := x0.cell 3 rfl; have c4 := x0.cell 4 rfl; have c5 := x0.cell 5 rfl; have c6 := x0.cell 6 rfl; have c7 := x0.cell 7 rfl
    have d0 := x3.cell 0 rfl; have d1 := x3.cell 1 rfl; have d2 := x3.cell 2 rfl; have d3 := x3.cell 3 rfl; have d4 := x3.cell 4 rfl; have d5 := x3.cell 5 rfl; have d6 := x3.cell 6 rfl; have d7 := x3.cell 7 rfl
    have b2 : (AE == AE) = true := by simp
    have b4 : (ER == ER) = true := by simp
    go_wp2_with fail
    refine (hak aQ cQ _ hQ).mono ?_
    rintro e Vc5 ⟨rfl, hb1⟩
    clear c0 c1 c2 c3 c4 c5 c6 c7
    clear d0 d1 d2 d3 d4 d5 d6 d7
    replace x0 := x0.below hb1
    replace x3 := x3.below hb1
    replace hX := hX.below hb1 (Nat.le_refl _)
    replace hQ := hQ.below hb1 (Nat.le_refl _)
    replace hb := hb.trans (hb1.mono hb.size)
    clear hb1 hak
    have c0 := x0.cell 0 rfl; have c1 := x0.cell 1 rfl; have c2 := x0.cell 2 rfl; have c3 := x0.cell 3 rfl; have c4 := x0.cell 4 rfl; have c5 := x0.cell 5 rfl; have c6 := x0.cell 6 rfl; have c7 := x0.cell 7 rfl
    have d0 := x3.cell 0 rfl; have d1 := x3.cell 1 rfl; have d2 := x3.cell 2 rfl; have d3 := x3.cell 3 rfl; have d4 := x3.cell 4 rfl; have d5 := x3.cell 5 rfl; have d6 := x3.cell 6 rfl; have d7 := x3.cell 7 rfl
    have hba := below_one (w := Vc5) (.cells #[.int .i64 (AL : Int), .int .i64 (AH : Int)] 39)
    have HXa := hid (And.intro (x0.below hba) (And.intro (x3.below hba) (And.intro (hX.below hba (Nat.le_refl _)) (And.intro (hQ.below hba (Nat.le_refl _)) (And.intro (hb.trans (hba.mono hb.size)) (Bx.new Vc5 #[.int .i64 (AL : Int), .int .i64 (AH : Int)] 39))))))
    clear hba hb x0 x3 hX hQ
    go_upto_region 5 with fail
    clear c0 c1 c2 c3 c4 c5 c6 c7
    clear d0 d1 d2 d3 d4 d5 d6 d7
    obtain ⟨x0, x3, hX, hQ, hb, x6⟩ := HXa.out
    clear HXa
    generalize Vc5.heap.size = sa_x6 at *
    generalize World.alloc _ _ = Va_x6 at *
    have c0 := x0.cell 0 rfl; have c1 := x0.cell 1 rfl; have c2 := x0.cell 2 rfl; have c3 := x0.cell 3 rfl; have c4 := x0.cell 4 rfl; have c5 := x0.cell 5 rfl; have c6 := x0.cell 6 rfl; have c7 := x0.cell 7 rfl
    have d0 := x3.cell 0 rfl; have d1 := x3.cell 1 rfl; have d2 := x3.cell 2 rfl; have d3 := x3.cell 3 rfl; have d4 := x3.cell 4 rfl; have d5 := x3.cell 5 rfl; have d6 := x3.cell 6 rfl; have d7 := x3.cell 7 rfl
    go_wp2_with fail
    refine (kak _ hX).mono ?_
    rintro e Vc7 ⟨rfl, hb1⟩
    clear c0 c1 c2 c3 c4 c5 c6 c7
    clear d0 d1 d2 d3 d4 d5 d6 d7
    replace x0 := x0.below hb1
    replace x3 := x3.below hb1
    replace x6 := x6.below hb1
    replace hX := hX.below hb1 (Nat.le_refl _)
    replace hQ := hQ.below hb1 (Nat.le_refl _)
    replace hb := hb.trans (hb1.mono hb.size)
    clear hb1 kak
    have c0 := x0.cell 0 rfl; have c1 := x0.cell 1 rfl; have c2 := x0.cell 2 rfl; have c3 := x0.cell 3 rfl; have c4 := x0.cell 4 rfl; have c5 := x0.cell 5 rfl; have c6 := x0.cell 6 rfl; have c7 := x0.cell 7 rfl
    have d0 := x3.cell 0 rfl; have d1 := x3.cell 1 rfl; have d2 := x3.cell 2 rfl; have d3 := x3.cell 3 rfl; have d4 := x3.cell 4 rfl; have d5 := x3.cell 5 rfl; have d6 := x3.cell 6 rfl; have d7 := x3.cell 7 rfl
    have hba := below_one (w := Vc7) (.cells #[.int .i64 (AL : Int), .int .i64 (AH : Int)] 39)
    have HXa := hid (And.intro (x0.below hba) (And.intro (x3.below hba) (And.intro (x6.below hba) (And.intro (hX.below hba (Nat.le_refl _)) (And.intro (hQ.below hba (Nat.le_refl _)) (And.intro (hb.trans (hba.mono hb.size)) (Bx.new Vc7 #[.int .i64 (AL : Int), .int .i64 (AH : Int)] 39)))))))
    clear hba hb x0 x3 x6 hX hQ
    go_upto_region 6 with fail
    clear c0 c1 c2 c3 c4 c5 c6 c7
    clear d0 d1 d2 d3 d4 d5 d6 d7
    obtain ⟨x0, x3, x6, hX, hQ, hb, x8⟩ := HXa.out
    clear HXa
    generalize Vc7.heap.size = sa_x8 at *
    generalize World.alloc _ _ = Va_x8 at *
    have c0 := x0.cell 0 rfl; have c1 := x0.cell 1 rfl; have c2 := x0.cell 2 rfl; have c3 := x0.cell 3 rfl; have c4 := x0.cell 4 rfl; have c5 := x0.cell 5 rfl; have c6 := x0.cell 6 rfl; have c7 := x0.cell 7 rfl
    have d0 := x3.cell 0 rfl; have d1 := x3.cell 1 rfl; have d2 := x3.cell 2 rfl; have d3 := x3.cell 3 rfl; have d4 := x3.cell 4 rfl; have d5 := x3.cell 5 rfl; have d6 := x3.cell 6 rfl; have d7 := x3.cell 7 rfl
    go_wp2_with fail
    refine (hrl aQ cQ _ hQ).mono ?_
    rintro e Vc9 ⟨hb1, a1, k1, rfl, z1⟩
    clear c0 c1 c2 c3 c4 c5 c6 c7
    clear d0 d1 d2 d3 d4 d5 d6 d7
    replace x0 := x0.below hb1
    replace x3 := x3.below hb1
    replace x6 := x6.below hb1
    replace x8 := x8.below hb1
    replace hX := hX.below hb1 (Nat.le_refl _)
    replace hQ := hQ.below hb1 (Nat.le_refl _)
    replace hb := hb.trans (hb1.mono hb.size)
    clear hb1 hrl
    have c0 := x0.cell 0 rfl; have c1 := x0.cell 1 rfl; have c2 := x0.cell 2 rfl; have c3 := x0.cell 3 rfl; have c4 := x0.cell 4 rfl; have c5 := x0.cell 5 rfl; have c6 := x0.cell 6 rfl; have c7 := x0.cell 7 rfl
    have d0 := x3.cell 0 rfl; have d1 := x3.cell 1 rfl; have d2 := x3.cell 2 rfl; have d3 := x3.cell 3 rfl; have d4 := x3.cell 4 rfl; have d5 := x3.cell 5 rfl; have d6 := x3.cell 6 rfl; have d7 := x3.cell 7 rfl
    go_wp2_with fail
    refine (krl _ hX).mono ?_
    rintro e Vc10 ⟨hb1, a2, k2, rfl, z2⟩
    clear c0 c1 c2 c3 c4 c5 c6 c7
    clear d0 d1 d2 d3 d4 d5 d6 d7
    replace x0 := x0.below hb1
    replace x3 := x3.below hb1
    replace x6 := x6.below hb1
    replace x8 := x8.below hb1
    replace hX := hX.below hb1 (Nat.le_refl _)
    replace hQ := hQ.below hb1 (Nat.le_refl _)
    replace z1 := z1.below hb1
    replace hb := hb.trans (hb1.mono hb.size)
    clear hb1 krl
    have c0 := x0.cell 0 rfl; have c1 := x0.cell 1 rfl; have c2 := x0.cell 2 rfl; have c3 := x0.cell 3 rfl; have c4 := x0.cell 4 rfl; have c5 := x0.cell 5 rfl; have c6 := x0.cell 6 rfl; have c7 := x0.cell 7 rfl
    have d0 := x3.cell 0 rfl; have d1 := x3.cell 1 rfl; have d2 := x3.cell 2 rfl; have d3 := x3.cell 3 rfl; have d4 := x3.cell 4 rfl; have d5 := x3.cell 5 rfl; have d6 := x3.cell 6 rfl; have d7 := x3.cell 7 rfl
    go_wp2_with fail
    refine (hsk aQ cQ _ hQ).mono ?_
    rintro e Vc11 ⟨hb1, a3, k3, rfl, z3⟩
    clear c0 c1 c2 c3 c4 c5 c6 c7
    clear d0 d1 d2 d3 d4 d5 d6 d7
    replace x0 := x0.below hb1
    replace x3 := x3.below hb1
    replace x6 := x6.below hb1
    replace x8 := x8.below hb1
    replace hX := hX.below hb1 (Nat.le_refl _)
    replace hQ := hQ.below hb1 (Nat.le_refl _)
    replace z1 := z1.below hb1
    replace z2 := z2.below hb1
    replace hb := hb.trans (hb1.mono hb.size)
    clear hb1 hsk
    have c0 := x0.cell 0 rfl; have c1 := x0.cell 1 rfl; have c2 := x0.cell 2 rfl; have c3 := x0.cell 3 rfl; have c4 := x0.cell 4 rfl; have c5 := x0.cell 5 rfl; have c6 := x0.cell 6 rfl; have c7 := x0.cell 7 rfl
    have d0 := x3.cell 0 rfl; have d1 := x3.cell 1 rfl; have d2 := x3.cell 2 rfl; have d3 := x3.cell 3 rfl; have d4 := x3.cell 4 rfl; have d5 := x3.cell 5 rfl; have d6 := x3.cell 6 rfl; have d7 := x3.cell 7 rfl
    go_wp2_with fail
    refine (ksk _ hX).mono ?_
    rintro e Vc12 ⟨hb1, a4, k4, rfl, z4⟩
    clear c0 c1 c2 c3 c4 c5 c6 c7
    clear d0 d1 d2 d3 d4 d5 d6 d7
    replace x0 := x0.below hb1
    replace x3 := x3.below hb1
    replace x6 := x6.below hb1
    replace x8 := x8.below hb1
    replace hX := hX.below hb1 (Nat.le_refl _)
    replace hQ := hQ.below hb1 (Nat.le_refl _)
    replace z1 := z1.below hb1
    replace z2 := z2.below hb1
    replace z3 := z3.below hb1
    replace hb := hb.trans (hb1.mono hb.size)
    clear hb1 ksk
    have c0 := x0.cell 0 rfl; have c1 := x0.cell 1 rfl; have c2 := x0.cell 2 rfl; have c3 := x0.cell 3 rfl; have c4 := x0.cell 4 rfl; have c5 := x0.cell 5 rfl; have c6 := x0.cell 6 rfl; have c7 := x0.cell 7 rfl
    have d0 := x3.cell 0 rfl; have d1 := x3.cell 1 rfl; have d2 := x3.cell 2 rfl; have d3 := x3.cell 3 rfl; have d4 := x3.cell 4 rfl; have d5 := x3.cell 5 rfl; have d6 := x3.cell 6 rfl; have d7 := x3.cell 7 rfl
    have e0 := x6.cell 0 rfl; have e1 := x6.cell 1 rfl
    have f0 := x8.cell 0 rfl; have f1 := x8.cell 1 rfl
    have hs3 := hs1 a1 k1 a2 k2 _ z1.i z2.i
    clear hs1
    go_wp2_with fail
    refine (hs3).mono ?_
    rintro e Vc13 ⟨rfl, hb1⟩
    clear c0 c1 c2 c3 c4 c5 c6 c7
    clear f0 f1
    clear e0 e1
    clear d0 d1 d2 d3 d4 d5 d6 d7
    replace x0 := x0.below hb1
    replace x3 := x3.below hb1
    replace x6 := x6.below hb1
    replace x8 := x8.below hb1
    replace hX := hX.below hb1 (Nat.le_refl _)
    replace hQ := hQ.below hb1 (Nat.le_refl _)
    replace z1 := z1.below hb1
    replace z2 := z2.below hb1
    replace z3 := z3.below hb1
    replace z4 := z4.below hb1
    replace hb := hb.trans (hb1.mono hb.size)
    clear hb1 hs3
    have c0 := x0.cell 0 rfl; have c1 := x0.cell 1 rfl; have c2 := x0.cell 2 rfl; have c3 := x0.cell 3 rfl; have c4 := x0.cell 4 rfl; have c5 := x0.cell 5 rfl; have c6 := x0.cell 6 rfl; have c7 := x0.cell 7 rfl
    have d0 := x3.cell 0 rfl; have d1 := x3.cell 1 rfl; have d2 := x3.cell 2 rfl; have d3 := x3.cell 3 rfl; have d4 := x3.cell 4 rfl; have d5 := x3.cell 5 rfl; have d6 := x3.cell 6 rfl; have d7 := x3.cell 7 rfl
    have e0 := x6.cell 0 rfl; have e1 := x6.cell 1 rfl
    have f0 := x8.cell 0 rfl; have f1 := x8.cell 1 rfl
    have hs4 := hs2 a3 k3 a4 k4 _ z3.i z4.i
    clear hs2
    go_wp2_with fail
    refine (hs4).mono ?_
    rintro e Vc14 ⟨rfl, hb1⟩
    clear d0 d1 d2 d3 d4 d5 d6 d7
    clear c0 c1 c2 c3 c4 c5 c6 c7
    clear e0 e1
    clear f0 f1
    replace x0 := x0.below hb1
    replace x3 := x3.below hb1
    replace x6 := x6.below hb1
    replace x8 := x8.below hb1
    replace hX := hX.below hb1 (Nat.le_refl _)
    replace hQ := hQ.below hb1 (Nat.le_refl _)
    replace z1 := z1.below hb1
    replace z2 := z2.below hb1
    replace z3 := z3.below hb1
    replace z4 := z4.below hb1
    replace hb := hb.trans (hb1.mono hb.size)
    clear hb1 hs4
    have c0 := x0.cell 0 rfl; have c1 := x0.cell 1 rfl; have c2 := x0.cell 2 rfl; have c3 := x0.cell 3 rfl; have c4 := x0.cell 4 rfl; have c5 := x0.cell 5 rfl; have c6 := x0.cell 6 rfl; have c7 := x0.cell 7 rfl
    have d0 := x3.cell 0 rfl; have d1 := x3.cell 1 rfl; have d2 := x3.cell 2 rfl; have d3 := x3.cell 3 rfl; have d4 := x3.cell 4 rfl; have d5 := x3.cell 5 rfl; have d6 := x3.cell 6 rfl; have d7 := x3.cell 7 rfl
    have e0 := x6.cell 0 rfl; have e1 := x6.cell 1 rfl
    have f0 := x8.cell 0 rfl; have f1 := x8.cell 1 rfl
    have hs5 := hsa aQ cQ _ hQ hX
    clear hsa
    go_wp2_with fail
    refine (hs5).mono ?_
    rintro e Vc15 ⟨rfl, hb1⟩
    clear d0 d1 d2 d3 d4 d5 d6 d7
    clear c0 c1 c2 c3 c4 c5 c6 c7
    clear e0 e1
    clear f0 f1
    replace x0 := x0.below hb1
    replace x3 := x3.below hb1
    replace x6 := x6.below hb1
    replace x8 := x8.below hb1
    replace hX := hX.below hb1 (Nat.le_refl _)
    replace hQ := hQ.below hb1 (Nat.le_refl _)
    replace z1 := z1.below hb1
    replace z2 := z2.below hb1
    replace z3 := z3.below hb1
    replace z4 := z4.below hb1
    replace hb := hb.trans (hb1.mono hb.size)
    clear hb1 hs5
    have c0 := x0.cell 0 rfl; have c1 := x0.cell 1 rfl; have c2 := x0.cell 2 rfl; have c3 := x0.cell 3 rfl; have c4 := x0.cell 4 rfl; have c5 := x0.cell 5 rfl; have c6 := x0.cell 6 rfl; have c7 := x0.cell 7 rfl
    have d0 := x3.cell 0 rfl; have d1 := x3.cell 1 rfl; have d2 := x3.cell 2 rfl; have d3 := x3.cell 3 rfl; have d4 := x3.cell 4 rfl; have d5 := x3.cell 5 rfl; have d6 := x3.cell 6 rfl; have d7 := x3.cell 7 rfl
    have e0 := x6.cell 0 rfl; have e1 := x6.cell 1 rfl
    have f0 := x8.cell 0 rfl; have f1 := x8.cell 1 rfl
    go_wp2_with fail
    refine (hwk _).mono ?_
    rintro e Vw ⟨rfl, hbw9⟩
    clear d0 d1 d2 d3 d4 d5 d6 d7
    clear c0 c1 c2 c3 c4 c5 c6 c7
    clear e0 e1
    clear f0 f1
    replace hb := hb.trans (hbw9.mono hb.size)
    go_wp2
    go_ret
    exact ⟨rfl, hb⟩
end Go.Proofs.Yteianfbdhakhpaa
