import Derived.Test.YteianfbdhakhpaaVA
import Derived.Test.YteianfbdhakhpaaUG
/-! Check and Write are the specification's. -/
namespace Go.Proofs.Yteianfbdhakhpaa
set_option linter.unusedSimpArgs false
set_option linter.unusedVariables false
open Go Go.RowKit
set_option maxRecDepth 100000 in
set_option maxHeartbeats 6000000 in
theorem PulsesWrite_any (aT : Option Addr) (cT : Nat) (X : Pu) (aL : Option Addr) (cL : Nat) (L : List Int) (t : Int) (w : World) (hX : Ints w aT X.ts) (hL : Ints w aL L) : Calls Try.prog 3 #[.agg #[.int .i64 X.l, .int .i64 X.n, .int .i64 X.pi, .int .i64 X.sl, .int .i64 X.ga, .int .i64 X.pa, .int .i64 X.sp, .slice aT X.ts.length cT], .slice aL L.length cL, .int .i64 t] w fun e w' => e = .returned (.bool true) ∧ Below w.heap.size w w' := by
  obtain ⟨i0, hi0, iz0, iz1, iz2⟩ := info_parts info3i
  obtain ⟨W, hW, hb, _, x0⟩ := boxes1 w #[.int .i64 X.l, .int .i64 X.n, .int .i64 X.pi, .int .i64 X.sl, .int .i64 X.ga, .int .i64 X.pa, .int .i64 X.sp, .slice aT X.ts.length cT] 24
  replace hX := hX.below hb (Nat.le_refl _)
  replace hL := hL.below hb (Nat.le_refl _)
  have hcp := fun V h h1 => Copy_any aT cT X V h h1
  have hck := fun aQ cQ V h => Check_any aQ cQ X V h
  have kck := fun V h => rCheck_any aT cT X V h
  rw [show (if vB X = true then (0 : Int) else 130) = vE X from rfl] at hck
  have hwr := fun aQ cQ b d V h hl => Write_any aQ cQ X b d L t V h hl
  have kwr := fun V h hl => rWrite_any aT cT X aL cL L t V h hl
  have hs1 := fun a ca b cb V h1 h2 => SameInts_any a b ca cb (wrLi X L t) (wrLi X L t) V h1 h2
  rw [decide_eq_true (rfl : wrLi X L t = wrLi X L t)] at hs1
  have hs2 := fun a ca V h1 h2 => SameInts_any a aL ca cL L L V h1 h2
  rw [decide_eq_true (rfl : L = L)] at hs2
  have hsa := fun aQ cQ V h1 h2 => same_eq aQ cQ X aT cT V h1 h2
  have hwk := fun V => works_any V
  have hLr := hL.2.1
  unfold CpP at hcp
  unfold ReP at hwr kwr
  generalize vE X = VE at *
  generalize wrE X L t = WE at *
  generalize hw1 : wrLi X L t = WL at *
  clear hw1
  generalize WL.length = nW at *
  generalize hnn : X.ts.length = n at *
  have HNN := hid hnn
  clear hnn
  generalize hts : X.ts = ts at *
  clear hts
  generalize hmm : L.length = m at *
  have HMM := hid hmm.symm
  clear hmm
  go_enter Try.func3, Try.ntmps3
  have c0 := x0.cell 0 rfl; have c1 := x0.cell 1 rfl; have c2 := x0.cell 2 rfl; have c3 := x0.cell 3 rfl; have c4 := x0.cell 4 rfl; have c5 := x0.cell 5 rfl; have c6 := x0.cell 6 rfl; have c7 := x0.cell 7 rfl
  by_cases hn40 : n > 40
  · have hnI : (n : Int) > 40 := by omega
    go_wp2_with fail
    refine (hwk _).mono ?_
    rintro e Vw ⟨rfl, hbw9⟩
    clear c0 c1 c2 c3 c4 c5 c6 c7
    replace hb := hb.trans (hbw9.mono hb.size)
    go_wp2
    go_ret
    exact ⟨rfl, hb⟩
  have hnI : ¬ (n : Int) > 40 := by omega
  have bn : decide ((40 : Int) < (n : Int)) = false := decide_eq_false (by omega)
  by_cases hm40 : m > 40
  · have hmI : (m : Int) > 40 := by omega
    go_wp2_with fail
    refine (hwk _).mono ?_
    rintro e Vw ⟨rfl, hbw9⟩
    clear c0 c1 c2 c3 c4 c5 c6 c7
    replace hb := hb.trans (hbw9.mono hb.size)
    go_wp2
    go_ret
    exact ⟨rfl, hb⟩
  have hmI : ¬ (m : Int) > 40 := by omega
  have bm : decide ((40 : Int) < (m : Int)) = false := decide_eq_false (by omega)
  go_wp2_with fail
  refine (hcp _ hX (by omega)).mono ?_
  rintro e Vq ⟨hb1, aQ, cQ, rfl, zQ⟩
  have hQ := zQ.i
  clear zQ
  clear c0 c1 c2 c3 c4 c5 c6 c7
  replace x0 := x0.below hb1
  replace hX := hX.below hb1 (Nat.le_refl _)
  replace hL := hL.below hb1 (Nat.le_refl _)
  replace hb := hb.trans (hb1.mono hb.size)
  clear hb1 hcp hW
  have hA := own_litB Vq 3 1 (B := Vq.heap.size) (Nat.le_refl _)
  have hb1 := below_one (w := Vq) (.cells #[] 3)
  have hcl := (hL.below hb1 (Nat.le_refl _)).cls
  have HLN := hid (show (L.map (Value.int .i64)).length = m * 1 by rw [List.length_map, HMM.out, Nat.mul_one])
  have HF := hid (And.intro hX (And.intro hL (And.intro hQ (And.intro x0 (And.intro hb hb1)))))
  clear hX hL hQ x0 hb hb1
  go_upto_region 4 with (at_builtin
                         go_loud (refine wpList_appLit rfl (.tmp 25) (.tmp 26) 22 rfl Vq.heap.size 3 i0 (.int .i64 0) 1 8 under22 hi0 iz0 iz1 iz2 rfl (by decide) Vq.heap.size rfl hA _ m cL (L.map (Value.int .i64)) rfl HLN.out hcl (ints_one L) (by unfold maxLen; omega) (by omega) (by simp) ?_)
                         intro vO W1 hownO hbO hplO
                         obtain ⟨b, d, rfl⟩ := own_slice2 hownO)
  obtain ⟨hX, hL, hQ, x0, hb, hb1⟩ := HF.out
  have hc1 : Below Vq.heap.size Vq W1 := hb1.trans (hbO.mono (by simp))
  have hba := below_one (w := W1) (.cells #[.int .i64 X.l, .int .i64 X.n, .int .i64 X.pi, .int .i64 X.sl, .int .i64 X.ga, .int .i64 X.pa, .int .i64 X.sp, .slice aQ n cQ] 24)
  have x7 := Bx.new W1 #[.int .i64 X.l, .int .i64 X.n, .int .i64 X.pi, .int .i64 X.sl, .int .i64 X.ga, .int .i64 X.pa, .int .i64 X.sp, .slice aQ n cQ] 24
  have hO := ((own_nw hownO HMM.out (by rw [← HMM.out]; omega) hLr).1.i).below hba (Nat.le_refl _)
  have hc2 := hc1.trans (hba.mono hc1.size)
  replace hX := hX.below hc2 (Nat.le_refl _)
  replace hL := hL.below hc2 (Nat.le_refl _)
  replace hQ := hQ.below hc2 (Nat.le_refl _)
  replace x0 := x0.below hc2
  replace hb := hb.trans (hc2.mono hb.size)
  clear HF hc1 hba hc2 hb1 hbO hownO hplO hA hcl HLN
  generalize W1.heap.size = sa_x7 at *
  generalize World.alloc _ _ = V0 at *
  have S0 : BlS V0 V0.drew := (Below.refl V0.heap.size V0).drew
  refine wp_region_headW 5 (fun w' => BlS V0 w') (by kernel_rfl) (by kernel_rfl) ?_
  generalize V0.drew = Y0 at *
  refine HeadAt.takeW (i := 0) (.agg #[.int .i64 X.l, .int .i64 X.n, .int .i64 X.pi, .int .i64 X.sl, .int .i64 X.ga, .int .i64 X.pa, .int .i64 X.sp, .slice aQ n cQ]) rfl (by kernel_rfl) (.inl ⟨rfl, fun w' z => ?_⟩) S0 ?_
  · (have z0 := (x7.below z).cell 0 rfl; have z1 := (x7.below z).cell 1 rfl; have z2 := (x7.below z).cell 2 rfl; have z3 := (x7.below z).cell 3 rfl; have z4 := (x7.below z).cell 4 rfl; have z5 := (x7.below z).cell 5 rfl; have z6 := (x7.below z).cell 6 rfl; have z7 := (x7.below z).cell 7 rfl; simp [go_sem, z0, z1, z2, z3, z4, z5, z6, z7])
  (try simp only [Act.put, List.getElem_toArray, List.getElem_cons_succ, List.getElem_cons_zero, List.setIfInBounds_toArray, List.set_cons_succ, List.set_cons_zero])
  refine HeadAt.takeW (i := 2) (.agg #[.int .i64 X.l, .int .i64 X.n, .int .i64 X.pi, .int .i64 X.sl, .int .i64 X.ga, .int .i64 X.pa, .int .i64 X.sp, .slice aT n cT]) rfl (by kernel_rfl) (.inl ⟨rfl, fun w' z => ?_⟩) S0 ?_
  · (have z0 := (x0.below z).cell 0 rfl; have z1 := (x0.below z).cell 1 rfl; have z2 := (x0.below z).cell 2 rfl; have z3 := (x0.below z).cell 3 rfl; have z4 := (x0.below z).cell 4 rfl; have z5 := (x0.below z).cell 5 rfl; have z6 := (x0.below z).cell 6 rfl; have z7 := (x0.below z).cell 7 rfl; simp [go_sem, z0, z1, z2, z3, z4, z5, z6, z7])
  (try simp only [Act.put, List.getElem_toArray, List.getElem_cons_succ, List.getElem_cons_zero, List.setIfInBounds_toArray, List.set_cons_succ, List.set_cons_zero])
  refine HeadAt.one (i := 1) rfl (by kernel_rfl) ?_
  generalize hK : Upto _ _ = K0
  (try simp only [Act.put, List.getElem_toArray, List.getElem_cons_succ, List.getElem_cons_zero, List.setIfInBounds_toArray, List.set_cons_succ, List.set_cons_zero])
  go_wp2_with fail
  refine (hck aQ cQ _ (hQ.below S0 (Nat.le_refl _))).mono ?_
  rintro e V4 ⟨rfl, hb1⟩
  go_wp2_with fail
  replace S0 := Below.trans S0 (hb1.mono (Below.size S0))
  clear hb1
  subst hK
  refine ⟨S0, ?_⟩
  (try simp only [Act.put, List.getElem_toArray, List.getElem_cons_succ, List.getElem_cons_zero, List.setIfInBounds_toArray, List.set_cons_succ, List.set_cons_zero])
  refine HeadAt.one (i := 3) rfl (by kernel_rfl) ?_
  generalize hK : Upto _ _ = K0
  (try simp only [Act.put, List.getElem_toArray, List.getElem_cons_succ, List.getElem_cons_zero, List.setIfInBounds_toArray, List.set_cons_succ, List.set_cons_zero])
  go_wp2_with fail
  refine (kck _ (hX.below S0 (Nat.le_refl _))).mono ?_
  rintro e V5 ⟨rfl, hb1⟩
  go_wp2_with fail
  replace S0 := Below.trans S0 (hb1.mono (Below.size S0))
  clear hb1
  subst hK
  refine ⟨S0, ?_⟩
  (try simp only [Act.put, List.getElem_toArray, List.getElem_cons_succ, List.getElem_cons_zero, List.setIfInBounds_toArray, List.set_cons_succ, List.set_cons_zero])
  refine HeadAt.takeW (i := 4) (.bool false) rfl (by kernel_rfl) (.inl ⟨rfl, fun w' z => ?_⟩) S0 ?_
  · (simp [go_sem])
  (try simp only [Act.put, List.getElem_toArray, List.getElem_cons_succ, List.getElem_cons_zero, List.setIfInBounds_toArray, List.set_cons_succ, List.set_cons_zero])
  refine HeadAt.done (by kernel_rfl) ?_
  (try simp only [Act.put, List.drop_succ_cons, List.drop_zero, List.getElem_toArray, List.getElem_cons_succ, List.getElem_cons_zero])
  go_wp2_with fail
  refine NoPanic.normal ?_
  replace hX := hX.below S0 (Nat.le_refl _)
  replace hL := hL.below S0 (Nat.le_refl _)
  replace hQ := hQ.below S0 (Nat.le_refl _)
  replace hO := hO.below S0 (Nat.le_refl _)
  replace x0 := x0.below S0
  replace x7 := x7.below S0
  replace hb := hb.trans (Below.mono S0 hb.size)
  clear S0 hck kck
  have b6 : (WE == WE) = true := by simp
  have d0 := x7.cell 0 rfl; have d1 := x7.cell 1 rfl; have d2 := x7.cell 2 rfl; have d3 := x7.cell 3 rfl; have d4 := x7.cell 4 rfl; have d5 := x7.cell 5 rfl; have d6 := x7.cell 6 rfl; have d7 := x7.cell 7 rfl
  go_wp2_with fail
  refine (hwr aQ cQ b d _ hQ hO).mono ?_
  rintro e Vc6 ⟨hb1, a1, k1, rfl, z1⟩
  clear d0 d1 d2 d3 d4 d5 d6 d7
  replace x0 := x0.below hb1
  replace x7 := x7.below hb1
  replace hX := hX.below hb1 (Nat.le_refl _)
  replace hL := hL.below hb1 (Nat.le_refl _)
  replace hQ := hQ.below hb1 (Nat.le_refl _)
  replace hO := hO.below hb1 (Nat.le_refl _)
  replace hb := hb.trans (hb1.mono hb.size)
  clear hb1 hwr
  have d0 := x7.cell 0 rfl; have d1 := x7.cell 1 rfl; have d2 := x7.cell 2 rfl; have d3 := x7.cell 3 rfl; have d4 := x7.cell 4 rfl; have d5 := x7.cell 5 rfl; have d6 := x7.cell 6 rfl; have d7 := x7.cell 7 rfl
  have c0 := x0.cell 0 rfl; have c1 := x0.cell 1 rfl; have c2 := x0.cell 2 rfl; have c3 := x0.cell 3 rfl; have c4 := x0.cell 4 rfl; have c5 := x0.cell 5 rfl; have c6 := x0.cell 6 rfl; have c7 := x0.cell 7 rfl
  go_wp2_with fail
  refine (kwr _ hX hL).mono ?_
  rintro e Vc7 ⟨hb1, a2, k2, rfl, z2⟩
  clear c0 c1 c2 c3 c4 c5 c6 c7
  clear d0 d1 d2 d3 d4 d5 d6 d7
  replace x0 := x0.below hb1
  replace x7 := x7.below hb1
  replace hX := hX.below hb1 (Nat.le_refl _)
  replace hL := hL.below hb1 (Nat.le_refl _)
  replace hQ := hQ.below hb1 (Nat.le_refl _)
  replace hO := hO.below hb1 (Nat.le_refl _)
  replace z1 := z1.below hb1
  replace hb := hb.trans (hb1.mono hb.size)
  clear hb1 kwr
  have c0 := x0.cell 0 rfl; have c1 := x0.cell 1 rfl; have c2 := x0.cell 2 rfl; have c3 := x0.cell 3 rfl; have c4 := x0.cell 4 rfl; have c5 := x0.cell 5 rfl; have c6 := x0.cell 6 rfl; have c7 := x0.cell 7 rfl
  have d0 := x7.cell 0 rfl; have d1 := x7.cell 1 rfl; have d2 := x7.cell 2 rfl; have d3 := x7.cell 3 rfl; have d4 := x7.cell 4 rfl; have d5 := x7.cell 5 rfl; have d6 := x7.cell 6 rfl; have d7 := x7.cell 7 rfl
  have hs3 := hs1 a1 k1 a2 k2 _ z1.i z2.i
  clear hs1
  go_wp2_with fail
  refine (hs3).mono ?_
  rintro e Vc8 ⟨rfl, hb1⟩
  clear c0 c1 c2 c3 c4 c5 c6 c7
  clear d0 d1 d2 d3 d4 d5 d6 d7
  replace x0 := x0.below hb1
  replace x7 := x7.below hb1
  replace hX := hX.below hb1 (Nat.le_refl _)
  replace hL := hL.below hb1 (Nat.le_refl _)
  replace hQ := hQ.below hb1 (Nat.le_refl _)
  replace hO := hO.below hb1 (Nat.le_refl _)
  replace z1 := z1.below hb1
  replace z2 := z2.below hb1
  replace hb := hb.trans (hb1.mono hb.size)
  clear hb1 hs3
  have c0 := x0.cell 0 rfl; have c1 := x0.cell 1 rfl; have c2 := x0.cell 2 rfl; have c3 := x0.cell 3 rfl; have c4 := x0.cell 4 rfl; have c5 := x0.cell 5 rfl; have c6 := x0.cell 6 rfl; have c7 := x0.cell 7 rfl
  have d0 := x7.cell 0 rfl; have d1 := x7.cell 1 rfl; have d2 := x7.cell 2 rfl; have d3 := x7.cell 3 rfl; have d4 := x7.cell 4 rfl; have d5 := x7.cell 5 rfl; have d6 := x7.cell 6 rfl; have d7 := x7.cell 7 rfl
  have hs5 := hsa aQ cQ _ hQ hX
  clear hsa
  go_wp2_with fail
  refine (hs5).mono ?_
  rintro e Vc9 ⟨rfl, hb1⟩
  clear c0 c1 c2 c3 c4 c5 c6 c7
  clear d0 d1 d2 d3 d4 d5 d6 d7
  replace x0 := x0.below hb1
  replace x7 := x7.below hb1
  replace hX := hX.below hb1 (Nat.le_refl _)
  replace hL := hL.below hb1 (Nat.le_refl _)
  replace hQ := hQ.below hb1 (Nat.le_refl _)
  replace hO := hO.below hb1 (Nat.le_refl _)
  replace z1 := z1.below hb1
  replace z2 := z2.below hb1
  replace hb := hb.trans (hb1.mono hb.size)
  clear hb1 hs5
  have c0 := x0.cell 0 rfl; have c1 := x0.cell 1 rfl; have c2 := x0.cell 2 rfl; have c3 := x0.cell 3 rfl; have c4 := x0.cell 4 rfl; have c5 := x0.cell 5 rfl; have c6 := x0.cell 6 rfl; have c7 := x0.cell 7 rfl
  have d0 := x7.cell 0 rfl; have d1 := x7.cell 1 rfl; have d2 := x7.cell 2 rfl; have d3 := x7.cell 3 rfl; have d4 := x7.cell 4 rfl; have d5 := x7.cell 5 rfl; have d6 := x7.cell 6 rfl; have d7 := x7.cell 7 rfl
  have hs4 := hs2 b d _ hO hL
  clear hs2
  go_wp2_with fail
  refine (hs4).mono ?_
  rintro e Vc10 ⟨rfl, hb1⟩
  clear c0 c1 c2 c3 c4 c5 c6 c7
  clear d0 d1 d2 d3 d4 d5 d6 d7
  replace x0 := x0.below hb1
  replace x7 := x7.below hb1
  replace hX := hX.below hb1 (Nat.le_refl _)
  replace hL := hL.below hb1 (Nat.le_refl _)
  replace hQ := hQ.below hb1 (Nat.le_refl _)
  replace hO := hO.below hb1 (Nat.le_refl _)
  replace z1 := z1.below hb1
  replace z2 := z2.below hb1
  replace hb := hb.trans (hb1.mono hb.size)
  clear hb1 hs4
  have c0 := x0.cell 0 rfl; have c1 := x0.cell 1 rfl; have c2 := x0.cell 2 rfl; have c3 := x0.cell 3 rfl; have c4 := x0.cell 4 rfl; have c5 := x0.cell 5 rfl; have c6 := x0.cell 6 rfl; have c7 := x0.cell 7 rfl
  have d0 := x7.cell 0 rfl; have d1 := x7.cell 1 rfl; have d2 := x7.cell 2 rfl; have d3 := x7.cell 3 rfl; have d4 := x7.cell 4 rfl; have d5 := x7.cell 5 rfl; have d6 := x7.cell 6 rfl; have d7 := x7.cell 7 rfl
  go_wp2_with fail
  refine (hwk _).mono ?_
  rintro e Vw ⟨rfl, hbw9⟩
  clear c0 c1 c2 c3 c4 c5 c6 c7
  clear d0 d1 d2 d3 d4 d5 d6 d7
  replace hb := hb.trans (hbw9.mono hb.size)
  go_wp2
  go_ret
  exact ⟨rfl, hb⟩
end Go.Proofs.Yteianfbdhakhpaa
