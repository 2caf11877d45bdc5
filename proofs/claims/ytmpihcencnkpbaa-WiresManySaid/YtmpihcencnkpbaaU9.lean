import Derived.Test.YtmpihcencnkpbaaU8
/-! WiresMany: its walk. -/
namespace Go.Proofs.Ytmpihcencnkpbaa
set_option linter.unusedSimpArgs false
set_option linter.unusedVariables false
open Go Go.RowKit

set_option maxRecDepth 100000 in
set_option maxHeartbeats 6000000 in
theorem wiresMany_any (L N : Int) (aP : Option Addr) (cP : Nat) (P : List F3) (F : Int) (w : World) (hW1 : WiIn w aP cP P) : Calls Try.prog 5 #[.agg #[.int .i64 L, .int .i64 N, .slice aP P.length cP, .int .i64 F]] w fun e w' => e = .returned (.bool true) ∧ Below w.heap.size w w' := by
  obtain ⟨n, hn⟩ : ∃ n, n = P.length := ⟨_, rfl⟩
  have HN := hid hn
  have hcapP : P.length ≤ cP := hW1.cap
  have hwk := works_any
  have hfr := fun V (h : Pz V aP P) => Far_any L N aP cP P F V h
  have hcp := fun V (h : Fz V aP P) => Copy_any L N aP cP P F V h
  unfold CpP at hcp
  have hsm := fun a c V (h : Fz V a P) (h' : Fz V aP P) => same_eq L N a aP c cP P F V h h'
  have hm1 := fun a c V (h : Fz V a P) => Many_any L N a c P F V h.pz
  have hm2 := fun V (h : Fz V aP P) => rMany_any L N aP cP P F V h.pz
  have hs1 := fun a c V (h : Fz V a P) => Sure_any L N a c P F V h.pz
  have hs2 := fun V (h : Fz V aP P) => rSure_any L N aP cP P F V h.pz
  have hy1 := fun a c V (h : Fz V a P) => Maybe_any L N a c P F V h.pz
  have hy2 := fun V (h : Fz V aP P) => rMaybe_any L N aP cP P F V h.pz
  have hsf := fun a b ca cb (xs : List F3) V (hA : Fz V a xs) (hB : Fz V b xs) => SameFaults_eq a b ca cb xs V hA hB
  unfold CtP at hs1 hs2 hy1 hy2
  have hfar : farB L N P F = false → n ≤ 40 := fun h => by
    unfold farB at h
    simp only [Bool.or_eq_false_iff, decide_eq_false_iff_not] at h
    omega
  rw [← hn] at hfr hcp hsm hcapP hm1 hm2 hs1 hs2 hy1 hy2
  generalize (akT L N P F true).length = M at *
  generalize akE L N P F true = E at *
  generalize ctR sureS L N P F = R1 at *
  generalize ctR maybeS L N P F = R2 at *
  have hf1 := fun a b ca cb V hA hB => hsf a b ca cb R1 V hA hB
  have hf2 := fun a b ca cb V hA hB => hsf a b ca cb R2 V hA hB
  obtain ⟨q1, hq1⟩ : ∃ q, q = R1.length := ⟨_, rfl⟩
  obtain ⟨q2, hq2⟩ : ∃ q, q = R2.length := ⟨_, rfl⟩
  rw [← hq1] at hs1 hs2 hf1
  rw [← hq2] at hy1 hy2 hf2
  clear hq1 hq2
  generalize farB L N P F = fr at *
  obtain ⟨W, hW, hb, hs, x0⟩ := boxes1 w #[.int .i64 L, .int .i64 N, .slice aP n cP, .int .i64 F] 24
  have hQ1 := hW1.pz.below hb (Nat.le_refl _)
  rw [← hn]
  clear hW1 hn
  cases fr
  rotate_left
  · skip
    clear hf1 hf2 hcp hsm hfar hm1 hm2 hs1 hs2 hy1 hy2 hsf
    have c0 := x0.cell 0 rfl; have c1 := x0.cell 1 rfl; have c2 := x0.cell 2 rfl; have c3 := x0.cell 3 rfl
    go_enter Try.func5, Try.ntmps5
    go_wp2_with fail
    refine (hfr _ hQ1).mono ?_
    rintro e Vc1 ⟨rfl, hb1⟩
    clear c0 c1 c2 c3
    replace x0 := x0.below hb1
    replace hQ1 := hQ1.below hb1 (Nat.le_refl _)
    replace hb := hb.trans (hb1.mono hb.size)
    clear hb1 hfr hW
    have c0 := x0.cell 0 rfl; have c1 := x0.cell 1 rfl; have c2 := x0.cell 2 rfl; have c3 := x0.cell 3 rfl
    go_wp2_with fail
    refine (hwk _).mono ?_
    rintro e Vw ⟨rfl, hbw9⟩
    clear c0 c1 c2 c3
    replace hb := hb.trans (hbw9.mono hb.size)
    go_wp2
    go_ret
    exact ⟨rfl, hb⟩
  have hn4 := hfar rfl
  clear hfar
  have c0 := x0.cell 0 rfl; have c1 := x0.cell 1 rfl; have c2 := x0.cell 2 rfl; have c3 := x0.cell 3 rfl
  go_enter Try.func5, Try.ntmps5
  go_wp2_with fail
  refine (hfr _ hQ1).mono ?_
  rintro e Vc3 ⟨rfl, hb1⟩
  clear c0 c1 c2 c3
  replace x0 := x0.below hb1
  replace hQ1 := hQ1.below hb1 (Nat.le_refl _)
  replace hb := hb.trans (hb1.mono hb.size)
  clear hb1 hfr hW
  have c0 := x0.cell 0 rfl; have c1 := x0.cell 1 rfl; have c2 := x0.cell 2 rfl; have c3 := x0.cell 3 rfl
  have hP := hQ1.2 (by have := HN.out; omega)
  have hX64 := hid hP.2.1
  clear hQ1
  go_wp2_with fail
  refine (hcp _ hP).mono ?_
  rintro e V ⟨hb1, a, c, rfl, hown⟩
  clear c0 c1 c2 c3 hcp
  have hFo := cp_row hown HN.out hX64.out (by have := HN.out; omega)
  have hcapC := own_cap hown
  replace x0 := x0.below hb1
  replace hP := hP.below hb1 (Nat.le_refl _)
  replace hb := hb.trans (hb1.mono hb.size)
  clear hb1 hown
  have hba := below_one (w := V) (.cells #[.int .i64 L, .int .i64 N, .slice a n c, .int .i64 F] 24)
  have HXb := hid (And.intro (x0.below hba) (And.intro (hP.below hba (Nat.le_refl _)) (And.intro (hFo.below hba (Nat.le_refl _)) (And.intro (hb.trans (hba.mono hb.size)) (Bx.new V #[.int .i64 L, .int .i64 N, .slice a n c, .int .i64 F] 24)))))
  clear x0 hP hFo hb hba
  go_upto_region 4 with fail
  obtain ⟨x0, hP, hFo, hb, x3⟩ := HXb.out
  clear HXb
  generalize V.heap.size = s3 at *
  generalize World.alloc _ _ = Va at *
  have c0 := x0.cell 0 rfl; have c1 := x0.cell 1 rfl; have c2 := x0.cell 2 rfl; have c3 := x0.cell 3 rfl
  have e0 := x3.cell 0 rfl; have e1 := x3.cell 1 rfl; have e2 := x3.cell 2 rfl; have e3 := x3.cell 3 rfl
  go_wp2_with fail
  refine (hm1 _ _ _ hFo).mono ?_
  rintro e Vc4 ⟨rfl, hb1⟩
  clear e0 e1 e2 e3
  clear c0 c1 c2 c3
  replace x0 := x0.below hb1
  replace x3 := x3.below hb1
  replace hP := hP.below hb1 (Nat.le_refl _)
  replace hFo := hFo.below hb1 (Nat.le_refl _)
  replace hb := hb.trans (hb1.mono hb.size)
  clear hb1 hm1
  have c0 := x0.cell 0 rfl; have c1 := x0.cell 1 rfl; have c2 := x0.cell 2 rfl; have c3 := x0.cell 3 rfl
  have e0 := x3.cell 0 rfl; have e1 := x3.cell 1 rfl; have e2 := x3.cell 2 rfl; have e3 := x3.cell 3 rfl
  go_wp2_with fail
  refine (hm2 _ hP).mono ?_
  rintro e Vc5 ⟨rfl, hb1⟩
  clear e0 e1 e2 e3
  clear c0 c1 c2 c3
  replace x0 := x0.below hb1
  replace x3 := x3.below hb1
  replace hP := hP.below hb1 (Nat.le_refl _)
  replace hFo := hFo.below hb1 (Nat.le_refl _)
  replace hb := hb.trans (hb1.mono hb.size)
  clear hb1 hm2
  have c0 := x0.cell 0 rfl; have c1 := x0.cell 1 rfl; have c2 := x0.cell 2 rfl; have c3 := x0.cell 3 rfl
  have e0 := x3.cell 0 rfl; have e1 := x3.cell 1 rfl; have e2 := x3.cell 2 rfl; have e3 := x3.cell 3 rfl
  go_wp2_with fail
  refine (hs1 _ _ _ hFo).mono ?_
  rintro e Vc6 ⟨hb1, a8, c8, rfl, h8⟩
  clear e0 e1 e2 e3
  clear c0 c1 c2 c3
  replace x0 := x0.below hb1
  replace x3 := x3.below hb1
  replace hP := hP.below hb1 (Nat.le_refl _)
  replace hFo := hFo.below hb1 (Nat.le_refl _)
  replace hb := hb.trans (hb1.mono hb.size)
  clear hb1 hs1
  have c0 := x0.cell 0 rfl; have c1 := x0.cell 1 rfl; have c2 := x0.cell 2 rfl; have c3 := x0.cell 3 rfl
  have e0 := x3.cell 0 rfl; have e1 := x3.cell 1 rfl; have e2 := x3.cell 2 rfl; have e3 := x3.cell 3 rfl
  have h8x := h8
  clear h8x
  go_wp2_with fail
  refine (hs2 _ hP).mono ?_
  rintro e Vc7 ⟨hb1, a10, c10, rfl, h10⟩
  clear e0 e1 e2 e3
  clear c0 c1 c2 c3
  replace x0 := x0.below hb1
  replace x3 := x3.below hb1
  replace hP := hP.below hb1 (Nat.le_refl _)
  replace hFo := hFo.below hb1 (Nat.le_refl _)
  replace h8 := h8.below hb1 (Nat.le_refl _)
  replace hb := hb.trans (hb1.mono hb.size)
  clear hb1 hs2
  have c0 := x0.cell 0 rfl; have c1 := x0.cell 1 rfl; have c2 := x0.cell 2 rfl; have c3 := x0.cell 3 rfl
  have e0 := x3.cell 0 rfl; have e1 := x3.cell 1 rfl; have e2 := x3.cell 2 rfl; have e3 := x3.cell 3 rfl
  go_wp2_with fail
  refine (hy1 _ _ _ hFo).mono ?_
  rintro e Vc8 ⟨hb1, a12, c12, rfl, h12⟩
  clear e0 e1 e2 e3
  clear c0 c1 c2 c3
  replace x0 := x0.below hb1
  replace x3 := x3.below hb1
  replace hP := hP.below hb1 (Nat.le_refl _)
  replace hFo := hFo.below hb1 (Nat.le_refl _)
  replace h8 := h8.below hb1 (Nat.le_refl _)
  replace h10 := h10.below hb1 (Nat.le_refl _)
  replace hb := hb.trans (hb1.mono hb.size)
  clear hb1 hy1
  have c0 := x0.cell 0 rfl; have c1 := x0.cell 1 rfl; have c2 := x0.cell 2 rfl; have c3 := x0.cell 3 rfl
  have e0 := x3.cell 0 rfl; have e1 := x3.cell 1 rfl; have e2 := x3.cell 2 rfl; have e3 := x3.cell 3 rfl
  go_wp2_with fail
  refine (hy2 _ hP).mono ?_
  rintro e Vc9 ⟨hb1, a14, c14, rfl, h14⟩
  clear e0 e1 e2 e3
  clear c0 c1 c2 c3
  replace x0 := x0.below hb1
  replace x3 := x3.below hb1
  replace hP := hP.below hb1 (Nat.le_refl _)
  replace hFo := hFo.below hb1 (Nat.le_refl _)
  replace h8 := h8.below hb1 (Nat.le_refl _)
  replace h10 := h10.below hb1 (Nat.le_refl _)
  replace h12 := h12.below hb1 (Nat.le_refl _)
  replace hb := hb.trans (hb1.mono hb.size)
  clear hb1 hy2
  have c0 := x0.cell 0 rfl; have c1 := x0.cell 1 rfl; have c2 := x0.cell 2 rfl; have c3 := x0.cell 3 rfl
  have e0 := x3.cell 0 rfl; have e1 := x3.cell 1 rfl; have e2 := x3.cell 2 rfl; have e3 := x3.cell 3 rfl
  go_wp2_with fail
  refine (hf1 _ _ _ _ _ h8 h10).mono ?_
  rintro e Vc10 ⟨rfl, hb1⟩
  clear e0 e1 e2 e3
  clear c0 c1 c2 c3
  replace x0 := x0.below hb1
  replace x3 := x3.below hb1
  replace hP := hP.below hb1 (Nat.le_refl _)
  replace hFo := hFo.below hb1 (Nat.le_refl _)
  replace h8 := h8.below hb1 (Nat.le_refl _)
  replace h10 := h10.below hb1 (Nat.le_refl _)
  replace h12 := h12.below hb1 (Nat.le_refl _)
  replace h14 := h14.below hb1 (Nat.le_refl _)
  replace hb := hb.trans (hb1.mono hb.size)
  clear hb1 hf1
  have c0 := x0.cell 0 rfl; have c1 := x0.cell 1 rfl; have c2 := x0.cell 2 rfl; have c3 := x0.cell 3 rfl
  have e0 := x3.cell 0 rfl; have e1 := x3.cell 1 rfl; have e2 := x3.cell 2 rfl; have e3 := x3.cell 3 rfl
  go_wp2_with fail
  refine (hf2 _ _ _ _ _ h12 h14).mono ?_
  rintro e Vc11 ⟨rfl, hb1⟩
  clear e0 e1 e2 e3
  clear c0 c1 c2 c3
  replace x0 := x0.below hb1
  replace x3 := x3.below hb1
  replace hP := hP.below hb1 (Nat.le_refl _)
  replace hFo := hFo.below hb1 (Nat.le_refl _)
  replace h8 := h8.below hb1 (Nat.le_refl _)
  replace h10 := h10.below hb1 (Nat.le_refl _)
  replace h12 := h12.below hb1 (Nat.le_refl _)
  replace h14 := h14.below hb1 (Nat.le_refl _)
  replace hb := hb.trans (hb1.mono hb.size)
  clear hb1 hf2
  have c0 := x0.cell 0 rfl; have c1 := x0.cell 1 rfl; have c2 := x0.cell 2 rfl; have c3 := x0.cell 3 rfl
  have e0 := x3.cell 0 rfl; have e1 := x3.cell 1 rfl; have e2 := x3.cell 2 rfl; have e3 := x3.cell 3 rfl
  go_wp2_with fail
  refine (hsm _ _ _ hFo hP).mono ?_
  rintro e Vc12 ⟨rfl, hb1⟩
  clear e0 e1 e2 e3
  clear c0 c1 c2 c3
  replace x0 := x0.below hb1
  replace x3 := x3.below hb1
  replace hP := hP.below hb1 (Nat.le_refl _)
  replace hFo := hFo.below hb1 (Nat.le_refl _)
  replace h8 := h8.below hb1 (Nat.le_refl _)
  replace h10 := h10.below hb1 (Nat.le_refl _)
  replace h12 := h12.below hb1 (Nat.le_refl _)
  replace h14 := h14.below hb1 (Nat.le_refl _)
  replace hb := hb.trans (hb1.mono hb.size)
  clear hb1 hsm
  have c0 := x0.cell 0 rfl; have c1 := x0.cell 1 rfl; have c2 := x0.cell 2 rfl; have c3 := x0.cell 3 rfl
  have e0 := x3.cell 0 rfl; have e1 := x3.cell 1 rfl; have e2 := x3.cell 2 rfl; have e3 := x3.cell 3 rfl
  go_wp2_with fail
  refine (hwk _).mono ?_
  rintro e Vw ⟨rfl, hbw9⟩
  clear e0 e1 e2 e3
  clear c0 c1 c2 c3
  replace hb := hb.trans (hbw9.mono hb.size)
  go_wp2
  go_ret
  exact ⟨rfl, hb⟩
end Go.Proofs.Ytmpihcencnkpbaa
