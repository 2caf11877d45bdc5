import Derived.Test.YtmpihcencnkpbaaUA
/-! WiresShows: its walk. -/
namespace Go.Proofs.Ytmpihcencnkpbaa
set_option linter.unusedSimpArgs false
set_option linter.unusedVariables false
open Go Go.RowKit

set_option maxRecDepth 100000 in
set_option maxHeartbeats 6000000 in
theorem wiresShows_any (L N : Int) (aP : Option Addr) (cP : Nat) (P : List F3) (F : Int) (l k : Int) (w : World) (hW1 : WiIn w aP cP P) : Calls Try.prog 6 #[.agg #[.int .i64 L, .int .i64 N, .slice aP P.length cP, .int .i64 F], .agg #[.int .i64 l, .int .i64 k]] w fun e w' => e = .returned (.bool true) ∧ Below w.heap.size w w' := by
  obtain ⟨n, hn⟩ : ∃ n, n = P.length := ⟨_, rfl⟩
  have HN := hid hn
  have hcapP : P.length ≤ cP := hW1.cap
  have hwk := works_any
  have hfr := fun V (h : Pz V aP P) => Far_any L N aP cP P F V h
  have hcp := fun V (h : Fz V aP P) => Copy_any L N aP cP P F V h
  unfold CpP at hcp
  have hsm := fun a c V (h : Fz V a P) (h' : Fz V aP P) => same_eq L N a aP c cP P F V h h'
  have hs1 := fun a c V (h : Fz V a P) => Shows_any L N a c P F l k V h.pz
  have hs2 := fun V (h : Fz V aP P) => rShows_any L N aP cP P F l k V h.pz
  have hl1 := fun a c V (h : Fz V a P) => Left_any L N a c P F l k V h.pz
  have hl2 := fun V (h : Fz V aP P) => rLeft_any L N aP cP P F l k V h.pz
  have hn1 := fun a c V (h : Fz V a P) => Next_any L N a c P F V h.pz
  have hn2 := fun V (h : Fz V aP P) => rNext_any L N aP cP P F V h.pz
  have hsi := fun a b ca cb V hA hB => SameInts_eq a b ca cb (shR L N P F l k) V hA hB
  have hfar : farB L N P F = false → n ≤ 40 := fun h => by
    unfold farB at h
    simp only [Bool.or_eq_false_iff, decide_eq_false_iff_not] at h
    omega
  rw [← hn] at hfr hcp hsm hcapP hs1 hs2 hl1 hl2 hn1 hn2
  generalize shR L N P F l k = R1 at *
  generalize lfE L N P F l k = E1 at *
  generalize lfR L N P F l k = R2 at *
  generalize nxA L N P F = R3 at *
  generalize nxB L N P F = R4 at *
  generalize nxE L N P F = E2 at *
  obtain ⟨q1, hq1⟩ : ∃ q, q = R1.length := ⟨_, rfl⟩
  rw [← hq1] at hs1 hs2 hsi
  clear hq1
  generalize farB L N P F = fr at *
  obtain ⟨W, hW, hb, hs, x0, x1⟩ := boxes2 w #[.int .i64 L, .int .i64 N, .slice aP n cP, .int .i64 F] 24 #[.int .i64 l, .int .i64 k] 27
  have hQ1 := hW1.pz.below hb (Nat.le_refl _)
  rw [← hn]
  clear hW1 hn
  cases fr
  rotate_left
  · skip
    clear hcp hsm hfar hs1 hs2 hl1 hl2 hn1 hn2 hsi
    have c0 := x0.cell 0 rfl; have c1 := x0.cell 1 rfl; have c2 := x0.cell 2 rfl; have c3 := x0.cell 3 rfl
    have d0 := x1.cell 0 rfl; have d1 := x1.cell 1 rfl
    go_enter Try.func6, Try.ntmps6
    go_wp2_with fail
    refine (hfr _ hQ1).mono ?_
    rintro e Vc1 ⟨rfl, hb1⟩
    clear c0 c1 c2 c3
    clear d0 d1
    replace x0 := x0.below hb1
    replace x1 := x1.below hb1
    replace hQ1 := hQ1.below hb1 (Nat.le_refl _)
    replace hb := hb.trans (hb1.mono hb.size)
    clear hb1 hfr hW
    have c0 := x0.cell 0 rfl; have c1 := x0.cell 1 rfl; have c2 := x0.cell 2 rfl; have c3 := x0.cell 3 rfl
    have d0 := x1.cell 0 rfl; have d1 := x1.cell 1 rfl
    go_wp2_with fail
    refine (hwk _).mono ?_
    rintro e Vw ⟨rfl, hbw9⟩
    clear c0 c1 c2 c3
    clear d0 d1
    replace hb := hb.trans (hbw9.mono hb.size)
    go_wp2
    go_ret
    exact ⟨rfl, hb⟩
  have hn4 := hfar rfl
  clear hfar
  have c0 := x0.cell 0 rfl; have c1 := x0.cell 1 rfl; have c2 := x0.cell 2 rfl; have c3 := x0.cell 3 rfl
  have d0 := x1.cell 0 rfl; have d1 := x1.cell 1 rfl
  go_enter Try.func6, Try.ntmps6
  go_wp2_with fail
  refine (hfr _ hQ1).mono ?_
  rintro e Vc3 ⟨rfl, hb1⟩
  clear c0 c1 c2 c3
  clear d0 d1
  replace x0 := x0.below hb1
  replace x1 := x1.below hb1
  replace hQ1 := hQ1.below hb1 (Nat.le_refl _)
  replace hb := hb.trans (hb1.mono hb.size)
  clear hb1 hfr hW
  have c0 := x0.cell 0 rfl; have c1 := x0.cell 1 rfl; have c2 := x0.cell 2 rfl; have c3 := x0.cell 3 rfl
  have d0 := x1.cell 0 rfl; have d1 := x1.cell 1 rfl
  have hP := hQ1.2 (by have := HN.out; omega)
  have hX64 := hid hP.2.1
  clear hQ1
  go_wp2_with fail
  refine (hcp _ hP).mono ?_
  rintro e V ⟨hb1, a, c, rfl, hown⟩
  clear c0 c1 c2 c3 d0 d1 hcp
  have hFo := cp_row hown HN.out hX64.out (by have := HN.out; omega)
  have hcapC := own_cap hown
  replace x0 := x0.below hb1
  replace x1 := x1.below hb1
  replace hP := hP.below hb1 (Nat.le_refl _)
  replace hb := hb.trans (hb1.mono hb.size)
  clear hb1 hown
  have hba := below_one (w := V) (.cells #[.int .i64 L, .int .i64 N, .slice a n c, .int .i64 F] 24)
  have HXb := hid (And.intro (x0.below hba) (And.intro (x1.below hba) (And.intro (hP.below hba (Nat.le_refl _)) (And.intro (hFo.below hba (Nat.le_refl _)) (And.intro (hb.trans (hba.mono hb.size)) (Bx.new V #[.int .i64 L, .int .i64 N, .slice a n c, .int .i64 F] 24))))))
  clear x0 x1 hP hFo hb hba
  go_upto_region 4 with fail
  obtain ⟨x0, x1, hP, hFo, hb, x3⟩ := HXb.out
  clear HXb
  generalize V.heap.size = s3 at *
  generalize World.alloc _ _ = Va at *
  have c0 := x0.cell 0 rfl; have c1 := x0.cell 1 rfl; have c2 := x0.cell 2 rfl; have c3 := x0.cell 3 rfl
  have d0 := x1.cell 0 rfl; have d1 := x1.cell 1 rfl
  have e0 := x3.cell 0 rfl; have e1 := x3.cell 1 rfl; have e2 := x3.cell 2 rfl; have e3 := x3.cell 3 rfl
  go_wp2_with fail
  refine (hs1 _ _ _ hFo).mono ?_
  rintro e Vc4 ⟨hb1, a8, c8, rfl, h8⟩
  clear e0 e1 e2 e3
  clear c0 c1 c2 c3
  clear d0 d1
  replace x0 := x0.below hb1
  replace x1 := x1.below hb1
  replace x3 := x3.below hb1
  replace hP := hP.below hb1 (Nat.le_refl _)
  replace hFo := hFo.below hb1 (Nat.le_refl _)
  replace hb := hb.trans (hb1.mono hb.size)
  clear hb1 hs1
  have c0 := x0.cell 0 rfl; have c1 := x0.cell 1 rfl; have c2 := x0.cell 2 rfl; have c3 := x0.cell 3 rfl
  have d0 := x1.cell 0 rfl; have d1 := x1.cell 1 rfl
  have e0 := x3.cell 0 rfl; have e1 := x3.cell 1 rfl; have e2 := x3.cell 2 rfl; have e3 := x3.cell 3 rfl
  go_wp2_with fail
  refine (hs2 _ hP).mono ?_
  rintro e Vc5 ⟨hb1, a10, c10, rfl, h10⟩
  clear e0 e1 e2 e3
  clear c0 c1 c2 c3
  clear d0 d1
  replace x0 := x0.below hb1
  replace x1 := x1.below hb1
  replace x3 := x3.below hb1
  replace hP := hP.below hb1 (Nat.le_refl _)
  replace hFo := hFo.below hb1 (Nat.le_refl _)
  replace h8 := h8.below hb1 (Nat.le_refl _)
  replace hb := hb.trans (hb1.mono hb.size)
  clear hb1 hs2
  have c0 := x0.cell 0 rfl; have c1 := x0.cell 1 rfl; have c2 := x0.cell 2 rfl; have c3 := x0.cell 3 rfl
  have d0 := x1.cell 0 rfl; have d1 := x1.cell 1 rfl
  have e0 := x3.cell 0 rfl; have e1 := x3.cell 1 rfl; have e2 := x3.cell 2 rfl; have e3 := x3.cell 3 rfl
  go_wp2_with fail
  refine (hl1 _ _ _ hFo).mono ?_
  rintro e Vc6 ⟨rfl, hb1⟩
  clear e0 e1 e2 e3
  clear c0 c1 c2 c3
  clear d0 d1
  replace x0 := x0.below hb1
  replace x1 := x1.below hb1
  replace x3 := x3.below hb1
  replace hP := hP.below hb1 (Nat.le_refl _)
  replace hFo := hFo.below hb1 (Nat.le_refl _)
  replace h8 := h8.below hb1 (Nat.le_refl _)
  replace h10 := h10.below hb1 (Nat.le_refl _)
  replace hb := hb.trans (hb1.mono hb.size)
  clear hb1 hl1
  have c0 := x0.cell 0 rfl; have c1 := x0.cell 1 rfl; have c2 := x0.cell 2 rfl; have c3 := x0.cell 3 rfl
  have d0 := x1.cell 0 rfl; have d1 := x1.cell 1 rfl
  have e0 := x3.cell 0 rfl; have e1 := x3.cell 1 rfl; have e2 := x3.cell 2 rfl; have e3 := x3.cell 3 rfl
  go_wp2_with fail
  refine (hl2 _ hP).mono ?_
  rintro e Vc7 ⟨rfl, hb1⟩
  clear e0 e1 e2 e3
  clear c0 c1 c2 c3
  clear d0 d1
  replace x0 := x0.below hb1
  replace x1 := x1.below hb1
  replace x3 := x3.below hb1
  replace hP := hP.below hb1 (Nat.le_refl _)
  replace hFo := hFo.below hb1 (Nat.le_refl _)
  replace h8 := h8.below hb1 (Nat.le_refl _)
  replace h10 := h10.below hb1 (Nat.le_refl _)
  replace hb := hb.trans (hb1.mono hb.size)
  clear hb1 hl2
  have c0 := x0.cell 0 rfl; have c1 := x0.cell 1 rfl; have c2 := x0.cell 2 rfl; have c3 := x0.cell 3 rfl
  have d0 := x1.cell 0 rfl; have d1 := x1.cell 1 rfl
  have e0 := x3.cell 0 rfl; have e1 := x3.cell 1 rfl; have e2 := x3.cell 2 rfl; have e3 := x3.cell 3 rfl
  go_wp2_with fail
  refine (hn1 _ _ _ hFo).mono ?_
  rintro e Vc8 ⟨rfl, hb1⟩
  clear e0 e1 e2 e3
  clear c0 c1 c2 c3
  clear d0 d1
  replace x0 := x0.below hb1
  replace x1 := x1.below hb1
  replace x3 := x3.below hb1
  replace hP := hP.below hb1 (Nat.le_refl _)
  replace hFo := hFo.below hb1 (Nat.le_refl _)
  replace h8 := h8.below hb1 (Nat.le_refl _)
  replace h10 := h10.below hb1 (Nat.le_refl _)
  replace hb := hb.trans (hb1.mono hb.size)
  clear hb1 hn1
  have c0 := x0.cell 0 rfl; have c1 := x0.cell 1 rfl; have c2 := x0.cell 2 rfl; have c3 := x0.cell 3 rfl
  have d0 := x1.cell 0 rfl; have d1 := x1.cell 1 rfl
  have e0 := x3.cell 0 rfl; have e1 := x3.cell 1 rfl; have e2 := x3.cell 2 rfl; have e3 := x3.cell 3 rfl
  go_wp2_with fail
  refine (hn2 _ hP).mono ?_
  rintro e Vc9 ⟨rfl, hb1⟩
  clear e0 e1 e2 e3
  clear c0 c1 c2 c3
  clear d0 d1
  replace x0 := x0.below hb1
  replace x1 := x1.below hb1
  replace x3 := x3.below hb1
  replace hP := hP.below hb1 (Nat.le_refl _)
  replace hFo := hFo.below hb1 (Nat.le_refl _)
  replace h8 := h8.below hb1 (Nat.le_refl _)
  replace h10 := h10.below hb1 (Nat.le_refl _)
  replace hb := hb.trans (hb1.mono hb.size)
  clear hb1 hn2
  have c0 := x0.cell 0 rfl; have c1 := x0.cell 1 rfl; have c2 := x0.cell 2 rfl; have c3 := x0.cell 3 rfl
  have d0 := x1.cell 0 rfl; have d1 := x1.cell 1 rfl
  have e0 := x3.cell 0 rfl; have e1 := x3.cell 1 rfl; have e2 := x3.cell 2 rfl; have e3 := x3.cell 3 rfl
  go_wp2_with fail
  refine (hsi _ _ _ _ _ h8 h10).mono ?_
  rintro e Vc10 ⟨rfl, hb1⟩
  clear e0 e1 e2 e3
  clear c0 c1 c2 c3
  clear d0 d1
  replace x0 := x0.below hb1
  replace x1 := x1.below hb1
  replace x3 := x3.below hb1
  replace hP := hP.below hb1 (Nat.le_refl _)
  replace hFo := hFo.below hb1 (Nat.le_refl _)
  replace h8 := h8.below hb1 (Nat.le_refl _)
  replace h10 := h10.below hb1 (Nat.le_refl _)
  replace hb := hb.trans (hb1.mono hb.size)
  clear hb1 hsi
  have c0 := x0.cell 0 rfl; have c1 := x0.cell 1 rfl; have c2 := x0.cell 2 rfl; have c3 := x0.cell 3 rfl
  have d0 := x1.cell 0 rfl; have d1 := x1.cell 1 rfl
  have e0 := x3.cell 0 rfl; have e1 := x3.cell 1 rfl; have e2 := x3.cell 2 rfl; have e3 := x3.cell 3 rfl
  go_wp2_with fail
  refine (hsm _ _ _ hFo hP).mono ?_
  rintro e Vc11 ⟨rfl, hb1⟩
  clear e0 e1 e2 e3
  clear c0 c1 c2 c3
  clear d0 d1
  replace x0 := x0.below hb1
  replace x1 := x1.below hb1
  replace x3 := x3.below hb1
  replace hP := hP.below hb1 (Nat.le_refl _)
  replace hFo := hFo.below hb1 (Nat.le_refl _)
  replace h8 := h8.below hb1 (Nat.le_refl _)
  replace h10 := h10.below hb1 (Nat.le_refl _)
  replace hb := hb.trans (hb1.mono hb.size)
  clear hb1 hsm
  have c0 := x0.cell 0 rfl; have c1 := x0.cell 1 rfl; have c2 := x0.cell 2 rfl; have c3 := x0.cell 3 rfl
  have d0 := x1.cell 0 rfl; have d1 := x1.cell 1 rfl
  have e0 := x3.cell 0 rfl; have e1 := x3.cell 1 rfl; have e2 := x3.cell 2 rfl; have e3 := x3.cell 3 rfl
  go_wp2_with fail
  refine (hwk _).mono ?_
  rintro e Vw ⟨rfl, hbw9⟩
  clear e0 e1 e2 e3
  clear c0 c1 c2 c3
  clear d0 d1
  replace hb := hb.trans (hbw9.mono hb.size)
  go_wp2
  go_ret
  exact ⟨rfl, hb⟩
end Go.Proofs.Ytmpihcencnkpbaa
