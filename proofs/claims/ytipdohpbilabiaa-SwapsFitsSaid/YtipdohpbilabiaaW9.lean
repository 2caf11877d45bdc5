import Derived.Test.YtipdohpbilabiaaNA
import Derived.Test.YtipdohpbilabiaaW2
/-! SwapsFits. -/
namespace Go.Proofs.Ytipdohpbilabiaa
set_option linter.unusedSimpArgs false
set_option linter.unusedVariables false
open Go Go.RowKit

set_option maxRecDepth 100000 in
set_option maxHeartbeats 4000000 in
theorem Fits_far (ab ast ae ak : Option Addr) (cb cs ce ck : Nat) (X : Sw) (ap : Option Addr) (cp : Nat) (P : List (List Int)) (w : World) (hX : SwIn w ab ast ae ak X) (hP : Lss w ap P) (h : farL X.bs = true ∨ farL X.er = true ∨ 40 < X.st.length ∨ 40 < X.ks.length ∨ farL P = true) : Calls Try.prog 3 #[.agg #[.slice ab X.bs.length cb, .slice ast X.st.length cs, .slice ae X.er.length ce, .slice ak X.ks.length ck, .int .i64 X.ch], .slice ap P.length cp] w fun e w' => e = .returned (.bool true) ∧ Below w.heap.size w w' := by
  obtain ⟨W, hWW, hb, _, x0⟩ := boxes1 w #[.slice ab X.bs.length cb, .slice ast X.st.length cs, .slice ae X.er.length ce, .slice ak X.ks.length ck, .int .i64 X.ch] 26
  have hf1 := fun V (h : Below w.heap.size w V) => farLists_any ab cb X.bs V (hX.b.below h (Nat.le_refl _))
  have hf2 := fun V (h : Below w.heap.size w V) => farLists_any ae ce X.er V (hX.e.below h (Nat.le_refl _))
  have hf3 := fun V (h : Below w.heap.size w V) => farLists_any ap cp P V (hP.below h (Nat.le_refl _))
  have hW := works_any
  have c0 := x0.cell 0 rfl; have c1 := x0.cell 1 rfl; have c2 := x0.cell 2 rfl; have c3 := x0.cell 3 rfl; have c4 := x0.cell 4 rfl
  cases g1 : farL X.bs
  · rw [g1] at hf1
    cases g2 : farL X.er
    · rw [g2] at hf2
      by_cases g3 : 40 < X.st.length
      · have g3I : (40 : Int) < (X.st.length : Int) := by omega
        clear hX hP h hf3 g3
        go_enter Try.func3, Try.ntmps3
        go_wp2_with fail
        refine (hf1 _ hb).mono ?_
        rintro e Vm ⟨rfl, rfl⟩
        go_wp2_with fail
        refine (hf2 _ hb).mono ?_
        rintro e Vm ⟨rfl, rfl⟩
        go_wp2_with fail
        refine (hW _).mono ?_
        rintro e Vw ⟨rfl, hb1⟩
        replace hb := hb.trans (hb1.mono hb.size)
        go_wp2
        go_ret
        exact ⟨rfl, hb⟩
      · have g3I : ¬ (40 : Int) < (X.st.length : Int) := by omega
        by_cases g4 : 40 < X.ks.length
        · have g4I : (40 : Int) < (X.ks.length : Int) := by omega
          clear hX hP h hf3 g3 g4
          go_enter Try.func3, Try.ntmps3
          go_wp2_with fail
          refine (hf1 _ hb).mono ?_
          rintro e Vm ⟨rfl, rfl⟩
          go_wp2_with fail
          refine (hf2 _ hb).mono ?_
          rintro e Vm ⟨rfl, rfl⟩
          go_wp2_with fail
          refine (hW _).mono ?_
          rintro e Vw ⟨rfl, hb1⟩
          replace hb := hb.trans (hb1.mono hb.size)
          go_wp2
          go_ret
          exact ⟨rfl, hb⟩
        · have g4I : ¬ (40 : Int) < (X.ks.length : Int) := by omega
          have g5 : farL P = true := by
            rcases h with h | h | h | h | h
            · rw [g1] at h; cases h
            · rw [g2] at h; cases h
            · exact absurd h g3
            · exact absurd h g4
            · exact h
          rw [g5] at hf3
          clear hX hP h g3 g4
          go_enter Try.func3, Try.ntmps3
          go_wp2_with fail
          refine (hf1 _ hb).mono ?_
          rintro e Vm ⟨rfl, rfl⟩
          go_wp2_with fail
          refine (hf2 _ hb).mono ?_
          rintro e Vm ⟨rfl, rfl⟩
          go_wp2_with fail
          refine (hf3 _ hb).mono ?_
          rintro e Vm ⟨rfl, rfl⟩
          go_wp2_with fail
          refine (hW _).mono ?_
          rintro e Vw ⟨rfl, hb1⟩
          replace hb := hb.trans (hb1.mono hb.size)
          go_wp2
          go_ret
          exact ⟨rfl, hb⟩
    · rw [g2] at hf2
      clear hX hP h hf3
      go_enter Try.func3, Try.ntmps3
      go_wp2_with fail
      refine (hf1 _ hb).mono ?_
      rintro e Vm ⟨rfl, rfl⟩
      go_wp2_with fail
      refine (hf2 _ hb).mono ?_
      rintro e Vm ⟨rfl, rfl⟩
      go_wp2_with fail
      refine (hW _).mono ?_
      rintro e Vw ⟨rfl, hb1⟩
      replace hb := hb.trans (hb1.mono hb.size)
      go_wp2
      go_ret
      exact ⟨rfl, hb⟩
  · rw [g1] at hf1
    clear hX hP h hf2 hf3
    go_enter Try.func3, Try.ntmps3
    go_wp2_with fail
    refine (hf1 _ hb).mono ?_
    rintro e Vm ⟨rfl, rfl⟩
    go_wp2_with fail
    refine (hW _).mono ?_
    rintro e Vw ⟨rfl, hb1⟩
    replace hb := hb.trans (hb1.mono hb.size)
    go_wp2
    go_ret
    exact ⟨rfl, hb⟩

theorem farL_le {LL : List (List Int)} (h : farL LL = false) : LL.length ≤ 40 ∧ ∀ l ∈ LL, l.length ≤ 40 := by
  unfold farL at h
  rw [Bool.or_eq_false_iff, decide_eq_false_iff_not, Bool.not_eq_false'] at h
  refine ⟨by omega, fun l hl => ?_⟩
  obtain ⟨i, hi, rfl⟩ := mem_getD [] hl
  have := all_at h.2 hi
  unfold farI at this
  exact of_decide_eq_true this

set_option maxRecDepth 100000 in
set_option maxHeartbeats 8000000 in
theorem swapsFits_near (ab ast ae ak : Option Addr) (cb cs ce ck : Nat) (X : Sw) (ap : Option Addr) (cp : Nat) (P : List (List Int)) (w : World) (hX : Swp w ab ast ae ak X) (hP : Lss w ap P) (g1 : farL X.bs = false) (g2 : farL X.er = false) (g3 : X.st.length ≤ 40) (g4 : X.ks.length ≤ 40) (g5 : farL P = false) : Calls Try.prog 3 #[.agg #[.slice ab X.bs.length cb, .slice ast X.st.length cs, .slice ae X.er.length ce, .slice ak X.ks.length ck, .int .i64 X.ch], .slice ap P.length cp] w fun e w' => e = .returned (.bool true) ∧ Below w.heap.size w w' := by
  obtain ⟨W, hWW, hb, _, x0⟩ := boxes1 w #[.slice ab X.bs.length cb, .slice ast X.st.length cs, .slice ae X.er.length ce, .slice ak X.ks.length ck, .int .i64 X.ch] 26
  have hgX := fun V (h : Below w.heap.size w V) => hX.below h (Nat.le_refl _)
  have hgP := fun V (h : Below w.heap.size w V) => hP.below h (Nat.le_refl _)
  have hf1 := fun V h => farLists_any ab cb X.bs V (hgX V h).1
  have hf2 := fun V h => farLists_any ae ce X.er V (hgX V h).2.2.1
  have hf3 := fun V h => farLists_any ap cp P V (hgP V h)
  rw [g1] at hf1; rw [g2] at hf2; rw [g5] at hf3
  have hW := works_any
  have g3I : ¬ (40 : Int) < (X.st.length : Int) := by omega
  have g4I : ¬ (40 : Int) < (X.ks.length : Int) := by omega
  obtain ⟨b1, b2⟩ := farL_le g1
  obtain ⟨e1, e2⟩ := farL_le g2
  obtain ⟨p1, p2⟩ := farL_le g5
  have hcl := fun V h => Clone_swp ab ast ae ak cb cs ce ck X V (hgX V h) (by omega) (fun l hl => by have := b2 l hl; omega) (by omega) (by omega) (fun l hl => by have := e2 l hl; omega) (by omega)
  have hcp := fun V h => CloneLists_any ap cp P V (hgP V h) (by omega) (fun l hl => by have := p2 l hl; omega)
  have hck := fun V h => Check_any ab ast ae ak cb cs ce ck X V (hgX V h)
  have hmx : P.length ≤ 9223372036854775807 := by omega
  have hnn : ∀ V, Ints V none [] := fun V => ⟨by simp, fun x hx => (nomatch hx), fun i hi => by simp at hi⟩
  have hni := fun V => SameInts_eq none none 0 0 [] V (hnn V) (hnn V)
  have c0 := x0.cell 0 rfl; have c1 := x0.cell 1 rfl; have c2 := x0.cell 2 rfl; have c3 := x0.cell 3 rfl; have c4 := x0.cell 4 rfl
  have HB := hid (And.intro b1 (And.intro b2 (And.intro e1 (And.intro e2 (And.intro p1 p2)))))
  clear g1 g2 g3 g4 g5 b1 b2 e1 e2 p1 p2 hnn hP hX
  go_enter Try.func3, Try.ntmps3
  go_wp2_with fail
  refine (hf1 _ hb).mono ?_
  rintro e Vm ⟨rfl, rfl⟩
  go_wp2_with fail
  refine (hf2 _ hb).mono ?_
  rintro e Vm ⟨rfl, rfl⟩
  go_wp2_with fail
  refine (hf3 _ hb).mono ?_
  rintro e Vm ⟨rfl, rfl⟩
  go_wp2_with fail
  refine (hcl _ hb).mono ?_
  rintro e Vn ⟨hb1, oab, oast, oae, oak, ocb, ocs, oce, ock, rfl, hO⟩
  replace hb := hb.trans (hb1.mono hb.size)
  replace x0 := x0.below hb1
  clear hb1 c0 c1 c2 c3 c4 hf1 hf2 hf3
  have c0 := x0.cell 0 rfl; have c1 := x0.cell 1 rfl; have c2 := x0.cell 2 rfl; have c3 := x0.cell 3 rfl; have c4 := x0.cell 4 rfl
  go_wp2_with fail
  refine (hcp _ hb).mono ?_
  rintro e Vn ⟨hb1, pa, pc, vs, rfl, hown, hrc⟩
  have hQ := hrc.lss hown hmx
  replace hb := hb.trans (hb1.mono hb.size)
  replace x0 := x0.below hb1
  replace hO := hO.below hb1 (Nat.le_refl _)
  clear hb1 c0 c1 c2 c3 c4 hcl hcp hown hrc
  have hb1 := below_one (w := Vn) (.cells #[.slice oab X.bs.length ocb, .slice oast X.st.length ocs, .slice oae X.er.length oce, .slice oak X.ks.length ock, .int .i64 X.ch] 26)
  have y0 := Bx.new Vn #[.slice oab X.bs.length ocb, .slice oast X.st.length ocs, .slice oae X.er.length oce, .slice oak X.ks.length ock, .int .i64 X.ch] 26
  replace hb := hb.trans (hb1.mono hb.size)
  replace x0 := x0.below hb1
  replace hO := hO.below hb1 (Nat.le_refl _)
  replace hQ := hQ.below hb1 (Nat.le_refl _)
  have HH := hid (And.intro hb (And.intro x0 (And.intro y0 (And.intro hO hQ))))
  clear hb x0 y0 hO hQ hb1
  go_upto_region 4 with fail
  obtain ⟨hb, x0, y0, hO, hQ⟩ := HH.out
  clear HH
  obtain ⟨g, hg⟩ : ∃ g, g = Vn.heap.size := ⟨_, rfl⟩
  rw [← hg] at y0 ⊢
  clear hg
  generalize Vn.alloc _ = Vn at *
  have hpc := fun (t : Ext Vn) => PCheck_any oab oast oae oak ocb ocs oce ock X t.w (hO.below t.below (Nat.le_refl _))
  have hrc := fun (t : Ext Vn) => hck t.w (hb.trans (t.below.mono hb.size))
  have u0 := x0.ext 0 rfl; have v0 := y0.ext 0 rfl; have u1 := x0.ext 1 rfl; have v1 := y0.ext 1 rfl; have u2 := x0.ext 2 rfl; have v2 := y0.ext 2 rfl; have u3 := x0.ext 3 rfl; have v3 := y0.ext 3 rfl; have u4 := x0.ext 4 rfl; have v4 := y0.ext 4 rfl; 
  generalize hcv : cod (vB X) = cv at *
  refine wp_region_ext_lit (by kernel_rfl) (by kernel_rfl) ?_
  repeat (quiet_step (first | (go_at_call 17; exact quiet_ext (hpc _)) | (go_at_call 18; exact quiet_ext (hrc _))))
  refine wpQuiet_nil ?_
  intro _ hw'
  obtain ⟨t, rfl⟩ := hw'
  have hb1 := t.below
  replace hb := hb.trans (hb1.mono hb.size)
  replace x0 := x0.below hb1
  replace y0 := y0.below hb1
  replace hO := hO.below hb1 (Nat.le_refl _)
  replace hQ := hQ.below hb1 (Nat.le_refl _)
  clear u0 u1 u2 u3 u4 v0 v1 v2 v3 v4 hpc hrc hck hb1 hcv
  generalize t.w = Vn at *
  have c0 := x0.cell 0 rfl; have c1 := x0.cell 1 rfl; have c2 := x0.cell 2 rfl; have c3 := x0.cell 3 rfl; have c4 := x0.cell 4 rfl; have d0 := y0.cell 0 rfl; have d1 := y0.cell 1 rfl; have d2 := y0.cell 2 rfl; have d3 := y0.cell 3 rfl; have d4 := y0.cell 4 rfl
  cases hv : vB X
  · skip
    have h19 := fun V hO hQ => Fits_bad oab oast oae oak ocb ocs oce ock X pa pc P V hO hQ 70 (by rw [hv]; rfl) (fun h => by rw [hv] at h; cases h)
    have h20 := fun V h => RFits_v ab ast ae ak cb cs ce ck X ap cp P V (hgX V h) (hgP V h) hv
    have h21 := fun V hO hQ => Earns_bad oab oast oae oak ocb ocs oce ock X pa pc P V hO hQ 70 (by rw [hv]; rfl) (fun h => by rw [hv] at h; cases h)
    have h22 := fun V h => REarns_v ab ast ae ak cb cs ce ck X ap cp P V (hgX V h) (hgP V h) hv
    have hsm := fun V h hO => same_eq oab oast oae oak ab ast ae ak ocb ocs oce ock cb cs ce ck X V hO (hgX V h)
    have hsl := fun V h hQ => SameLists_eq pa ap pc cp P V hQ (hgP V h)
    go_wp2_with fail
    refine (h19 _ hO hQ).mono ?_
    rintro e Vn ⟨rfl, hb1⟩
    replace hb := hb.trans (hb1.mono hb.size)
    replace x0 := x0.below hb1
    replace y0 := y0.below hb1
    replace hO := hO.below hb1 (Nat.le_refl _)
    replace hQ := hQ.below hb1 (Nat.le_refl _)
    clear hb1 c0 c1 c2 c3 c4 d0 d1 d2 d3 d4
    have c0 := x0.cell 0 rfl; have c1 := x0.cell 1 rfl; have c2 := x0.cell 2 rfl; have c3 := x0.cell 3 rfl; have c4 := x0.cell 4 rfl; have d0 := y0.cell 0 rfl; have d1 := y0.cell 1 rfl; have d2 := y0.cell 2 rfl; have d3 := y0.cell 3 rfl; have d4 := y0.cell 4 rfl
    go_wp2_with fail
    refine (h20 _ hb).mono ?_
    rintro e Vn ⟨rfl, hb1⟩
    replace hb := hb.trans (hb1.mono hb.size)
    replace x0 := x0.below hb1
    replace y0 := y0.below hb1
    replace hO := hO.below hb1 (Nat.le_refl _)
    replace hQ := hQ.below hb1 (Nat.le_refl _)
    clear hb1 c0 c1 c2 c3 c4 d0 d1 d2 d3 d4
    have c0 := x0.cell 0 rfl; have c1 := x0.cell 1 rfl; have c2 := x0.cell 2 rfl; have c3 := x0.cell 3 rfl; have c4 := x0.cell 4 rfl; have d0 := y0.cell 0 rfl; have d1 := y0.cell 1 rfl; have d2 := y0.cell 2 rfl; have d3 := y0.cell 3 rfl; have d4 := y0.cell 4 rfl
    go_wp2_with fail
    refine (h21 _ hO hQ).mono ?_
    rintro e Vn ⟨rfl, hb1⟩
    replace hb := hb.trans (hb1.mono hb.size)
    replace x0 := x0.below hb1
    replace y0 := y0.below hb1
    replace hO := hO.below hb1 (Nat.le_refl _)
    replace hQ := hQ.below hb1 (Nat.le_refl _)
    clear hb1 c0 c1 c2 c3 c4 d0 d1 d2 d3 d4
    have c0 := x0.cell 0 rfl; have c1 := x0.cell 1 rfl; have c2 := x0.cell 2 rfl; have c3 := x0.cell 3 rfl; have c4 := x0.cell 4 rfl; have d0 := y0.cell 0 rfl; have d1 := y0.cell 1 rfl; have d2 := y0.cell 2 rfl; have d3 := y0.cell 3 rfl; have d4 := y0.cell 4 rfl
    go_wp2_with fail
    refine (h22 _ hb).mono ?_
    rintro e Vn ⟨rfl, hb1⟩
    replace hb := hb.trans (hb1.mono hb.size)
    replace x0 := x0.below hb1
    replace y0 := y0.below hb1
    replace hO := hO.below hb1 (Nat.le_refl _)
    replace hQ := hQ.below hb1 (Nat.le_refl _)
    clear hb1 c0 c1 c2 c3 c4 d0 d1 d2 d3 d4
    have c0 := x0.cell 0 rfl; have c1 := x0.cell 1 rfl; have c2 := x0.cell 2 rfl; have c3 := x0.cell 3 rfl; have c4 := x0.cell 4 rfl; have d0 := y0.cell 0 rfl; have d1 := y0.cell 1 rfl; have d2 := y0.cell 2 rfl; have d3 := y0.cell 3 rfl; have d4 := y0.cell 4 rfl
    go_wp2_with fail
    refine (hni _).mono ?_
    rintro e Vn ⟨rfl, hb1⟩
    replace hb := hb.trans (hb1.mono hb.size)
    replace x0 := x0.below hb1
    replace y0 := y0.below hb1
    replace hO := hO.below hb1 (Nat.le_refl _)
    replace hQ := hQ.below hb1 (Nat.le_refl _)
    clear hb1 c0 c1 c2 c3 c4 d0 d1 d2 d3 d4
    have c0 := x0.cell 0 rfl; have c1 := x0.cell 1 rfl; have c2 := x0.cell 2 rfl; have c3 := x0.cell 3 rfl; have c4 := x0.cell 4 rfl; have d0 := y0.cell 0 rfl; have d1 := y0.cell 1 rfl; have d2 := y0.cell 2 rfl; have d3 := y0.cell 3 rfl; have d4 := y0.cell 4 rfl
    go_wp2_with fail
    refine (hsm _ hb hO).mono ?_
    rintro e Vn ⟨rfl, hb1⟩
    replace hb := hb.trans (hb1.mono hb.size)
    replace x0 := x0.below hb1
    replace y0 := y0.below hb1
    replace hO := hO.below hb1 (Nat.le_refl _)
    replace hQ := hQ.below hb1 (Nat.le_refl _)
    clear hb1 c0 c1 c2 c3 c4 d0 d1 d2 d3 d4
    have c0 := x0.cell 0 rfl; have c1 := x0.cell 1 rfl; have c2 := x0.cell 2 rfl; have c3 := x0.cell 3 rfl; have c4 := x0.cell 4 rfl; have d0 := y0.cell 0 rfl; have d1 := y0.cell 1 rfl; have d2 := y0.cell 2 rfl; have d3 := y0.cell 3 rfl; have d4 := y0.cell 4 rfl
    go_wp2_with fail
    refine (hsl _ hb hQ).mono ?_
    rintro e Vn ⟨rfl, hb1⟩
    replace hb := hb.trans (hb1.mono hb.size)
    replace x0 := x0.below hb1
    replace y0 := y0.below hb1
    replace hO := hO.below hb1 (Nat.le_refl _)
    replace hQ := hQ.below hb1 (Nat.le_refl _)
    clear hb1 c0 c1 c2 c3 c4 d0 d1 d2 d3 d4
    have c0 := x0.cell 0 rfl; have c1 := x0.cell 1 rfl; have c2 := x0.cell 2 rfl; have c3 := x0.cell 3 rfl; have c4 := x0.cell 4 rfl; have d0 := y0.cell 0 rfl; have d1 := y0.cell 1 rfl; have d2 := y0.cell 2 rfl; have d3 := y0.cell 3 rfl; have d4 := y0.cell 4 rfl
    go_wp2_with fail
    refine (hW _).mono ?_
    rintro e Vw ⟨rfl, hb1⟩
    replace hb := hb.trans (hb1.mono hb.size)
    go_wp2
    go_ret
    exact ⟨rfl, hb⟩
  · cases hpl : plB X P
    · skip
      have h19 := fun V hO hQ => Fits_bad oab oast oae oak ocb ocs oce ock X pa pc P V hO hQ 1 (by rw [hv]; rfl) (fun _ => hpl)
      have h20 := fun V h => RFits_p ab ast ae ak cb cs ce ck X ap cp P V (hgX V h) (hgP V h) hv hpl
      have h21 := fun V hO hQ => Earns_bad oab oast oae oak ocb ocs oce ock X pa pc P V hO hQ 1 (by rw [hv]; rfl) (fun _ => hpl)
      have h22 := fun V h => REarns_p ab ast ae ak cb cs ce ck X ap cp P V (hgX V h) (hgP V h) hv hpl
      have hsm := fun V h hO => same_eq oab oast oae oak ab ast ae ak ocb ocs oce ock cb cs ce ck X V hO (hgX V h)
      have hsl := fun V h hQ => SameLists_eq pa ap pc cp P V hQ (hgP V h)
      go_wp2_with fail
      refine (h19 _ hO hQ).mono ?_
      rintro e Vn ⟨rfl, hb1⟩
      replace hb := hb.trans (hb1.mono hb.size)
      replace x0 := x0.below hb1
      replace y0 := y0.below hb1
      replace hO := hO.below hb1 (Nat.le_refl _)
      replace hQ := hQ.below hb1 (Nat.le_refl _)
      clear hb1 c0 c1 c2 c3 c4 d0 d1 d2 d3 d4
      have c0 := x0.cell 0 rfl; have c1 := x0.cell 1 rfl; have c2 := x0.cell 2 rfl; have c3 := x0.cell 3 rfl; have c4 := x0.cell 4 rfl; have d0 := y0.cell 0 rfl; have d1 := y0.cell 1 rfl; have d2 := y0.cell 2 rfl; have d3 := y0.cell 3 rfl; have d4 := y0.cell 4 rfl
      go_wp2_with fail
      refine (h20 _ hb).mono ?_
      rintro e Vn ⟨rfl, hb1⟩
      replace hb := hb.trans (hb1.mono hb.size)
      replace x0 := x0.below hb1
      replace y0 := y0.below hb1
      replace hO := hO.below hb1 (Nat.le_refl _)
      replace hQ := hQ.below hb1 (Nat.le_refl _)
      clear hb1 c0 c1 c2 c3 c4 d0 d1 d2 d3 d4
      have c0 := x0.cell 0 rfl; have c1 := x0.cell 1 rfl; have c2 := x0.cell 2 rfl; have c3 := x0.cell 3 rfl; have c4 := x0.cell 4 rfl; have d0 := y0.cell 0 rfl; have d1 := y0.cell 1 rfl; have d2 := y0.cell 2 rfl; have d3 := y0.cell 3 rfl; have d4 := y0.cell 4 rfl
      go_wp2_with fail
      refine (h21 _ hO hQ).mono ?_
      rintro e Vn ⟨rfl, hb1⟩
      replace hb := hb.trans (hb1.mono hb.size)
      replace x0 := x0.below hb1
      replace y0 := y0.below hb1
      replace hO := hO.below hb1 (Nat.le_refl _)
      replace hQ := hQ.below hb1 (Nat.le_refl _)
      clear hb1 c0 c1 c2 c3 c4 d0 d1 d2 d3 d4
      have c0 := x0.cell 0 rfl; have c1 := x0.cell 1 rfl; have c2 := x0.cell 2 rfl; have c3 := x0.cell 3 rfl; have c4 := x0.cell 4 rfl; have d0 := y0.cell 0 rfl; have d1 := y0.cell 1 rfl; have d2 := y0.cell 2 rfl; have d3 := y0.cell 3 rfl; have d4 := y0.cell 4 rfl
      go_wp2_with fail
      refine (h22 _ hb).mono ?_
      rintro e Vn ⟨rfl, hb1⟩
      replace hb := hb.trans (hb1.mono hb.size)
      replace x0 := x0.below hb1
      replace y0 := y0.below hb1
      replace hO := hO.below hb1 (Nat.le_refl _)
      replace hQ := hQ.below hb1 (Nat.le_refl _)
      clear hb1 c0 c1 c2 c3 c4 d0 d1 d2 d3 d4
      have c0 := x0.cell 0 rfl; have c1 := x0.cell 1 rfl; have c2 := x0.cell 2 rfl; have c3 := x0.cell 3 rfl; have c4 := x0.cell 4 rfl; have d0 := y0.cell 0 rfl; have d1 := y0.cell 1 rfl; have d2 := y0.cell 2 rfl; have d3 := y0.cell 3 rfl; have d4 := y0.cell 4 rfl
      go_wp2_with fail
      refine (hni _).mono ?_
      rintro e Vn ⟨rfl, hb1⟩
      replace hb := hb.trans (hb1.mono hb.size)
      replace x0 := x0.below hb1
      replace y0 := y0.below hb1
      replace hO := hO.below hb1 (Nat.le_refl _)
      replace hQ := hQ.below hb1 (Nat.le_refl _)
      clear hb1 c0 c1 c2 c3 c4 d0 d1 d2 d3 d4
      have c0 := x0.cell 0 rfl; have c1 := x0.cell 1 rfl; have c2 := x0.cell 2 rfl; have c3 := x0.cell 3 rfl; have c4 := x0.cell 4 rfl; have d0 := y0.cell 0 rfl; have d1 := y0.cell 1 rfl; have d2 := y0.cell 2 rfl; have d3 := y0.cell 3 rfl; have d4 := y0.cell 4 rfl
      go_wp2_with fail
      refine (hsm _ hb hO).mono ?_
      rintro e Vn ⟨rfl, hb1⟩
      replace hb := hb.trans (hb1.mono hb.size)
      replace x0 := x0.below hb1
      replace y0 := y0.below hb1
      replace hO := hO.below hb1 (Nat.le_refl _)
      replace hQ := hQ.below hb1 (Nat.le_refl _)
      clear hb1 c0 c1 c2 c3 c4 d0 d1 d2 d3 d4
      have c0 := x0.cell 0 rfl; have c1 := x0.cell 1 rfl; have c2 := x0.cell 2 rfl; have c3 := x0.cell 3 rfl; have c4 := x0.cell 4 rfl; have d0 := y0.cell 0 rfl; have d1 := y0.cell 1 rfl; have d2 := y0.cell 2 rfl; have d3 := y0.cell 3 rfl; have d4 := y0.cell 4 rfl
      go_wp2_with fail
      refine (hsl _ hb hQ).mono ?_
      rintro e Vn ⟨rfl, hb1⟩
      replace hb := hb.trans (hb1.mono hb.size)
      replace x0 := x0.below hb1
      replace y0 := y0.below hb1
      replace hO := hO.below hb1 (Nat.le_refl _)
      replace hQ := hQ.below hb1 (Nat.le_refl _)
      clear hb1 c0 c1 c2 c3 c4 d0 d1 d2 d3 d4
      have c0 := x0.cell 0 rfl; have c1 := x0.cell 1 rfl; have c2 := x0.cell 2 rfl; have c3 := x0.cell 3 rfl; have c4 := x0.cell 4 rfl; have d0 := y0.cell 0 rfl; have d1 := y0.cell 1 rfl; have d2 := y0.cell 2 rfl; have d3 := y0.cell 3 rfl; have d4 := y0.cell 4 rfl
      go_wp2_with fail
      refine (hW _).mono ?_
      rintro e Vw ⟨rfl, hb1⟩
      replace hb := hb.trans (hb1.mono hb.size)
      go_wp2
      go_ret
      exact ⟨rfl, hb⟩
    · skip
      have h19 := fun V hO hQ => Fits_ok oab oast oae oak ocb ocs oce ock X pa pc P V hO hQ hv hpl
      have h20 := fun V h => RFits_ok ab ast ae ak cb cs ce ck X ap cp P V (hgX V h) (hgP V h) hv hpl
      have h21 := fun V hO hQ => Earns_ok oab oast oae oak ocb ocs oce ock X pa pc P V hO hQ hv hpl
      have h22 := fun V h => REarns_ok ab ast ae ak cb cs ce ck X ap cp P V (hgX V h) (hgP V h) hv hpl
      have hell : (earL X.vz (planM P) X.bs.length).length = X.bs.length := earL_len _ _ _
      generalize earn X.vz (planM P) = en at *
      generalize earL X.vz (planM P) X.bs.length = el at *
      generalize fitA X.vz (planM P) = fa at *
      have hsi := fun a b c d V h1 h2 => SameInts_eq a b c d el V h1 h2
      rw [hell] at hsi
      have hsm := fun V h hO => same_eq oab oast oae oak ab ast ae ak ocb ocs oce ock cb cs ce ck X V hO (hgX V h)
      have hsl := fun V h hQ => SameLists_eq pa ap pc cp P V hQ (hgP V h)
      go_wp2_with fail
      refine (h19 _ hO hQ).mono ?_
      rintro e Vn ⟨rfl, hb1⟩
      replace hb := hb.trans (hb1.mono hb.size)
      replace x0 := x0.below hb1
      replace y0 := y0.below hb1
      replace hO := hO.below hb1 (Nat.le_refl _)
      replace hQ := hQ.below hb1 (Nat.le_refl _)
      clear hb1 c0 c1 c2 c3 c4 d0 d1 d2 d3 d4
      have c0 := x0.cell 0 rfl; have c1 := x0.cell 1 rfl; have c2 := x0.cell 2 rfl; have c3 := x0.cell 3 rfl; have c4 := x0.cell 4 rfl; have d0 := y0.cell 0 rfl; have d1 := y0.cell 1 rfl; have d2 := y0.cell 2 rfl; have d3 := y0.cell 3 rfl; have d4 := y0.cell 4 rfl
      go_wp2_with fail
      refine (h20 _ hb).mono ?_
      rintro e Vn ⟨rfl, hb1⟩
      replace hb := hb.trans (hb1.mono hb.size)
      replace x0 := x0.below hb1
      replace y0 := y0.below hb1
      replace hO := hO.below hb1 (Nat.le_refl _)
      replace hQ := hQ.below hb1 (Nat.le_refl _)
      clear hb1 c0 c1 c2 c3 c4 d0 d1 d2 d3 d4
      have c0 := x0.cell 0 rfl; have c1 := x0.cell 1 rfl; have c2 := x0.cell 2 rfl; have c3 := x0.cell 3 rfl; have c4 := x0.cell 4 rfl; have d0 := y0.cell 0 rfl; have d1 := y0.cell 1 rfl; have d2 := y0.cell 2 rfl; have d3 := y0.cell 3 rfl; have d4 := y0.cell 4 rfl
      go_wp2_with fail
      refine (h21 _ hO hQ).mono ?_
      rintro e Vn ⟨hb1, a3, rfl, hI1⟩
      replace hb := hb.trans (hb1.mono hb.size)
      replace x0 := x0.below hb1
      replace y0 := y0.below hb1
      replace hO := hO.below hb1 (Nat.le_refl _)
      replace hQ := hQ.below hb1 (Nat.le_refl _)
      clear hb1 c0 c1 c2 c3 c4 d0 d1 d2 d3 d4
      have c0 := x0.cell 0 rfl; have c1 := x0.cell 1 rfl; have c2 := x0.cell 2 rfl; have c3 := x0.cell 3 rfl; have c4 := x0.cell 4 rfl; have d0 := y0.cell 0 rfl; have d1 := y0.cell 1 rfl; have d2 := y0.cell 2 rfl; have d3 := y0.cell 3 rfl; have d4 := y0.cell 4 rfl
      go_wp2_with fail
      refine (h22 _ hb).mono ?_
      rintro e Vn ⟨hb1, a4, c4', rfl, hI2⟩
      replace hb := hb.trans (hb1.mono hb.size)
      replace x0 := x0.below hb1
      replace y0 := y0.below hb1
      replace hO := hO.below hb1 (Nat.le_refl _)
      replace hQ := hQ.below hb1 (Nat.le_refl _)
      replace hI1 := hI1.below hb1 (Nat.le_refl _)
      clear hb1 c0 c1 c2 c3 c4 d0 d1 d2 d3 d4
      have c0 := x0.cell 0 rfl; have c1 := x0.cell 1 rfl; have c2 := x0.cell 2 rfl; have c3 := x0.cell 3 rfl; have c4 := x0.cell 4 rfl; have d0 := y0.cell 0 rfl; have d1 := y0.cell 1 rfl; have d2 := y0.cell 2 rfl; have d3 := y0.cell 3 rfl; have d4 := y0.cell 4 rfl
      go_wp2_with fail
      refine (hsi _ _ _ _ _ hI1 hI2).mono ?_
      rintro e Vn ⟨rfl, hb1⟩
      replace hb := hb.trans (hb1.mono hb.size)
      replace x0 := x0.below hb1
      replace y0 := y0.below hb1
      replace hO := hO.below hb1 (Nat.le_refl _)
      replace hQ := hQ.below hb1 (Nat.le_refl _)
      clear hb1 c0 c1 c2 c3 c4 d0 d1 d2 d3 d4
      have c0 := x0.cell 0 rfl; have c1 := x0.cell 1 rfl; have c2 := x0.cell 2 rfl; have c3 := x0.cell 3 rfl; have c4 := x0.cell 4 rfl; have d0 := y0.cell 0 rfl; have d1 := y0.cell 1 rfl; have d2 := y0.cell 2 rfl; have d3 := y0.cell 3 rfl; have d4 := y0.cell 4 rfl
      clear hI1 hI2
      go_wp2_with fail
      refine (hsm _ hb hO).mono ?_
      rintro e Vn ⟨rfl, hb1⟩
      replace hb := hb.trans (hb1.mono hb.size)
      replace x0 := x0.below hb1
      replace y0 := y0.below hb1
      replace hO := hO.below hb1 (Nat.le_refl _)
      replace hQ := hQ.below hb1 (Nat.le_refl _)
      clear hb1 c0 c1 c2 c3 c4 d0 d1 d2 d3 d4
      have c0 := x0.cell 0 rfl; have c1 := x0.cell 1 rfl; have c2 := x0.cell 2 rfl; have c3 := x0.cell 3 rfl; have c4 := x0.cell 4 rfl; have d0 := y0.cell 0 rfl; have d1 := y0.cell 1 rfl; have d2 := y0.cell 2 rfl; have d3 := y0.cell 3 rfl; have d4 := y0.cell 4 rfl
      go_wp2_with fail
      refine (hsl _ hb hQ).mono ?_
      rintro e Vn ⟨rfl, hb1⟩
      replace hb := hb.trans (hb1.mono hb.size)
      replace x0 := x0.below hb1
      replace y0 := y0.below hb1
      replace hO := hO.below hb1 (Nat.le_refl _)
      replace hQ := hQ.below hb1 (Nat.le_refl _)
      clear hb1 c0 c1 c2 c3 c4 d0 d1 d2 d3 d4
      have c0 := x0.cell 0 rfl; have c1 := x0.cell 1 rfl; have c2 := x0.cell 2 rfl; have c3 := x0.cell 3 rfl; have c4 := x0.cell 4 rfl; have d0 := y0.cell 0 rfl; have d1 := y0.cell 1 rfl; have d2 := y0.cell 2 rfl; have d3 := y0.cell 3 rfl; have d4 := y0.cell 4 rfl
      go_wp2_with fail
      refine (hW _).mono ?_
      rintro e Vw ⟨rfl, hb1⟩
      replace hb := hb.trans (hb1.mono hb.size)
      go_wp2
      go_ret
      exact ⟨rfl, hb⟩

theorem swapsFits_row (ab ast ae ak : Option Addr) (cb cs ce ck : Nat) (X : Sw) (ap : Option Addr) (cp : Nat) (P : List (List Int)) (w : World) (hX : SwIn w ab ast ae ak X) (hP : Lss w ap P) : Calls Try.prog 3 #[.agg #[.slice ab X.bs.length cb, .slice ast X.st.length cs, .slice ae X.er.length ce, .slice ak X.ks.length ck, .int .i64 X.ch], .slice ap P.length cp] w fun e w' => e = .returned (.bool true) ∧ Below w.heap.size w w' := by
  by_cases h : farL X.bs = true ∨ farL X.er = true ∨ 40 < X.st.length ∨ 40 < X.ks.length ∨ farL P = true
  · exact Fits_far ab ast ae ak cb cs ce ck X ap cp P w hX hP h
  · simp only [not_or, Bool.not_eq_true] at h
    exact swapsFits_near ab ast ae ak cb cs ce ck X ap cp P w (hX.swp (by omega)) hP h.1 h.2.1 (by omega) (by omega) h.2.2.2.2
end Go.Proofs.Ytipdohpbilabiaa
