import Derived.Test.YtipdohpbilabiaaVJ
import Derived.Test.YtipdohpbilabiaaM2
/-! The theorem of the fewest changes. -/
namespace Go.Proofs.Ytipdohpbilabiaa
set_option linter.unusedSimpArgs false
set_option linter.unusedVariables false
open Go Go.RowKit

theorem few_law (ab ast ae ak : Option Addr) (cb cs ce ck : Nat) (X : Sw) (hv : vB X = true) (goal : Int) (h0 : 0 ≤ goal) (h1 : goal ≤ 99999) (m f : Int) (hm : m = if (fewV X.vz goal).2 then (fewV X.vz goal).1 else 0) (hf : f = if (fewV X.vz goal).2 then 0 else 3) (V : World) (hX : Swp V ab ast ae ak X) : Calls Try.prog 38 #[.agg #[.slice ab X.bs.length cb, .slice ast X.st.length cs, .slice ae X.er.length ce, .slice ak X.ks.length ck, .int .i64 X.ch], .int .i64 goal] V fun e w' => e = .returned (.tuple #[.int .i64 m, .int .i64 f]) ∧ Below V.heap.size V w' := by
  subst hm hf
  exact Fewest_ok ab ast ae ak cb cs ce ck X goal V hX hv (inI_iff.2 ⟨h0, h1⟩) _ _ rfl

set_option maxRecDepth 100000 in
set_option maxHeartbeats 4000000 in
theorem Goal_bad (ab ast ae ak : Option Addr) (cb cs ce ck : Nat) (X : Sw) (goal more : Int) (w : World) (rb : Bool) (hrd0 : ∀ V, Below w.heap.size w V → Calls Try.prog 44 #[.agg #[.slice ab X.bs.length cb, .slice ast X.st.length cs, .slice ae X.er.length ce, .slice ak X.ks.length ck, .int .i64 X.ch]] V fun e w' => e = .returned (.bool rb) ∧ Below V.heap.size V w') (h : ¬ (rb = true ∧ 0 ≤ goal ∧ 0 ≤ more ∧ goal ≤ 99999 ∧ more ≤ 99999 ∧ goal + more ≤ 99999)) : Calls Try.prog 11 #[.agg #[.slice ab X.bs.length cb, .slice ast X.st.length cs, .slice ae X.er.length ce, .slice ak X.ks.length ck, .int .i64 X.ch], .int .i64 goal, .int .i64 more] w fun e w' => e = .returned (.bool true) ∧ Below w.heap.size w w' := by
  obtain ⟨W, hWW, hb, _, x0⟩ := boxes1 w #[.slice ab X.bs.length cb, .slice ast X.st.length cs, .slice ae X.er.length ce, .slice ak X.ks.length ck, .int .i64 X.ch] 26
  have hrd := hrd0
  have hW := works_any
  have c0 := x0.cell 0 rfl; have c1 := x0.cell 1 rfl; have c2 := x0.cell 2 rfl; have c3 := x0.cell 3 rfl; have c4 := x0.cell 4 rfl
  clear hrd0
  cases rb
  · clear h
    go_enter Try.func11, Try.ntmps11
    go_wp2_with fail
    refine (hrd _ hb).mono ?_
    rintro e V1 ⟨rfl, hb1⟩
    replace hb := hb.trans (hb1.mono hb.size)
    replace x0 := x0.below hb1
    clear c0 c1 c2 c3 c4 hb1 hrd
    go_wp2_with fail
    refine (hW _).mono ?_
    rintro e Vw ⟨rfl, hb1⟩
    replace hb := hb.trans (hb1.mono hb.size)
    go_wp2
    go_ret
    exact ⟨rfl, hb⟩
  · by_cases h2 : 0 ≤ goal
    · by_cases h3 : 0 ≤ more
      · by_cases h4 : goal ≤ 99999
        · by_cases h5 : more ≤ 99999
          · have h6 : (99999 : Int) < goal + more := by
              have : ¬ goal + more ≤ 99999 := fun h6 => h ⟨rfl, h2, h3, h4, h5, h6⟩
              omega
            have hwr : IntKind.i64.wrap (goal + more) = goal + more := IntWalk.i64_in _ (by omega)
            clear h
            go_enter Try.func11, Try.ntmps11
            go_wp2_with fail
            refine (hrd _ hb).mono ?_
            rintro e V1 ⟨rfl, hb1⟩
            replace hb := hb.trans (hb1.mono hb.size)
            replace x0 := x0.below hb1
            clear c0 c1 c2 c3 c4 hb1 hrd
            go_wp2_with fail
            refine (hW _).mono ?_
            rintro e Vw ⟨rfl, hb1⟩
            replace hb := hb.trans (hb1.mono hb.size)
            go_wp2
            go_ret
            exact ⟨rfl, hb⟩
          · have h5' : (99999 : Int) < more := by omega
            clear h h5
            go_enter Try.func11, Try.ntmps11
            go_wp2_with fail
            refine (hrd _ hb).mono ?_
            rintro e V1 ⟨rfl, hb1⟩
            replace hb := hb.trans (hb1.mono hb.size)
            replace x0 := x0.below hb1
            clear c0 c1 c2 c3 c4 hb1 hrd
            go_wp2_with fail
            refine (hW _).mono ?_
            rintro e Vw ⟨rfl, hb1⟩
            replace hb := hb.trans (hb1.mono hb.size)
            go_wp2
            go_ret
            exact ⟨rfl, hb⟩
        · have h4' : (99999 : Int) < goal := by omega
          clear h h4
          go_enter Try.func11, Try.ntmps11
          go_wp2_with fail
          refine (hrd _ hb).mono ?_
          rintro e V1 ⟨rfl, hb1⟩
          replace hb := hb.trans (hb1.mono hb.size)
          replace x0 := x0.below hb1
          clear c0 c1 c2 c3 c4 hb1 hrd
          go_wp2_with fail
          refine (hW _).mono ?_
          rintro e Vw ⟨rfl, hb1⟩
          replace hb := hb.trans (hb1.mono hb.size)
          go_wp2
          go_ret
          exact ⟨rfl, hb⟩
      · have h3' : more < 0 := by omega
        clear h h3
        go_enter Try.func11, Try.ntmps11
        go_wp2_with fail
        refine (hrd _ hb).mono ?_
        rintro e V1 ⟨rfl, hb1⟩
        replace hb := hb.trans (hb1.mono hb.size)
        replace x0 := x0.below hb1
        clear c0 c1 c2 c3 c4 hb1 hrd
        go_wp2_with fail
        refine (hW _).mono ?_
        rintro e Vw ⟨rfl, hb1⟩
        replace hb := hb.trans (hb1.mono hb.size)
        go_wp2
        go_ret
        exact ⟨rfl, hb⟩
    · have h2' : goal < 0 := by omega
      clear h h2
      go_enter Try.func11, Try.ntmps11
      go_wp2_with fail
      refine (hrd _ hb).mono ?_
      rintro e V1 ⟨rfl, hb1⟩
      replace hb := hb.trans (hb1.mono hb.size)
      replace x0 := x0.below hb1
      clear c0 c1 c2 c3 c4 hb1 hrd
      go_wp2_with fail
      refine (hW _).mono ?_
      rintro e Vw ⟨rfl, hb1⟩
      replace hb := hb.trans (hb1.mono hb.size)
      go_wp2
      go_ret
      exact ⟨rfl, hb⟩


set_option maxRecDepth 100000 in
set_option maxHeartbeats 8000000 in
theorem swapsGoal_any (ab ast ae ak : Option Addr) (cb cs ce ck : Nat) (X : Sw) (goal more : Int) (w : World) (hX : Swp w ab ast ae ak X) : Calls Try.prog 11 #[.agg #[.slice ab X.bs.length cb, .slice ast X.st.length cs, .slice ae X.er.length ce, .slice ak X.ks.length ck, .int .i64 X.ch], .int .i64 goal, .int .i64 more] w fun e w' => e = .returned (.bool true) ∧ Below w.heap.size w w' := by
  by_cases h : ¬ (rdB X = true ∧ 0 ≤ goal ∧ 0 ≤ more ∧ goal ≤ 99999 ∧ more ≤ 99999 ∧ goal + more ≤ 99999)
  · exact Goal_bad ab ast ae ak cb cs ce ck X goal more w (rdB X) (fun V hV => ready_any ab ast ae ak cb cs ce ck X V (hX.below hV (Nat.le_refl _))) h
  obtain ⟨hr, g0, m0, g9, m9, gm9⟩ := Classical.not_not.1 h
  clear h
  have hv := (rdB_iff hr).1
  have hok := vB_iff hv
  obtain ⟨W, hWW, hb, _, x0⟩ := boxes1 w #[.slice ab X.bs.length cb, .slice ast X.st.length cs, .slice ae X.er.length ce, .slice ak X.ks.length ck, .int .i64 X.ch] 26
  have hgX := fun V (h : Below w.heap.size w V) => hX.below h (Nat.le_refl _)
  have hrd := fun V h => ready_any ab ast ae ak cb cs ce ck X V (hgX V h)
  rw [hr] at hrd
  have hW := works_any
  have hk0 := isKnown_any 0
  have hk3 := isKnown_any 3
  rw [show (decide ((0 : Int) = 0) || decide ((0 : Int) = 3)) = true from rfl] at hk0
  rw [show (decide ((3 : Int) = 0) || decide ((3 : Int) = 3)) = true from rfl] at hk3
  have hwr : IntKind.i64.wrap (goal + more) = goal + more := IntWalk.i64_in _ (by omega)
  obtain ⟨nw, hnw⟩ : ∃ x, x = earn X.vz X.vz.now := ⟨_, rfl⟩
  have hnl := earn_le (vz_ok hok) X.vz.now
  have hea : ∀ V, Swp V ab ast ae ak X → Calls Try.prog 37 #[.agg #[.slice ab X.bs.length cb, .slice ast X.st.length cs, .slice ae X.er.length ce, .slice ak X.ks.length ck, .int .i64 X.ch], .slice ab X.bs.length cb] V fun e w' => e = .returned (.int .i64 nw) ∧ Below V.heap.size V w' := fun V h => by
    have h1 := EarnsAll_any ab ast ae ak cb cs ce ck X hok ab cb X.bs rfl (fun l hl => ⟨by
      obtain ⟨i, hi, rfl⟩ := mem_getD [] hl
      have := (hok.b3 i hi).1
      omega, hok.title l hl⟩) V h h.1
    rw [earn_now hok, ← hnw] at h1
    exact h1
  rw [← hnw] at hnl
  have hf0 : ∀ V, Swp V ab ast ae ak X → Calls Try.prog 38 #[.agg #[.slice ab X.bs.length cb, .slice ast X.st.length cs, .slice ae X.er.length ce, .slice ak X.ks.length ck, .int .i64 X.ch], .int .i64 (nw)] V fun e w' => e = .returned (.tuple #[.int .i64 0, .int .i64 0]) ∧ Below V.heap.size V w' := fun V h => few_law ab ast ae ak cb cs ce ck X hv nw hnl.1 (by omega) 0 0 (by rw [hnw, few_now hok]; rfl) (by rw [hnw, few_now hok]; rfl) V h
  obtain ⟨be, hbe0⟩ : ∃ x, x = earn X.vz (bestP X.vz) := ⟨_, rfl⟩
  have hbe : ∀ V, Swp V ab ast ae ak X → Calls Try.prog 27 #[.agg #[.slice ab X.bs.length cb, .slice ast X.st.length cs, .slice ae X.er.length ce, .slice ak X.ks.length ck, .int .i64 X.ch]] V fun e w' => e = .returned (.tuple #[.int .i64 be, .int .i64 0]) ∧ Below V.heap.size V w' := fun V h => by
    rw [hbe0]
    exact Best_ok ab ast ae ak cb cs ce ck X V h hv
  obtain ⟨a1, a2⟩ := few_facts hok goal
  obtain ⟨b1, b2⟩ := few_facts hok (goal + more)
  have hmo := few_more (X := X) goal (goal + more) (by omega)
  rw [← hbe0] at a1 b1
  have hL1 := few_law ab ast ae ak cb cs ce ck X hv goal g0 g9
  have hL2 := few_law ab ast ae ak cb cs ce ck X hv (goal + more) (by omega) gm9
  rcases hq1 : fewV X.vz goal with ⟨y1, o1⟩
  rcases hq2 : fewV X.vz (goal + more) with ⟨y2, o2⟩
  rw [hq1] at hL1 a1 a2 hmo
  rw [hq2] at hL2 b1 b2 hmo
  have c0 := x0.cell 0 rfl; have c1 := x0.cell 1 rfl; have c2 := x0.cell 2 rfl; have c3 := x0.cell 3 rfl; have c4 := x0.cell 4 rfl
  clear hX hq1 hq2 hnw hbe0 hok hv hr hnl
  simp only at a1 a2 b1 b2 hmo hL1 hL2
  by_cases h1 : goal ≤ be
  · rw [decide_eq_true h1] at a1
    subst a1
    have y10 := a2 rfl
    have hf1 : ∀ V, Swp V ab ast ae ak X → Calls Try.prog 38 #[.agg #[.slice ab X.bs.length cb, .slice ast X.st.length cs, .slice ae X.er.length ce, .slice ak X.ks.length ck, .int .i64 X.ch], .int .i64 (goal)] V fun e w' => e = .returned (.tuple #[.int .i64 y1, .int .i64 0]) ∧ Below V.heap.size V w' := fun V h => hL1 y1 0 rfl rfl V h
    by_cases h2 : goal + more ≤ be
    · rw [decide_eq_true h2] at b1
      subst b1
      have y12 := hmo rfl
      have y20 := b2 rfl
      have hf2 : ∀ V, Swp V ab ast ae ak X → Calls Try.prog 38 #[.agg #[.slice ab X.bs.length cb, .slice ast X.st.length cs, .slice ae X.er.length ce, .slice ak X.ks.length ck, .int .i64 X.ch], .int .i64 (goal + more)] V fun e w' => e = .returned (.tuple #[.int .i64 y2, .int .i64 0]) ∧ Below V.heap.size V w' := fun V h => hL2 y2 0 rfl rfl V h
      clear hL1 hL2 a2 b2 hmo
      go_enter Try.func11, Try.ntmps11
      go_wp2_with fail
      refine (hrd _ hb).mono ?_
      rintro e V1 ⟨rfl, hb1⟩
      replace hb := hb.trans (hb1.mono hb.size)
      replace x0 := x0.below hb1
      clear c0 c1 c2 c3 c4 hb1 hrd
      go_upto_region 3 with fail
      have hbd := (Below.refl V1.heap.size V1).drew
      have S0 := x0.below hbd
      replace hb := hb.trans (hbd.mono hb.size)
      clear hbd x0
      refine wp_region_head 10 (fun w' => Bx w' w.heap.size #[.slice ab X.bs.length cb, .slice ast X.st.length cs, .slice ae X.er.length ce, .slice ak X.ks.length ck, .int .i64 X.ch] 26) (by kernel_rfl) rfl ?_
      generalize V1.drew = Y0 at *
      refine HeadAt.take (i := 0) (.agg #[.slice ab X.bs.length cb, .slice ast X.st.length cs, .slice ae X.er.length ce, .slice ak X.ks.length ck, .int .i64 X.ch]) rfl (by kernel_rfl) (.inl ⟨rfl, fun w' z => ?_⟩) S0 ?_
      · (have z0 := z.cell 0 rfl; have z1 := z.cell 1 rfl; have z2 := z.cell 2 rfl; have z3 := z.cell 3 rfl; have z4 := z.cell 4 rfl; simp [go_sem, z0, z1, z2, z3, z4])
      refine HeadAt.take (i := 1) (.agg #[.slice ab X.bs.length cb, .slice ast X.st.length cs, .slice ae X.er.length ce, .slice ak X.ks.length ck, .int .i64 X.ch]) rfl (by kernel_rfl) (.inl ⟨rfl, fun w' z => ?_⟩) S0 ?_
      · (have z0 := z.cell 0 rfl; have z1 := z.cell 1 rfl; have z2 := z.cell 2 rfl; have z3 := z.cell 3 rfl; have z4 := z.cell 4 rfl; simp [go_sem, z0, z1, z2, z3, z4])
      refine HeadAt.take (i := 2) (.pointer (some ⟨w.heap.size, 0, none⟩)) rfl (by kernel_rfl) (.inl ⟨rfl, fun _ _ => by simp [go_sem]⟩) S0 ?_
      (try simp only [Act.put, List.getElem_toArray, List.getElem_cons_succ, List.getElem_cons_zero, List.setIfInBounds_toArray, List.set_cons_succ, List.set_cons_zero])
      refine HeadAt.take (i := 3) (.slice ab X.bs.length cb) rfl (by kernel_rfl) (.inl ⟨rfl, fun w' z => ?_⟩) S0 ?_
      · (have z0 := z.cell 0 rfl; simp [go_sem, z0])
      (try simp only [Act.put, List.getElem_toArray, List.getElem_cons_succ, List.getElem_cons_zero, List.setIfInBounds_toArray, List.set_cons_succ, List.set_cons_zero])
      refine HeadAt.one (i := 4) rfl (by kernel_rfl) ?_
      generalize hK : Upto _ _ = K0
      (try simp only [Act.put, List.getElem_toArray, List.getElem_cons_succ, List.getElem_cons_zero, List.setIfInBounds_toArray, List.set_cons_succ, List.set_cons_zero])
      go_wp2_with fail
      refine (hea _ (hgX _ hb)).mono ?_
      rintro e V2 ⟨rfl, hb1⟩
      replace S0 := S0.below hb1
      replace hb := hb.trans (hb1.mono hb.size)
      clear hb1
      go_wp2_with fail
      subst hK
      refine ⟨S0, ?_⟩
      (try simp only [Act.put, List.getElem_toArray, List.getElem_cons_succ, List.getElem_cons_zero, List.setIfInBounds_toArray, List.set_cons_succ, List.set_cons_zero])
      refine HeadAt.one (i := 5) rfl (by kernel_rfl) ?_
      generalize hK : Upto _ _ = K0
      (try simp only [Act.put, List.getElem_toArray, List.getElem_cons_succ, List.getElem_cons_zero, List.setIfInBounds_toArray, List.set_cons_succ, List.set_cons_zero])
      go_wp2_with fail
      refine (hf0 _ (hgX _ hb)).mono ?_
      rintro e V3 ⟨rfl, hb1⟩
      replace S0 := S0.below hb1
      replace hb := hb.trans (hb1.mono hb.size)
      clear hb1
      go_wp2_with fail
      subst hK
      refine ⟨S0, ?_⟩
      (try simp only [Act.put, List.getElem_toArray, List.getElem_cons_succ, List.getElem_cons_zero, List.setIfInBounds_toArray, List.set_cons_succ, List.set_cons_zero])
      refine HeadAt.take (i := 6) (.tuple #[.int .i64 0, .int .i64 0]) rfl (by kernel_rfl) (.inl ⟨rfl, fun _ _ => by simp [go_sem]⟩) S0 ?_
      (try simp only [Act.put, List.getElem_toArray, List.getElem_cons_succ, List.getElem_cons_zero, List.setIfInBounds_toArray, List.set_cons_succ, List.set_cons_zero])
      refine HeadAt.take (i := 7) (.int .i64 0) rfl (by kernel_rfl) (.inl ⟨rfl, fun _ _ => by simp [go_sem]⟩) S0 ?_
      (try simp only [Act.put, List.getElem_toArray, List.getElem_cons_succ, List.getElem_cons_zero, List.setIfInBounds_toArray, List.set_cons_succ, List.set_cons_zero])
      refine HeadAt.take (i := 8) (.int .i64 0) rfl (by kernel_rfl) (.inl ⟨rfl, fun _ _ => by simp [go_sem]⟩) S0 ?_
      (try simp only [Act.put, List.getElem_toArray, List.getElem_cons_succ, List.getElem_cons_zero, List.setIfInBounds_toArray, List.set_cons_succ, List.set_cons_zero])
      refine HeadAt.take (i := 9) (.int .i64 0) rfl (by kernel_rfl) (.inl ⟨rfl, fun _ _ => by simp [go_sem]⟩) S0 ?_
      (try simp only [Act.put, List.getElem_toArray, List.getElem_cons_succ, List.getElem_cons_zero, List.setIfInBounds_toArray, List.set_cons_succ, List.set_cons_zero])
      refine HeadAt.done (by kernel_rfl) ?_
      (try simp only [Act.put, List.drop_succ_cons, List.drop_zero, List.getElem_toArray, List.getElem_cons_succ, List.getElem_cons_zero])
      go_wp2_with fail
      refine NoPanic.normal ?_
      have x0 := S0
      clear S0 hea hf0
      have c0 := x0.cell 0 rfl; have c1 := x0.cell 1 rfl; have c2 := x0.cell 2 rfl; have c3 := x0.cell 3 rfl; have c4 := x0.cell 4 rfl
      go_wp2_with fail
      refine (hf1 _ (hgX _ hb)).mono ?_
      rintro e Vn ⟨rfl, hb1⟩
      replace hb := hb.trans (hb1.mono hb.size)
      replace x0 := x0.below hb1
      clear hb1 c0 c1 c2 c3 c4
      have c0 := x0.cell 0 rfl; have c1 := x0.cell 1 rfl; have c2 := x0.cell 2 rfl; have c3 := x0.cell 3 rfl; have c4 := x0.cell 4 rfl
      go_wp2_with fail
      refine (hf2 _ (hgX _ hb)).mono ?_
      rintro e Vn ⟨rfl, hb1⟩
      replace hb := hb.trans (hb1.mono hb.size)
      replace x0 := x0.below hb1
      clear hb1 c0 c1 c2 c3 c4
      have c0 := x0.cell 0 rfl; have c1 := x0.cell 1 rfl; have c2 := x0.cell 2 rfl; have c3 := x0.cell 3 rfl; have c4 := x0.cell 4 rfl
      go_wp2_with fail
      refine (hbe _ (hgX _ hb)).mono ?_
      rintro e Vn ⟨rfl, hb1⟩
      replace hb := hb.trans (hb1.mono hb.size)
      replace x0 := x0.below hb1
      clear hb1 c0 c1 c2 c3 c4
      have c0 := x0.cell 0 rfl; have c1 := x0.cell 1 rfl; have c2 := x0.cell 2 rfl; have c3 := x0.cell 3 rfl; have c4 := x0.cell 4 rfl
      clear hf1 hf2 hbe hgX c0 c1 c2 c3 c4 x0
      go_wp2_with fail
      refine (hk0 _).mono ?_
      rintro e Vm ⟨rfl, rfl⟩
      go_wp2_with fail
      refine (hk0 _).mono ?_
      rintro e Vm ⟨rfl, rfl⟩
      go_wp2_with fail
      refine (hW _).mono ?_
      rintro e Vw ⟨rfl, hb1⟩
      replace hb := hb.trans (hb1.mono hb.size)
      go_wp2
      go_ret
      exact ⟨rfl, hb⟩
    · rw [decide_eq_false h2] at b1
      subst b1
      have h2' : be < goal + more := by omega
      have hf2 : ∀ V, Swp V ab ast ae ak X → Calls Try.prog 38 #[.agg #[.slice ab X.bs.length cb, .slice ast X.st.length cs, .slice ae X.er.length ce, .slice ak X.ks.length ck, .int .i64 X.ch], .int .i64 (goal + more)] V fun e w' => e = .returned (.tuple #[.int .i64 0, .int .i64 3]) ∧ Below V.heap.size V w' := fun V h => hL2 0 3 rfl rfl V h
      clear hL1 hL2 a2 b2 hmo h2
      go_enter Try.func11, Try.ntmps11
      go_wp2_with fail
      refine (hrd _ hb).mono ?_
      rintro e V1 ⟨rfl, hb1⟩
      replace hb := hb.trans (hb1.mono hb.size)
      replace x0 := x0.below hb1
      clear c0 c1 c2 c3 c4 hb1 hrd
      go_upto_region 3 with fail
      have hbd := (Below.refl V1.heap.size V1).drew
      have S0 := x0.below hbd
      replace hb := hb.trans (hbd.mono hb.size)
      clear hbd x0
      refine wp_region_head 10 (fun w' => Bx w' w.heap.size #[.slice ab X.bs.length cb, .slice ast X.st.length cs, .slice ae X.er.length ce, .slice ak X.ks.length ck, .int .i64 X.ch] 26) (by kernel_rfl) rfl ?_
      generalize V1.drew = Y0 at *
      refine HeadAt.take (i := 0) (.agg #[.slice ab X.bs.length cb, .slice ast X.st.length cs, .slice ae X.er.length ce, .slice ak X.ks.length ck, .int .i64 X.ch]) rfl (by kernel_rfl) (.inl ⟨rfl, fun w' z => ?_⟩) S0 ?_
      · (have z0 := z.cell 0 rfl; have z1 := z.cell 1 rfl; have z2 := z.cell 2 rfl; have z3 := z.cell 3 rfl; have z4 := z.cell 4 rfl; simp [go_sem, z0, z1, z2, z3, z4])
      refine HeadAt.take (i := 1) (.agg #[.slice ab X.bs.length cb, .slice ast X.st.length cs, .slice ae X.er.length ce, .slice ak X.ks.length ck, .int .i64 X.ch]) rfl (by kernel_rfl) (.inl ⟨rfl, fun w' z => ?_⟩) S0 ?_
      · (have z0 := z.cell 0 rfl; have z1 := z.cell 1 rfl; have z2 := z.cell 2 rfl; have z3 := z.cell 3 rfl; have z4 := z.cell 4 rfl; simp [go_sem, z0, z1, z2, z3, z4])
      refine HeadAt.take (i := 2) (.pointer (some ⟨w.heap.size, 0, none⟩)) rfl (by kernel_rfl) (.inl ⟨rfl, fun _ _ => by simp [go_sem]⟩) S0 ?_
      (try simp only [Act.put, List.getElem_toArray, List.getElem_cons_succ, List.getElem_cons_zero, List.setIfInBounds_toArray, List.set_cons_succ, List.set_cons_zero])
      refine HeadAt.take (i := 3) (.slice ab X.bs.length cb) rfl (by kernel_rfl) (.inl ⟨rfl, fun w' z => ?_⟩) S0 ?_
      · (have z0 := z.cell 0 rfl; simp [go_sem, z0])
      (try simp only [Act.put, List.getElem_toArray, List.getElem_cons_succ, List.getElem_cons_zero, List.setIfInBounds_toArray, List.set_cons_succ, List.set_cons_zero])
      refine HeadAt.one (i := 4) rfl (by kernel_rfl) ?_
      generalize hK : Upto _ _ = K0
      (try simp only [Act.put, List.getElem_toArray, List.getElem_cons_succ, List.getElem_cons_zero, List.setIfInBounds_toArray, List.set_cons_succ, List.set_cons_zero])
      go_wp2_with fail
      refine (hea _ (hgX _ hb)).mono ?_
      rintro e V2 ⟨rfl, hb1⟩
      replace S0 := S0.below hb1
      replace hb := hb.trans (hb1.mono hb.size)
      clear hb1
      go_wp2_with fail
      subst hK
      refine ⟨S0, ?_⟩
      (try simp only [Act.put, List.getElem_toArray, List.getElem_cons_succ, List.getElem_cons_zero, List.setIfInBounds_toArray, List.set_cons_succ, List.set_cons_zero])
      refine HeadAt.one (i := 5) rfl (by kernel_rfl) ?_
      generalize hK : Upto _ _ = K0
      (try simp only [Act.put, List.getElem_toArray, List.getElem_cons_succ, List.getElem_cons_zero, List.setIfInBounds_toArray, List.set_cons_succ, List.set_cons_zero])
      go_wp2_with fail
      refine (hf0 _ (hgX _ hb)).mono ?_
      rintro e V3 ⟨rfl, hb1⟩
      replace S0 := S0.below hb1
      replace hb := hb.trans (hb1.mono hb.size)
      clear hb1
      go_wp2_with fail
      subst hK
      refine ⟨S0, ?_⟩
      (try simp only [Act.put, List.getElem_toArray, List.getElem_cons_succ, List.getElem_cons_zero, List.setIfInBounds_toArray, List.set_cons_succ, List.set_cons_zero])
      refine HeadAt.take (i := 6) (.tuple #[.int .i64 0, .int .i64 0]) rfl (by kernel_rfl) (.inl ⟨rfl, fun _ _ => by simp [go_sem]⟩) S0 ?_
      (try simp only [Act.put, List.getElem_toArray, List.getElem_cons_succ, List.getElem_cons_zero, List.setIfInBounds_toArray, List.set_cons_succ, List.set_cons_zero])
      refine HeadAt.take (i := 7) (.int .i64 0) rfl (by kernel_rfl) (.inl ⟨rfl, fun _ _ => by simp [go_sem]⟩) S0 ?_
      (try simp only [Act.put, List.getElem_toArray, List.getElem_cons_succ, List.getElem_cons_zero, List.setIfInBounds_toArray, List.set_cons_succ, List.set_cons_zero])
      refine HeadAt.take (i := 8) (.int .i64 0) rfl (by kernel_rfl) (.inl ⟨rfl, fun _ _ => by simp [go_sem]⟩) S0 ?_
      (try simp only [Act.put, List.getElem_toArray, List.getElem_cons_succ, List.getElem_cons_zero, List.setIfInBounds_toArray, List.set_cons_succ, List.set_cons_zero])
      refine HeadAt.take (i := 9) (.int .i64 0) rfl (by kernel_rfl) (.inl ⟨rfl, fun _ _ => by simp [go_sem]⟩) S0 ?_
      (try simp only [Act.put, List.getElem_toArray, List.getElem_cons_succ, List.getElem_cons_zero, List.setIfInBounds_toArray, List.set_cons_succ, List.set_cons_zero])
      refine HeadAt.done (by kernel_rfl) ?_
      (try simp only [Act.put, List.drop_succ_cons, List.drop_zero, List.getElem_toArray, List.getElem_cons_succ, List.getElem_cons_zero])
      go_wp2_with fail
      refine NoPanic.normal ?_
      have x0 := S0
      clear S0 hea hf0
      have c0 := x0.cell 0 rfl; have c1 := x0.cell 1 rfl; have c2 := x0.cell 2 rfl; have c3 := x0.cell 3 rfl; have c4 := x0.cell 4 rfl
      go_wp2_with fail
      refine (hf1 _ (hgX _ hb)).mono ?_
      rintro e Vn ⟨rfl, hb1⟩
      replace hb := hb.trans (hb1.mono hb.size)
      replace x0 := x0.below hb1
      clear hb1 c0 c1 c2 c3 c4
      have c0 := x0.cell 0 rfl; have c1 := x0.cell 1 rfl; have c2 := x0.cell 2 rfl; have c3 := x0.cell 3 rfl; have c4 := x0.cell 4 rfl
      go_wp2_with fail
      refine (hf2 _ (hgX _ hb)).mono ?_
      rintro e Vn ⟨rfl, hb1⟩
      replace hb := hb.trans (hb1.mono hb.size)
      replace x0 := x0.below hb1
      clear hb1 c0 c1 c2 c3 c4
      have c0 := x0.cell 0 rfl; have c1 := x0.cell 1 rfl; have c2 := x0.cell 2 rfl; have c3 := x0.cell 3 rfl; have c4 := x0.cell 4 rfl
      go_wp2_with fail
      refine (hbe _ (hgX _ hb)).mono ?_
      rintro e Vn ⟨rfl, hb1⟩
      replace hb := hb.trans (hb1.mono hb.size)
      replace x0 := x0.below hb1
      clear hb1 c0 c1 c2 c3 c4
      have c0 := x0.cell 0 rfl; have c1 := x0.cell 1 rfl; have c2 := x0.cell 2 rfl; have c3 := x0.cell 3 rfl; have c4 := x0.cell 4 rfl
      clear hf1 hf2 hbe hgX c0 c1 c2 c3 c4 x0
      go_wp2_with fail
      refine (hk0 _).mono ?_
      rintro e Vm ⟨rfl, rfl⟩
      go_wp2_with fail
      refine (hk3 _).mono ?_
      rintro e Vm ⟨rfl, rfl⟩
      go_wp2_with fail
      refine (hW _).mono ?_
      rintro e Vw ⟨rfl, hb1⟩
      replace hb := hb.trans (hb1.mono hb.size)
      go_wp2
      go_ret
      exact ⟨rfl, hb⟩
  · rw [decide_eq_false h1] at a1
    subst a1
    have h1' : be < goal := by omega
    have h2' : be < goal + more := by omega
    have h2 : ¬ goal + more ≤ be := by omega
    rw [decide_eq_false h2] at b1
    subst b1
    have hf1 : ∀ V, Swp V ab ast ae ak X → Calls Try.prog 38 #[.agg #[.slice ab X.bs.length cb, .slice ast X.st.length cs, .slice ae X.er.length ce, .slice ak X.ks.length ck, .int .i64 X.ch], .int .i64 (goal)] V fun e w' => e = .returned (.tuple #[.int .i64 0, .int .i64 3]) ∧ Below V.heap.size V w' := fun V h => hL1 0 3 rfl rfl V h
    have hf2 : ∀ V, Swp V ab ast ae ak X → Calls Try.prog 38 #[.agg #[.slice ab X.bs.length cb, .slice ast X.st.length cs, .slice ae X.er.length ce, .slice ak X.ks.length ck, .int .i64 X.ch], .int .i64 (goal + more)] V fun e w' => e = .returned (.tuple #[.int .i64 0, .int .i64 3]) ∧ Below V.heap.size V w' := fun V h => hL2 0 3 rfl rfl V h
    clear hL1 hL2 a2 b2 hmo h2 h1
    go_enter Try.func11, Try.ntmps11
    go_wp2_with fail
    refine (hrd _ hb).mono ?_
    rintro e V1 ⟨rfl, hb1⟩
    replace hb := hb.trans (hb1.mono hb.size)
    replace x0 := x0.below hb1
    clear c0 c1 c2 c3 c4 hb1 hrd
    go_upto_region 3 with fail
    have hbd := (Below.refl V1.heap.size V1).drew
    have S0 := x0.below hbd
    replace hb := hb.trans (hbd.mono hb.size)
    clear hbd x0
    refine wp_region_head 10 (fun w' => Bx w' w.heap.size #[.slice ab X.bs.length cb, .slice ast X.st.length cs, .slice ae X.er.length ce, .slice ak X.ks.length ck, .int .i64 X.ch] 26) (by kernel_rfl) rfl ?_
    generalize V1.drew = Y0 at *
    refine HeadAt.take (i := 0) (.agg #[.slice ab X.bs.length cb, .slice ast X.st.length cs, .slice ae X.er.length ce, .slice ak X.ks.length ck, .int .i64 X.ch]) rfl (by kernel_rfl) (.inl ⟨rfl, fun w' z => ?_⟩) S0 ?_
    · (have z0 := z.cell 0 rfl; have z1 := z.cell 1 rfl; have z2 := z.cell 2 rfl; have z3 := z.cell 3 rfl; have z4 := z.cell 4 rfl; simp [go_sem, z0, z1, z2, z3, z4])
    refine HeadAt.take (i := 1) (.agg #[.slice ab X.bs.length cb, .slice ast X.st.length cs, .slice ae X.er.length ce, .slice ak X.ks.length ck, .int .i64 X.ch]) rfl (by kernel_rfl) (.inl ⟨rfl, fun w' z => ?_⟩) S0 ?_
    · (have z0 := z.cell 0 rfl; have z1 := z.cell 1 rfl; have z2 := z.cell 2 rfl; have z3 := z.cell 3 rfl; have z4 := z.cell 4 rfl; simp [go_sem, z0, z1, z2, z3, z4])
    refine HeadAt.take (i := 2) (.pointer (some ⟨w.heap.size, 0, none⟩)) rfl (by kernel_rfl) (.inl ⟨rfl, fun _ _ => by simp [go_sem]⟩) S0 ?_
    (try simp only [Act.put, List.getElem_toArray, List.getElem_cons_succ, List.getElem_cons_zero, List.setIfInBounds_toArray, List.set_cons_succ, List.set_cons_zero])
    refine HeadAt.take (i := 3) (.slice ab X.bs.length cb) rfl (by kernel_rfl) (.inl ⟨rfl, fun w' z => ?_⟩) S0 ?_
    · (have z0 := z.cell 0 rfl; simp [go_sem, z0])
    (try simp only [Act.put, List.getElem_toArray, List.getElem_cons_succ, List.getElem_cons_zero, List.setIfInBounds_toArray, List.set_cons_succ, List.set_cons_zero])
    refine HeadAt.one (i := 4) rfl (by kernel_rfl) ?_
    generalize hK : Upto _ _ = K0
    (try simp only [Act.put, List.getElem_toArray, List.getElem_cons_succ, List.getElem_cons_zero, List.setIfInBounds_toArray, List.set_cons_succ, List.set_cons_zero])
    go_wp2_with fail
    refine (hea _ (hgX _ hb)).mono ?_
    rintro e V2 ⟨rfl, hb1⟩
    replace S0 := S0.below hb1
    replace hb := hb.trans (hb1.mono hb.size)
    clear hb1
    go_wp2_with fail
    subst hK
    refine ⟨S0, ?_⟩
    (try simp only [Act.put, List.getElem_toArray, List.getElem_cons_succ, List.getElem_cons_zero, List.setIfInBounds_toArray, List.set_cons_succ, List.set_cons_zero])
    refine HeadAt.one (i := 5) rfl (by kernel_rfl) ?_
    generalize hK : Upto _ _ = K0
    (try simp only [Act.put, List.getElem_toArray, List.getElem_cons_succ, List.getElem_cons_zero, List.setIfInBounds_toArray, List.set_cons_succ, List.set_cons_zero])
    go_wp2_with fail
    refine (hf0 _ (hgX _ hb)).mono ?_
    rintro e V3 ⟨rfl, hb1⟩
    replace S0 := S0.below hb1
    replace hb := hb.trans (hb1.mono hb.size)
    clear hb1
    go_wp2_with fail
    subst hK
    refine ⟨S0, ?_⟩
    (try simp only [Act.put, List.getElem_toArray, List.getElem_cons_succ, List.getElem_cons_zero, List.setIfInBounds_toArray, List.set_cons_succ, List.set_cons_zero])
    refine HeadAt.take (i := 6) (.tuple #[.int .i64 0, .int .i64 0]) rfl (by kernel_rfl) (.inl ⟨rfl, fun _ _ => by simp [go_sem]⟩) S0 ?_
    (try simp only [Act.put, List.getElem_toArray, List.getElem_cons_succ, List.getElem_cons_zero, List.setIfInBounds_toArray, List.set_cons_succ, List.set_cons_zero])
    refine HeadAt.take (i := 7) (.int .i64 0) rfl (by kernel_rfl) (.inl ⟨rfl, fun _ _ => by simp [go_sem]⟩) S0 ?_
    (try simp only [Act.put, List.getElem_toArray, List.getElem_cons_succ, List.getElem_cons_zero, List.setIfInBounds_toArray, List.set_cons_succ, List.set_cons_zero])
    refine HeadAt.take (i := 8) (.int .i64 0) rfl (by kernel_rfl) (.inl ⟨rfl, fun _ _ => by simp [go_sem]⟩) S0 ?_
    (try simp only [Act.put, List.getElem_toArray, List.getElem_cons_succ, List.getElem_cons_zero, List.setIfInBounds_toArray, List.set_cons_succ, List.set_cons_zero])
    refine HeadAt.take (i := 9) (.int .i64 0) rfl (by kernel_rfl) (.inl ⟨rfl, fun _ _ => by simp [go_sem]⟩) S0 ?_
    (try simp only [Act.put, List.getElem_toArray, List.getElem_cons_succ, List.getElem_cons_zero, List.setIfInBounds_toArray, List.set_cons_succ, List.set_cons_zero])
    refine HeadAt.done (by kernel_rfl) ?_
    (try simp only [Act.put, List.drop_succ_cons, List.drop_zero, List.getElem_toArray, List.getElem_cons_succ, List.getElem_cons_zero])
    go_wp2_with fail
    refine NoPanic.normal ?_
    have x0 := S0
    clear S0 hea hf0
    have c0 := x0.cell 0 rfl; have c1 := x0.cell 1 rfl; have c2 := x0.cell 2 rfl; have c3 := x0.cell 3 rfl; have c4 := x0.cell 4 rfl
    go_wp2_with fail
    refine (hf1 _ (hgX _ hb)).mono ?_
    rintro e Vn ⟨rfl, hb1⟩
    replace hb := hb.trans (hb1.mono hb.size)
    replace x0 := x0.below hb1
    clear hb1 c0 c1 c2 c3 c4
    have c0 := x0.cell 0 rfl; have c1 := x0.cell 1 rfl; have c2 := x0.cell 2 rfl; have c3 := x0.cell 3 rfl; have c4 := x0.cell 4 rfl
    go_wp2_with fail
    refine (hf2 _ (hgX _ hb)).mono ?_
    rintro e Vn ⟨rfl, hb1⟩
    replace hb := hb.trans (hb1.mono hb.size)
    replace x0 := x0.below hb1
    clear hb1 c0 c1 c2 c3 c4
    have c0 := x0.cell 0 rfl; have c1 := x0.cell 1 rfl; have c2 := x0.cell 2 rfl; have c3 := x0.cell 3 rfl; have c4 := x0.cell 4 rfl
    go_wp2_with fail
    refine (hbe _ (hgX _ hb)).mono ?_
    rintro e Vn ⟨rfl, hb1⟩
    replace hb := hb.trans (hb1.mono hb.size)
    replace x0 := x0.below hb1
    clear hb1 c0 c1 c2 c3 c4
    have c0 := x0.cell 0 rfl; have c1 := x0.cell 1 rfl; have c2 := x0.cell 2 rfl; have c3 := x0.cell 3 rfl; have c4 := x0.cell 4 rfl
    clear hf1 hf2 hbe hgX c0 c1 c2 c3 c4 x0
    go_wp2_with fail
    refine (hk3 _).mono ?_
    rintro e Vm ⟨rfl, rfl⟩
    go_wp2_with fail
    refine (hk3 _).mono ?_
    rintro e Vm ⟨rfl, rfl⟩
    go_wp2_with fail
    refine (hW _).mono ?_
    rintro e Vw ⟨rfl, hb1⟩
    replace hb := hb.trans (hb1.mono hb.size)
    go_wp2
    go_ret
    exact ⟨rfl, hb⟩

end Go.Proofs.Ytipdohpbilabiaa
