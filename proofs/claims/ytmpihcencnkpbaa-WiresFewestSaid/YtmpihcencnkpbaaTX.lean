import Derived.Test.YtmpihcencnkpbaaTV
/-! WiresPlays: its walk. -/
namespace Go.Proofs.Ytmpihcencnkpbaa
set_option linter.unusedSimpArgs false
set_option linter.unusedVariables false
open Go Go.RowKit

set_option maxRecDepth 100000 in
set_option maxHeartbeats 6000000 in
theorem wiresPlays_any (L N : Int) (aP : Option Addr) (cP : Nat) (P : List F3) (F : Int) (aS : Option Addr) (cS : Nat) (s : List F3) (l k : Int) (w : World) (hW1 : WiIn w aP cP P) (hW2 : WiIn w aS cS s) :
    Calls Try.prog 3 #[.agg #[.int .i64 L, .int .i64 N, .slice aP P.length cP, .int .i64 F], .slice aS s.length cS, .agg #[.int .i64 l, .int .i64 k]] w fun e w' => e = .returned (.bool true) ∧ Below w.heap.size w w' := by
  obtain ⟨i0, hi0, iz0, iz1, iz2⟩ := info_parts info63
  obtain ⟨n, hn⟩ : ∃ n, n = P.length := ⟨_, rfl⟩
  obtain ⟨m, hm⟩ : ∃ m, m = s.length := ⟨_, rfl⟩
  have HN := hid hn
  have HM := hid hm
  have hwk := works_any
  have hcp := fun V (h : Fz V aP P) => Copy_any L N aP cP P F V h
  unfold CpP at hcp
  have hk1 := fun a c V (h : Fz V a P) => Check_any L N a c P F V (fun _ => h) (by have := h.len; omega)
  have hk2 := fun V (h : Fz V aP P) => rCheck_any L N aP cP P F V (fun _ => h) (by have := h.len; omega)
  have hp1 := fun a c b d V (h : Fz V a P) (h' : Fz V b s) (hd : s.length ≤ d) => Plays_any L N a c P F b d s l k V h.pz h' hd
  have hp2 := fun V (h : Fz V aP P) (h' : Fz V aS s) => rPlays_any L N aP cP P F aS cS s l k V h.pz h'
  have he1 := fun a c b d V (h : Fz V a P) (h' : Fz V b s) (hd : s.length ≤ d) => Explains_any L N a c P F b d s V h.pz h' hd
  have he2 := fun V (h : Fz V aP P) (h' : Fz V aS s) => rExplains_any L N aP cP P F aS cS s V h.pz h'
  have hsm := fun a c V (h : Fz V a P) (h' : Fz V aP P) => same_eq L N a aP c cP P F V h h'
  have hsf := fun a c V (h : Fz V a s) (h' : Fz V aS s) => SameFaults_eq a aS c cS s V h h'
  rw [← hn] at hcp hk1 hk2 hp1 hp2 he1 he2 hsm
  rw [← hm] at hp1 hp2 he1 he2 hsf
  simp only [ckE_chE] at hk1
  generalize ckE L N P F = E0 at *
  generalize plR L N P F s l k = R1 at *
  generalize plE L N P F s l k = E1 at *
  generalize exR L N P F s = R2 at *
  generalize exE L N P F s = E2 at *
  have hE0 : (E0 != E0) = false := by simp
  obtain ⟨W, hW, hb, hs, x0, x1⟩ := boxes2 w #[.int .i64 L, .int .i64 N, .slice aP n cP, .int .i64 F] 24 #[.int .i64 l, .int .i64 k] 27
  have hQ1 := hW1.pz.below hb (Nat.le_refl _)
  have hQ2 := hW2.pz.below hb (Nat.le_refl _)
  rw [← hn, ← hm]
  clear hW1 hW2 hn hm
  by_cases hn4 : n ≤ 40
  rotate_left
  · skip
    have hgt : (40 : Int) < (n : Int) := by omega
    clear hcp hk1 hk2 hp1 hp2 he1 he2 hsm hsf hn4
    have c0 := x0.cell 0 rfl; have c1 := x0.cell 1 rfl; have c2 := x0.cell 2 rfl; have c3 := x0.cell 3 rfl
    have d0 := x1.cell 0 rfl; have d1 := x1.cell 1 rfl
    go_enter Try.func3, Try.ntmps3
    go_wp2_with fail
    refine (hwk _).mono ?_
    rintro e Vw ⟨rfl, hbw9⟩
    clear c0 c1 c2 c3
    clear d0 d1
    replace hb := hb.trans (hbw9.mono hb.size)
    go_wp2
    go_ret
    exact ⟨rfl, hb⟩
  have hn4I : ¬ (40 : Int) < (n : Int) := by omega
  by_cases hm4 : m ≤ 40
  rotate_left
  · skip
    have hgt : (40 : Int) < (m : Int) := by omega
    clear hcp hk1 hk2 hp1 hp2 he1 he2 hsm hsf hn4 hm4
    have c0 := x0.cell 0 rfl; have c1 := x0.cell 1 rfl; have c2 := x0.cell 2 rfl; have c3 := x0.cell 3 rfl
    have d0 := x1.cell 0 rfl; have d1 := x1.cell 1 rfl
    go_enter Try.func3, Try.ntmps3
    go_wp2_with fail
    refine (hwk _).mono ?_
    rintro e Vw ⟨rfl, hbw9⟩
    clear c0 c1 c2 c3
    clear d0 d1
    replace hb := hb.trans (hbw9.mono hb.size)
    go_wp2
    go_ret
    exact ⟨rfl, hb⟩
  have hm4I : ¬ (40 : Int) < (m : Int) := by omega
  have hP := hQ1.2 (by have := HN.out; omega)
  have hS := hQ2.2 (by have := HM.out; omega)
  have hX64 := hid hP.2.1
  have hY64 := hid hS.2.1
  clear hQ1 hQ2
  have c0 := x0.cell 0 rfl; have c1 := x0.cell 1 rfl; have c2 := x0.cell 2 rfl; have c3 := x0.cell 3 rfl
  have d0 := x1.cell 0 rfl; have d1 := x1.cell 1 rfl
  go_enter Try.func3, Try.ntmps3
  go_wp2_with fail
  refine (hcp _ hP).mono ?_
  rintro e V ⟨hb1, a, c, rfl, hown⟩
  clear c0 c1 c2 c3 d0 d1 hcp hW
  have hFo := cp_row hown HN.out hX64.out (by have := HN.out; omega)
  replace x0 := x0.below hb1
  replace x1 := x1.below hb1
  replace hP := hP.below hb1 (Nat.le_refl _)
  replace hS := hS.below hb1 (Nat.le_refl _)
  replace hb := hb.trans (hb1.mono hb.size)
  clear hb1 hown
  have hA := own_litB V 63 3 (B := V.heap.size) (Nat.le_refl _)
  have hbl := below_one (w := V) (.cells #[] 63)
  have hcl := (hS.below hbl (Nat.le_refl _)).cls
  have HXa := hid (And.intro (x0.below hbl) (And.intro (x1.below hbl) (And.intro (hP.below hbl (Nat.le_refl _)) (And.intro (hS.below hbl (Nat.le_refl _)) (And.intro (hFo.below hbl (Nat.le_refl _)) (And.intro (hb.trans (hbl.mono hb.size)) hA))))))
  have HLN := hid (show (fcells s).length = m * 3 by rw [fcells_len, HM.out])
  clear x0 x1 hP hS hFo hb hbl hA
  go_upto_region 4 with (at_builtin
                         obtain ⟨x0, x1, hP, hS, hFo, hb, hA⟩ := HXa.out
                         refine wpList_appLit rfl (.tmp 29) (.tmp 30) 25 rfl V.heap.size 63 i0 (.agg #[.int .i64 0, .int .i64 0, .int .i64 0]) 3 24 under25 hi0 iz0 iz1 iz2 rfl (by decide) V.heap.size rfl hA aS m cS (fcells s) rfl HLN.out hcl (fcells_one s) (by unfold maxLen; omega) (by omega) (by simp) ?_
                         intro vO W1 hownO hbO hplO
                         obtain ⟨b, d, rfl⟩ := own_slice2 hownO
                         have hba := below_one (w := W1) (.cells #[.int .i64 L, .int .i64 N, .slice a n c, .int .i64 F] 24)
                         have hFl : Fz W1 b s := (Fz.of_own (xs := s) (e := 63) (base := V.heap.size) (v := .slice b m d) (by rw [← HM.out]; exact hownO) (by have := HM.out; omega) hY64.out).elim fun a' h => h.elim fun ca h => by
                           have e := h.1
                           simp only [Value.slice.injEq] at e
                           rw [e.1]; exact h.2.1
                         have hcap : m ≤ d := own_cap hownO
                         have HXb := hid (And.intro ((x0.below hbO).below hba) (And.intro ((x1.below hbO).below hba) (And.intro ((hP.below hbO (Nat.le_refl _)).below hba (Nat.le_refl _)) (And.intro ((hS.below hbO (Nat.le_refl _)).below hba (Nat.le_refl _)) (And.intro ((hFo.below hbO (Nat.le_refl _)).below hba (Nat.le_refl _)) (And.intro (hFl.below hba (Nat.le_refl _)) (And.intro ((hb.trans (hbO.mono hb.size)).trans (hba.mono (hb.trans (hbO.mono hb.size)).size)) (Bx.new W1 #[.int .i64 L, .int .i64 N, .slice a n c, .int .i64 F] 24))))))))
                         clear hA hownO hbO hplO hba hFl x0 x1 hP hS hFo hb hcl HXa)
  obtain ⟨x0, x1, hP, hS, hFo, hFl, hb, x7⟩ := HXb.out
  clear HXb
  generalize W1.heap.size = s7 at *
  generalize World.alloc _ _ = Va at *
  have hbd := (Below.refl Va.heap.size Va).drew
  have S0 := (And.intro (x0.below hbd) (And.intro (x1.below hbd) (And.intro (x7.below hbd) (And.intro (hP.below hbd (Nat.le_refl _)) (And.intro (hS.below hbd (Nat.le_refl _)) (And.intro (hFo.below hbd (Nat.le_refl _)) (hFl.below hbd (Nat.le_refl _))))))))
  replace hb := hb.trans (hbd.mono hb.size)
  clear hbd x0 x1 x7 hP hS hFo hFl
  refine wp_region_head 4 (fun w' => (Bx w' w.heap.size #[.int .i64 L, .int .i64 N, .slice aP n cP, .int .i64 F] 24) ∧ (Bx w' (w.heap.size + 1) #[.int .i64 l, .int .i64 k] 27) ∧ (Bx w' s7 #[.int .i64 L, .int .i64 N, .slice a n c, .int .i64 F] 24) ∧ (Fz w' aP P) ∧ (Fz w' aS s) ∧ (Fz w' a P) ∧ (Fz w' b s)) (by kernel_rfl) rfl ?_
  generalize Va.drew = Y0 at *
  refine HeadAt.take (i := 0) (.agg #[.int .i64 L, .int .i64 N, .slice a n c, .int .i64 F]) rfl (by kernel_rfl) (.inl ⟨rfl, fun w' z => ?_⟩) S0 ?_
  · (have z0 := z.2.2.1.cell 0 rfl; have z1 := z.2.2.1.cell 1 rfl; have z2 := z.2.2.1.cell 2 rfl; have z3 := z.2.2.1.cell 3 rfl; simp [go_sem, z0, z1, z2, z3])
  (try simp only [Act.put, List.getElem_toArray, List.getElem_cons_succ, List.getElem_cons_zero, List.setIfInBounds_toArray, List.set_cons_succ, List.set_cons_zero])
  refine HeadAt.take (i := 2) (.agg #[.int .i64 L, .int .i64 N, .slice aP n cP, .int .i64 F]) rfl (by kernel_rfl) (.inl ⟨rfl, fun w' z => ?_⟩) S0 ?_
  · (have z0 := z.1.cell 0 rfl; have z1 := z.1.cell 1 rfl; have z2 := z.1.cell 2 rfl; have z3 := z.1.cell 3 rfl; simp [go_sem, z0, z1, z2, z3])
  (try simp only [Act.put, List.getElem_toArray, List.getElem_cons_succ, List.getElem_cons_zero, List.setIfInBounds_toArray, List.set_cons_succ, List.set_cons_zero])
  refine HeadAt.one (i := 1) rfl (by kernel_rfl) ?_
  generalize hK : Upto _ _ = K0
  (try simp only [Act.put, List.getElem_toArray, List.getElem_cons_succ, List.getElem_cons_zero, List.setIfInBounds_toArray, List.set_cons_succ, List.set_cons_zero])
  go_wp2_with fail
  refine (hk1 _ _ _ S0.2.2.2.2.2.1).mono ?_
  rintro e V3 ⟨rfl, hb1⟩
  go_wp2_with fail
  replace S0 := (And.intro (S0.1.below hb1) (And.intro (S0.2.1.below hb1) (And.intro (S0.2.2.1.below hb1) (And.intro (S0.2.2.2.1.below hb1 (Nat.le_refl _)) (And.intro (S0.2.2.2.2.1.below hb1 (Nat.le_refl _)) (And.intro (S0.2.2.2.2.2.1.below hb1 (Nat.le_refl _)) (S0.2.2.2.2.2.2.below hb1 (Nat.le_refl _))))))))
  replace hb := hb.trans (hb1.mono hb.size)
  clear hb1
  subst hK
  refine ⟨S0, ?_⟩
  (try simp only [Act.put, List.getElem_toArray, List.getElem_cons_succ, List.getElem_cons_zero, List.setIfInBounds_toArray, List.set_cons_succ, List.set_cons_zero])
  refine HeadAt.one (i := 3) rfl (by kernel_rfl) ?_
  generalize hK : Upto _ _ = K0
  (try simp only [Act.put, List.getElem_toArray, List.getElem_cons_succ, List.getElem_cons_zero, List.setIfInBounds_toArray, List.set_cons_succ, List.set_cons_zero])
  go_wp2_with fail
  refine (hk2 _ S0.2.2.2.1).mono ?_
  rintro e V4 ⟨rfl, hb1⟩
  go_wp2_with fail
  replace S0 := (And.intro (S0.1.below hb1) (And.intro (S0.2.1.below hb1) (And.intro (S0.2.2.1.below hb1) (And.intro (S0.2.2.2.1.below hb1 (Nat.le_refl _)) (And.intro (S0.2.2.2.2.1.below hb1 (Nat.le_refl _)) (And.intro (S0.2.2.2.2.2.1.below hb1 (Nat.le_refl _)) (S0.2.2.2.2.2.2.below hb1 (Nat.le_refl _))))))))
  replace hb := hb.trans (hb1.mono hb.size)
  clear hb1
  subst hK
  refine ⟨S0, ?_⟩
  (try simp only [Act.put, List.getElem_toArray, List.getElem_cons_succ, List.getElem_cons_zero, List.setIfInBounds_toArray, List.set_cons_succ, List.set_cons_zero])
  refine HeadAt.done (by kernel_rfl) ?_
  (try simp only [Act.put, List.drop_succ_cons, List.drop_zero, List.getElem_toArray, List.getElem_cons_succ, List.getElem_cons_zero])
  go_wp2_with fail
  refine NoPanic.normal ?_
  obtain ⟨x0, x1, x7, hP, hS, hFo, hFl⟩ := S0
  clear hk1 hk2 hE0
  have c0 := x0.cell 0 rfl; have c1 := x0.cell 1 rfl; have c2 := x0.cell 2 rfl; have c3 := x0.cell 3 rfl
  have d0 := x1.cell 0 rfl; have d1 := x1.cell 1 rfl
  have e0 := x7.cell 0 rfl; have e1 := x7.cell 1 rfl; have e2 := x7.cell 2 rfl; have e3 := x7.cell 3 rfl
  go_wp2_with fail
  refine (hp1 _ _ _ _ _ hFo hFl hcap).mono ?_
  rintro e Vc5 ⟨rfl, hb1⟩
  clear e0 e1 e2 e3
  clear c0 c1 c2 c3
  clear d0 d1
  replace x0 := x0.below hb1
  replace x1 := x1.below hb1
  replace x7 := x7.below hb1
  replace hP := hP.below hb1 (Nat.le_refl _)
  replace hS := hS.below hb1 (Nat.le_refl _)
  replace hFo := hFo.below hb1 (Nat.le_refl _)
  replace hFl := hFl.below hb1 (Nat.le_refl _)
  replace hb := hb.trans (hb1.mono hb.size)
  clear hb1 hp1
  have c0 := x0.cell 0 rfl; have c1 := x0.cell 1 rfl; have c2 := x0.cell 2 rfl; have c3 := x0.cell 3 rfl
  have d0 := x1.cell 0 rfl; have d1 := x1.cell 1 rfl
  have e0 := x7.cell 0 rfl; have e1 := x7.cell 1 rfl; have e2 := x7.cell 2 rfl; have e3 := x7.cell 3 rfl
  go_wp2_with fail
  refine (hp2 _ hP hS).mono ?_
  rintro e Vc6 ⟨rfl, hb1⟩
  clear c0 c1 c2 c3
  clear e0 e1 e2 e3
  clear d0 d1
  replace x0 := x0.below hb1
  replace x1 := x1.below hb1
  replace x7 := x7.below hb1
  replace hP := hP.below hb1 (Nat.le_refl _)
  replace hS := hS.below hb1 (Nat.le_refl _)
  replace hFo := hFo.below hb1 (Nat.le_refl _)
  replace hFl := hFl.below hb1 (Nat.le_refl _)
  replace hb := hb.trans (hb1.mono hb.size)
  clear hb1 hp2
  have c0 := x0.cell 0 rfl; have c1 := x0.cell 1 rfl; have c2 := x0.cell 2 rfl; have c3 := x0.cell 3 rfl
  have d0 := x1.cell 0 rfl; have d1 := x1.cell 1 rfl
  have e0 := x7.cell 0 rfl; have e1 := x7.cell 1 rfl; have e2 := x7.cell 2 rfl; have e3 := x7.cell 3 rfl
  go_wp2_with fail
  refine (he1 _ _ _ _ _ hFo hFl hcap).mono ?_
  rintro e Vc7 ⟨rfl, hb1⟩
  clear c0 c1 c2 c3
  clear e0 e1 e2 e3
  clear d0 d1
  replace x0 := x0.below hb1
  replace x1 := x1.below hb1
  replace x7 := x7.below hb1
  replace hP := hP.below hb1 (Nat.le_refl _)
  replace hS := hS.below hb1 (Nat.le_refl _)
  replace hFo := hFo.below hb1 (Nat.le_refl _)
  replace hFl := hFl.below hb1 (Nat.le_refl _)
  replace hb := hb.trans (hb1.mono hb.size)
  clear hb1 he1
  have c0 := x0.cell 0 rfl; have c1 := x0.cell 1 rfl; have c2 := x0.cell 2 rfl; have c3 := x0.cell 3 rfl
  have d0 := x1.cell 0 rfl; have d1 := x1.cell 1 rfl
  have e0 := x7.cell 0 rfl; have e1 := x7.cell 1 rfl; have e2 := x7.cell 2 rfl; have e3 := x7.cell 3 rfl
  go_wp2_with fail
  refine (he2 _ hP hS).mono ?_
  rintro e Vc8 ⟨rfl, hb1⟩
  clear c0 c1 c2 c3
  clear e0 e1 e2 e3
  clear d0 d1
  replace x0 := x0.below hb1
  replace x1 := x1.below hb1
  replace x7 := x7.below hb1
  replace hP := hP.below hb1 (Nat.le_refl _)
  replace hS := hS.below hb1 (Nat.le_refl _)
  replace hFo := hFo.below hb1 (Nat.le_refl _)
  replace hFl := hFl.below hb1 (Nat.le_refl _)
  replace hb := hb.trans (hb1.mono hb.size)
  clear hb1 he2
  have c0 := x0.cell 0 rfl; have c1 := x0.cell 1 rfl; have c2 := x0.cell 2 rfl; have c3 := x0.cell 3 rfl
  have d0 := x1.cell 0 rfl; have d1 := x1.cell 1 rfl
  have e0 := x7.cell 0 rfl; have e1 := x7.cell 1 rfl; have e2 := x7.cell 2 rfl; have e3 := x7.cell 3 rfl
  go_wp2_with fail
  refine (hsm _ _ _ hFo hP).mono ?_
  rintro e Vc9 ⟨rfl, hb1⟩
  clear c0 c1 c2 c3
  clear e0 e1 e2 e3
  clear d0 d1
  replace x0 := x0.below hb1
  replace x1 := x1.below hb1
  replace x7 := x7.below hb1
  replace hP := hP.below hb1 (Nat.le_refl _)
  replace hS := hS.below hb1 (Nat.le_refl _)
  replace hFo := hFo.below hb1 (Nat.le_refl _)
  replace hFl := hFl.below hb1 (Nat.le_refl _)
  replace hb := hb.trans (hb1.mono hb.size)
  clear hb1 hsm
  have c0 := x0.cell 0 rfl; have c1 := x0.cell 1 rfl; have c2 := x0.cell 2 rfl; have c3 := x0.cell 3 rfl
  have d0 := x1.cell 0 rfl; have d1 := x1.cell 1 rfl
  have e0 := x7.cell 0 rfl; have e1 := x7.cell 1 rfl; have e2 := x7.cell 2 rfl; have e3 := x7.cell 3 rfl
  go_wp2_with fail
  refine (hsf _ _ _ hFl hS).mono ?_
  rintro e Vc10 ⟨rfl, hb1⟩
  clear c0 c1 c2 c3
  clear e0 e1 e2 e3
  clear d0 d1
  replace x0 := x0.below hb1
  replace x1 := x1.below hb1
  replace x7 := x7.below hb1
  replace hP := hP.below hb1 (Nat.le_refl _)
  replace hS := hS.below hb1 (Nat.le_refl _)
  replace hFo := hFo.below hb1 (Nat.le_refl _)
  replace hFl := hFl.below hb1 (Nat.le_refl _)
  replace hb := hb.trans (hb1.mono hb.size)
  clear hb1 hsf
  have c0 := x0.cell 0 rfl; have c1 := x0.cell 1 rfl; have c2 := x0.cell 2 rfl; have c3 := x0.cell 3 rfl
  have d0 := x1.cell 0 rfl; have d1 := x1.cell 1 rfl
  have e0 := x7.cell 0 rfl; have e1 := x7.cell 1 rfl; have e2 := x7.cell 2 rfl; have e3 := x7.cell 3 rfl
  go_wp2_with fail
  refine (hwk _).mono ?_
  rintro e Vw ⟨rfl, hbw9⟩
  clear c0 c1 c2 c3
  clear e0 e1 e2 e3
  clear d0 d1
  replace hb := hb.trans (hbw9.mono hb.size)
  go_wp2
  go_ret
  exact ⟨rfl, hb⟩
end Go.Proofs.Ytmpihcencnkpbaa
