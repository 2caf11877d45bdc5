import Derived.Test.YtakodllejndfeaaT30
/-! RoyaltiesCut. -/
namespace Go.Proofs.Ytakodllejndfeaa
set_option linter.unusedSimpArgs false
set_option linter.unusedVariables false
open Go Go.RowKit

theorem alone_le {p al : Int} (ha : 0 < al) : ∀ {S : List Sd} {n : Nat}, (∀ s ∈ S, SOk n s) → 0 ≤ p → al * aloneS p al S ≤ p * alS S
  | [], _, _, _ => by simp [aloneS, alS]
  | s :: S, n, h, hp => by
    have ih := alone_le ha (S := S) (fun x hx => h x (List.mem_cons_of_mem _ hx)) hp
    have hs := h s (List.mem_cons_self ..)
    have h1 : 0 ≤ p * s.pl := Int.mul_nonneg hp hs.pl.1
    have h2 : 0 ≤ moneyS p al s := Int.ediv_nonneg h1 (by omega)
    have h3 := (aloneP_rng h2 hs.pct).2
    rw [hs.sum] at h3
    have h4 : al * moneyS p al s ≤ p * s.pl := Int.mul_ediv_self_le (by omega)
    have h5 : al * aloneP (moneyS p al s) s.ps ≤ al * moneyS p al s := Int.mul_le_mul_of_nonneg_left (by omega) (by omega)
    simp only [aloneS, alS, List.map_cons, List.sum_cons, Int.mul_add] at *
    omega
theorem lost_nn {p : Int} {S : List Sd} {O : List Int} (hS : vB p S O = true) : 0 ≤ lostV p S O := by
  unfold lostV
  by_cases h : askE p S O true = 0
  · rw [if_pos h]
    have hV := vB_ok hS
    have hal := VOk.al hV
    have hne := (askE_0 h).2.2
    have ha : 0 < alS S := by omega
    have h1 := alone_le (p := p) ha hV.sd hV.p0
    rw [Int.mul_comm p] at h1
    have := Int.le_of_mul_le_mul_left h1 ha
    omega
  · rw [if_neg h]; exact Int.le_refl _
theorem lost_le {p : Int} {S : List Sd} {O : List Int} (hS : vB p S O = true) : lostV p S O ≤ p := by
  have hV := vB_ok hS
  have hal := VOk.al hV
  by_cases h : askE p S O true = 0
  · have hne := (askE_0 h).2.2
    exact lost_rng hV (by omega) h
  · rw [lostV_bad h]; exact hV.p0

set_option maxRecDepth 100000 in
set_option maxHeartbeats 3000000 in
theorem royaltiesCut_any (p : Int) (aS aO : Option Addr) (cS cO : Nat) (S : List Sd) (O : List Int) (ii ff bb : Int) (w : World) (hX : RyIn w aS aO p S O) : Calls Try.prog 4 #[.agg #[.int .i64 p, .slice aS S.length cS, .slice aO O.length cO, .int .i64 ii, .int .i64 ff, .int .i64 bb]] w fun e w' => e = .returned (.bool true) ∧ Below w.heap.size w w' := by
  obtain ⟨i0, hi0', iz0, iz1, iz2⟩ := info_parts info39
  obtain ⟨W, hW, hb, _, x0⟩ := boxes1 w #[.int .i64 p, .slice aS S.length cS, .slice aO O.length cO, .int .i64 ii, .int .i64 ff, .int .i64 bb] 36
  have hXS := fun (V : World) (h : Below w.heap.size w V) => hX.below h (Nat.le_refl _)
  have hwk := fun V => works_any V
  have hrd := fun V h => ready_any p aS aO cS cO S O V h
  go_enter Try.func4, Try.ntmps4
  go_upto_region 1 with fail
  clear hW hX
  have hbd := (Below.refl W.heap.size W).drew
  have hbr := hb.trans (hbd.mono hb.size)
  have S0 := x0.below hbd
  clear hbd hb x0
  refine wp_region_head 12 (fun w' => Bx w' w.heap.size #[.int .i64 p, .slice aS S.length cS, .slice aO O.length cO, .int .i64 ii, .int .i64 ff, .int .i64 bb] 36) (by kernel_rfl) rfl ?_
  generalize W.drew = Y0 at *
  refine HeadAt.take (i := 0) (.pointer (some ⟨w.heap.size, 0, none⟩)) rfl (by kernel_rfl) (.inl ⟨rfl, fun _ _ => by simp [go_sem]⟩) S0 ?_
  (try simp only [Act.put, List.getElem_toArray, List.getElem_cons_succ, List.getElem_cons_zero, List.setIfInBounds_toArray, List.set_cons_succ, List.set_cons_zero])
  refine HeadAt.take (i := 1) (.agg #[.int .i64 p, .slice aS S.length cS, .slice aO O.length cO]) rfl (by kernel_rfl) (.inl ⟨rfl, fun w' z => ?_⟩) S0 ?_
  · (have z0 := z.cell 0 rfl; have z1 := z.cell 1 rfl; have z2 := z.cell 2 rfl; simp [go_sem, z0, z1, z2])
  (try simp only [Act.put, List.getElem_toArray, List.getElem_cons_succ, List.getElem_cons_zero, List.setIfInBounds_toArray, List.set_cons_succ, List.set_cons_zero])
  refine HeadAt.take (i := 2) (.pointer (some ⟨w.heap.size, 3, none⟩)) rfl (by kernel_rfl) (.inl ⟨rfl, fun _ _ => by simp [go_sem]⟩) S0 ?_
  (try simp only [Act.put, List.getElem_toArray, List.getElem_cons_succ, List.getElem_cons_zero, List.setIfInBounds_toArray, List.set_cons_succ, List.set_cons_zero])
  refine HeadAt.take (i := 3) (.int .i64 ii) rfl (by kernel_rfl) (.inl ⟨rfl, fun w' z => ?_⟩) S0 ?_
  · (have z0 := z.cell 3 rfl; simp [go_sem, z0])
  (try simp only [Act.put, List.getElem_toArray, List.getElem_cons_succ, List.getElem_cons_zero, List.setIfInBounds_toArray, List.set_cons_succ, List.set_cons_zero])
  refine HeadAt.take (i := 4) (.pointer (some ⟨w.heap.size, 4, none⟩)) rfl (by kernel_rfl) (.inl ⟨rfl, fun _ _ => by simp [go_sem]⟩) S0 ?_
  (try simp only [Act.put, List.getElem_toArray, List.getElem_cons_succ, List.getElem_cons_zero, List.setIfInBounds_toArray, List.set_cons_succ, List.set_cons_zero])
  refine HeadAt.take (i := 5) (.int .i64 ff) rfl (by kernel_rfl) (.inl ⟨rfl, fun w' z => ?_⟩) S0 ?_
  · (have z0 := z.cell 4 rfl; simp [go_sem, z0])
  (try simp only [Act.put, List.getElem_toArray, List.getElem_cons_succ, List.getElem_cons_zero, List.setIfInBounds_toArray, List.set_cons_succ, List.set_cons_zero])
  refine HeadAt.take (i := 6) (.pointer (some ⟨w.heap.size, 5, none⟩)) rfl (by kernel_rfl) (.inl ⟨rfl, fun _ _ => by simp [go_sem]⟩) S0 ?_
  (try simp only [Act.put, List.getElem_toArray, List.getElem_cons_succ, List.getElem_cons_zero, List.setIfInBounds_toArray, List.set_cons_succ, List.set_cons_zero])
  refine HeadAt.take (i := 7) (.int .i64 bb) rfl (by kernel_rfl) (.inl ⟨rfl, fun w' z => ?_⟩) S0 ?_
  · (have z0 := z.cell 5 rfl; simp [go_sem, z0])
  (try simp only [Act.put, List.getElem_toArray, List.getElem_cons_succ, List.getElem_cons_zero, List.setIfInBounds_toArray, List.set_cons_succ, List.set_cons_zero])
  refine HeadAt.one (i := 8) rfl (by kernel_rfl) ?_
  generalize hK : Upto _ _ = K0
  (try simp only [Act.put, List.getElem_toArray, List.getElem_cons_succ, List.getElem_cons_zero, List.setIfInBounds_toArray, List.set_cons_succ, List.set_cons_zero])
  have hba := below_one (w := Y0) (.cells #[.int .i64 0, .slice none 0 0, .slice none 0 0] 25)
  have hs3 := S0.lt
  have HY := hid (And.intro (S0.below hba) (And.intro (hbr.trans (hba.mono hbr.size)) (Bx.new Y0 #[.int .i64 0, .slice none 0 0, .slice none 0 0] 25)))
  clear hba S0 hbr
  go_wp2_with fail
  obtain ⟨S0, hbr, x3⟩ := HY.out
  clear HY
  generalize Y0.heap.size = s3 at *
  generalize World.alloc _ _ = Y1 at *
  subst hK
  refine ⟨S0, ?_⟩
  (try simp only [Act.put, List.getElem_toArray, List.getElem_cons_succ, List.getElem_cons_zero, List.setIfInBounds_toArray, List.set_cons_succ, List.set_cons_zero])
  have d0 := x3.cell 0 rfl; have d1 := x3.cell 1 rfl; have d2 := x3.cell 2 rfl; have f0 := x3.free 0; have f1 := x3.free 1; have f2 := x3.free 2
  have z3 := x3.set3 (.int .i64 p) (.slice aS S.length cS) (.slice aO O.length cO)
  have zb := below_put3 hbr (b := s3) (by omega) (.int .i64 p) (.slice aS S.length cS) (.slice aO O.length cO)
  have zs := ((S0.other (a := ⟨s3, 0, none⟩) (by show w.heap.size ≠ s3; omega) (.int .i64 p)).other (a := ⟨s3, 1, none⟩) (by show w.heap.size ≠ s3; omega) (.slice aS S.length cS)).other (a := ⟨s3, 2, none⟩) (by show w.heap.size ≠ s3; omega) (.slice aO O.length cO)
  have HZ := hid (And.intro z3 (And.intro zb zs))
  clear z3 zb zs x3 hbr S0
  refine HeadAt.one (i := 9) rfl (by kernel_rfl) ?_
  generalize hK : Upto _ _ = K0
  (try simp only [Act.put, List.getElem_toArray, List.getElem_cons_succ, List.getElem_cons_zero, List.setIfInBounds_toArray, List.set_cons_succ, List.set_cons_zero])
  go_wp2_with fail
  obtain ⟨x3, hb, S0⟩ := HZ.out
  clear HZ d0 d1 d2 f0 f1 f2
  generalize World.setCell (World.setCell (World.setCell _ _ _) _ _) _ _ = W1 at *
  subst hK
  refine ⟨S0, ?_⟩
  (try simp only [Act.put, List.getElem_toArray, List.getElem_cons_succ, List.getElem_cons_zero, List.setIfInBounds_toArray, List.set_cons_succ, List.set_cons_zero])
  refine HeadAt.take (i := 10) (.int .i64 ii) rfl (by kernel_rfl) (.inl ⟨rfl, fun _ _ => by simp [go_sem]⟩) S0 ?_
  (try simp only [Act.put, List.getElem_toArray, List.getElem_cons_succ, List.getElem_cons_zero, List.setIfInBounds_toArray, List.set_cons_succ, List.set_cons_zero])
  refine HeadAt.take (i := 11) (.int .i64 ff) rfl (by kernel_rfl) (.inl ⟨rfl, fun _ _ => by simp [go_sem]⟩) S0 ?_
  (try simp only [Act.put, List.getElem_toArray, List.getElem_cons_succ, List.getElem_cons_zero, List.setIfInBounds_toArray, List.set_cons_succ, List.set_cons_zero])
  refine HeadAt.done (by kernel_rfl) ?_
  (try simp only [Act.put, List.drop_succ_cons, List.drop_zero, List.getElem_toArray, List.getElem_cons_succ, List.getElem_cons_zero])
  go_wp2_with fail
  refine NoPanic.normal ?_
  clear S0
  by_cases hr : rdB p S O = false
  · rw [hr] at hrd
    clear hr
    have c0 := x3.cell 0 rfl; have c1 := x3.cell 1 rfl; have c2 := x3.cell 2 rfl
    go_wp2_with fail
    refine (hrd _ (hXS _ hb)).mono ?_
    rintro e Vc1 ⟨rfl, hb1⟩
    clear c0 c1 c2
    replace x3 := x3.below hb1
    replace hb := hb.trans (hb1.mono hb.size)
    clear hb1
    have c0 := x3.cell 0 rfl; have c1 := x3.cell 1 rfl; have c2 := x3.cell 2 rfl
    go_wp2_with fail
    refine (hwk _).mono ?_
    rintro e Vw ⟨rfl, hbw9⟩
    clear c0 c1 c2
    replace hb := hb.trans (hbw9.mono hb.size)
    go_wp2
    go_ret
    exact ⟨rfl, hb⟩
  replace hr : rdB p S O = true := by simpa using hr
  rw [hr] at hrd
  by_cases hm6 : 6 ≤ (S.length : Int)
  · skip
    have c0 := x3.cell 0 rfl; have c1 := x3.cell 1 rfl; have c2 := x3.cell 2 rfl
    go_wp2_with fail
    refine (hrd _ (hXS _ hb)).mono ?_
    rintro e Vc3 ⟨rfl, hb1⟩
    clear c0 c1 c2
    replace x3 := x3.below hb1
    replace hb := hb.trans (hb1.mono hb.size)
    clear hb1
    have c0 := x3.cell 0 rfl; have c1 := x3.cell 1 rfl; have c2 := x3.cell 2 rfl
    go_wp2_with fail
    refine (hwk _).mono ?_
    rintro e Vw ⟨rfl, hbw9⟩
    clear c0 c1 c2
    replace hb := hb.trans (hbw9.mono hb.size)
    go_wp2
    go_ret
    exact ⟨rfl, hb⟩
  by_cases hs0 : ii < 0
  · skip
    have c0 := x3.cell 0 rfl; have c1 := x3.cell 1 rfl; have c2 := x3.cell 2 rfl
    go_wp2_with fail
    refine (hrd _ (hXS _ hb)).mono ?_
    rintro e Vc5 ⟨rfl, hb1⟩
    clear c0 c1 c2
    replace x3 := x3.below hb1
    replace hb := hb.trans (hb1.mono hb.size)
    clear hb1
    have c0 := x3.cell 0 rfl; have c1 := x3.cell 1 rfl; have c2 := x3.cell 2 rfl
    go_wp2_with fail
    refine (hwk _).mono ?_
    rintro e Vw ⟨rfl, hbw9⟩
    clear c0 c1 c2
    replace hb := hb.trans (hbw9.mono hb.size)
    go_wp2
    go_ret
    exact ⟨rfl, hb⟩
  by_cases hs1 : (S.length : Int) ≤ ii
  · skip
    have c0 := x3.cell 0 rfl; have c1 := x3.cell 1 rfl; have c2 := x3.cell 2 rfl
    go_wp2_with fail
    refine (hrd _ (hXS _ hb)).mono ?_
    rintro e Vc7 ⟨rfl, hb1⟩
    clear c0 c1 c2
    replace x3 := x3.below hb1
    replace hb := hb.trans (hb1.mono hb.size)
    clear hb1
    have c0 := x3.cell 0 rfl; have c1 := x3.cell 1 rfl; have c2 := x3.cell 2 rfl
    go_wp2_with fail
    refine (hwk _).mono ?_
    rintro e Vw ⟨rfl, hbw9⟩
    clear c0 c1 c2
    replace hb := hb.trans (hbw9.mono hb.size)
    go_wp2
    go_ret
    exact ⟨rfl, hb⟩
  by_cases hf0 : ff < 0
  · skip
    have c0 := x3.cell 0 rfl; have c1 := x3.cell 1 rfl; have c2 := x3.cell 2 rfl
    go_wp2_with fail
    refine (hrd _ (hXS _ hb)).mono ?_
    rintro e Vc9 ⟨rfl, hb1⟩
    clear c0 c1 c2
    replace x3 := x3.below hb1
    replace hb := hb.trans (hb1.mono hb.size)
    clear hb1
    have c0 := x3.cell 0 rfl; have c1 := x3.cell 1 rfl; have c2 := x3.cell 2 rfl
    go_wp2_with fail
    refine (hwk _).mono ?_
    rintro e Vw ⟨rfl, hbw9⟩
    clear c0 c1 c2
    replace hb := hb.trans (hbw9.mono hb.size)
    go_wp2
    go_ret
    exact ⟨rfl, hb⟩
  obtain ⟨hf, hv⟩ := rdB_ok hr
  obtain ⟨i, rfl⟩ := Int.eq_ofNat_of_zero_le (show 0 ≤ ii by omega)
  have hiS : i < S.length := by omega
  have hg := get_of_lt sd0 hiS
  obtain ⟨s, hs⟩ : ∃ s, s = S.getD i sd0 := ⟨_, rfl⟩
  rw [← hs] at hg
  have hV := vB_ok hv
  have hso := hV.sd s (List.mem_of_getElem? hg)
  have hpl := hso.pl
  have hRS := fun (V : World) (h : Below w.heap.size w V) => (hXS V h).ry hf
  have hat : ∀ (V : World), Ry V aS aO p S O → ∃ (b off : Nat) (a' : Option Addr) (c' : Nat), aS = some ⟨b, off, none⟩ ∧ b < V.heap.size ∧ V.cell? ⟨b, off + i * 2, none⟩ = some (.int .i64 s.pl) ∧ V.cell? ⟨b, off + i * 2 + 1, none⟩ = some (.slice a' s.ps.length c') ∧ Prs V a' s.ps ∧ s.ps.length ≤ 1000 := fun V h => by
    obtain ⟨b, off, s', a', c', e, hbl, q0, q1, hP, hpl, _, _, g1⟩ := h.sd.at hiS
    have e2 := g1.out
    rw [hg] at e2
    cases e2
    exact ⟨b, off, a', c', e, hbl, q0, q1, hP, hpl⟩
  have hiI : (i : Int) < (S.length : Int) := by omega
  have hi0 : (0 : Int) ≤ (i : Int) := by omega
  obtain ⟨bs, os, a', c', rfl, hbs, q0, q1, hP, hpsl⟩ := hat _ (hRS _ hb)
  clear hs hr hat
  by_cases hf1 : s.pl < ff
  · skip
    have c0 := x3.cell 0 rfl; have c1 := x3.cell 1 rfl; have c2 := x3.cell 2 rfl
    go_wp2_with fail
    refine (hrd _ (hXS _ hb)).mono ?_
    rintro e Vc11 ⟨rfl, hb1⟩
    replace q0 := Below.keep hb1 q0
    replace q1 := Below.keep hb1 q1
    replace hP := hP.below hb1 (Nat.le_refl _)
    have hbs2 := Nat.lt_of_lt_of_le hbs hb1.size
    clear c0 c1 c2
    replace x3 := x3.below hb1
    replace hb := hb.trans (hb1.mono hb.size)
    clear hb1
    have c0 := x3.cell 0 rfl; have c1 := x3.cell 1 rfl; have c2 := x3.cell 2 rfl
    go_wp2_with fail
    refine (hwk _).mono ?_
    rintro e Vw ⟨rfl, hbw9⟩
    clear c0 c1 c2
    replace hb := hb.trans (hbw9.mono hb.size)
    go_wp2
    go_ret
    exact ⟨rfl, hb⟩
  by_cases hb0 : bb < 0
  · skip
    have c0 := x3.cell 0 rfl; have c1 := x3.cell 1 rfl; have c2 := x3.cell 2 rfl
    go_wp2_with fail
    refine (hrd _ (hXS _ hb)).mono ?_
    rintro e Vc13 ⟨rfl, hb1⟩
    replace q0 := Below.keep hb1 q0
    replace q1 := Below.keep hb1 q1
    replace hP := hP.below hb1 (Nat.le_refl _)
    have hbs2 := Nat.lt_of_lt_of_le hbs hb1.size
    clear c0 c1 c2
    replace x3 := x3.below hb1
    replace hb := hb.trans (hb1.mono hb.size)
    clear hb1
    have c0 := x3.cell 0 rfl; have c1 := x3.cell 1 rfl; have c2 := x3.cell 2 rfl
    go_wp2_with fail
    refine (hwk _).mono ?_
    rintro e Vw ⟨rfl, hbw9⟩
    clear c0 c1 c2
    replace hb := hb.trans (hbw9.mono hb.size)
    go_wp2
    go_ret
    exact ⟨rfl, hb⟩
  by_cases hb9 : 100 < bb
  · skip
    have c0 := x3.cell 0 rfl; have c1 := x3.cell 1 rfl; have c2 := x3.cell 2 rfl
    go_wp2_with fail
    refine (hrd _ (hXS _ hb)).mono ?_
    rintro e Vc15 ⟨rfl, hb1⟩
    replace q0 := Below.keep hb1 q0
    replace q1 := Below.keep hb1 q1
    replace hP := hP.below hb1 (Nat.le_refl _)
    have hbs2 := Nat.lt_of_lt_of_le hbs hb1.size
    clear c0 c1 c2
    replace x3 := x3.below hb1
    replace hb := hb.trans (hb1.mono hb.size)
    clear hb1
    have c0 := x3.cell 0 rfl; have c1 := x3.cell 1 rfl; have c2 := x3.cell 2 rfl
    go_wp2_with fail
    refine (hwk _).mono ?_
    rintro e Vw ⟨rfl, hbw9⟩
    clear c0 c1 c2
    replace hb := hb.trans (hbw9.mono hb.size)
    go_wp2
    go_ret
    exact ⟨rfl, hb⟩
  obtain ⟨B, rfl⟩ := Int.eq_ofNat_of_zero_le (show 0 ≤ bb by omega)
  have c0 := x3.cell 0 rfl; have c1 := x3.cell 1 rfl; have c2 := x3.cell 2 rfl
  go_wp2_with fail
  refine (hrd _ (hXS _ hb)).mono ?_
  rintro e Vc17 ⟨rfl, hb1⟩
  replace q0 := Below.keep hb1 q0
  replace q1 := Below.keep hb1 q1
  replace hP := hP.below hb1 (Nat.le_refl _)
  have hbs2 := Nat.lt_of_lt_of_le hbs hb1.size
  clear c0 c1 c2
  replace x3 := x3.below hb1
  replace hb := hb.trans (hb1.mono hb.size)
  clear hb1
  have c0 := x3.cell 0 rfl; have c1 := x3.cell 1 rfl; have c2 := x3.cell 2 rfl
  generalize Vc17 = WB at *
  have hR2 := hRS _ hb
  have x32 := x3
  have hbW := hid hb
  have hs32 := x3.lt
  have hm0 : 0 < S.length := by omega
  have hol := hR2.ol
  have hpr := hR2.pr
  have hcp := fun V h => Copy_any p (some ⟨bs, os, none⟩) aO cS cO S O V h
  unfold CopyP at hcp
  have q1B := q1; have hPB := hP
  have hR := hR2
  clear hb q1 hP hXS hrd hRS
  have hb := Below.refl WB.heap.size WB
  go_wp2_with fail
  clear q0
  refine (hcp _ hR).mono ?_
  rintro e V1 ⟨aq, b1, k1, k2, rfl, hC, hb1, _⟩
  obtain ⟨g1, rfl, hg1, hU⟩ := CuM.ofC hC hm0
  have hg1l : g1 < V1.heap.size := by
    obtain ⟨_, ho, _⟩ := hU.ex
    exact (ho.lt g1 rfl).2
  clear hC
  clear c0 c1 c2
  replace x3 := x3.below hb1
  replace hR := hR.below hb1 (Nat.le_refl _)
  replace hb := hb.trans (hb1.mono hb.size)
  clear hb1
  have hba := below_one (w := V1) (.cells #[.int .i64 p, .slice (some ⟨g1, 0, none⟩) S.length k1, .slice b1 O.length k2] 25)
  have HXa := hid (And.intro (x3.below hba) (And.intro (hU.below hba) (And.intro (hR.below hba (Nat.le_refl _)) (And.intro (hb.trans (hba.mono hb.size)) (Bx.new V1 #[.int .i64 p, .slice (some ⟨g1, 0, none⟩) S.length k1, .slice b1 O.length k2] 25)))))
  clear hba hb x3 hU hR
  go_upto_region 6 with fail
  obtain ⟨x3, hU, hR, hb, x8⟩ := HXa.out
  clear HXa
  generalize V1.heap.size = sa_x8 at *
  generalize World.alloc _ _ = Va_x8 at *
  go_wp2
  go_loopw [9] (fun u9 wr => ∃ k : Nat, k ≤ S.length ∧ u9 = .int .i64 (k : Int) ∧ CuM wr (WB.heap.size + 3) g1 sa_x8 b1 k1 k2 (midL S B k) O ∧ Bx wr sa_x8 #[.int .i64 p, .slice (some ⟨g1, 0, none⟩) S.length k1, .slice b1 O.length k2] 25 ∧ Below WB.heap.size WB wr) (fun u9 _ => S.length - (intOf u9).toNat)
  case atStart => exact ⟨0, Nat.zero_le _, rfl, by rw [mid_zero]; exact hU, x8, hb⟩
  case round =>
    clear hU x8 hb x3 hR
    obtain ⟨k, hk, rfl, hU, x8, hb⟩ := hrel
    have x3 := x32.below hb
    have hR := hR2.below hb (Nat.le_refl _)
    have c0 := x3.cell 0 rfl; have c1 := x3.cell 1 rfl; have c2 := x3.cell 2 rfl
    by_cases hlt : k < S.length
    · obtain ⟨j, hj⟩ : ∃ j, j = (k + B) % S.length := ⟨_, rfl⟩
      have hjl : j < S.length := by rw [hj]; exact Nat.mod_lt _ hm0
      obtain ⟨b5, o5, t, a5, c5, e5, hbl5, r0, r1, hP5, hpl5, hrg5, _, hg5⟩ := hR2.sd.at (k := j) hjl
      cases e5
      have hgt : S[(k + B) % S.length]? = some t := by rw [← hj]; exact hg5.out
      have hms := mid_set S B hlt hgt
      have hml := mid_len S B hk
      have hwr : IntKind.i64.wrap ((k : Int) + (B : Int)) = (k : Int) + (B : Int) := IntWalk.i64_in _ (by omega)
      have hmod : ((k : Int) + (B : Int)).tmod (S.length : Int) = (j : Int) := by rw [hj, Int.tmod_eq_emod_of_nonneg (by omega)]; rfl
      have hmod' : ((k : Int) + (B : Int)) % (S.length : Int) = (j : Int) := by rw [hj]; rfl
      have hmne : ¬ (S.length : Int) = 0 := by omega
      have hmne' : ¬ S.length = 0 := by omega
      have ewj : IntKind.i64.wrap (j : Int) = (j : Int) := IntWalk.i64_in _ (by omega)
      have hkI : (k : Int) < (S.length : Int) := by omega
      have hk0 : (0 : Int) ≤ (k : Int) := by omega
      have hjI : (j : Int) < (S.length : Int) := by omega
      have hj0 : (0 : Int) ≤ (j : Int) := by omega
      have e0 := x8.ext 1 rfl; have e1 := x3.ext 1 rfl; have e2 := Ext.cell (Below.keep hb r0); have e3 := Ext.cell (Below.keep hb r1)
      clear hj hgt hg5 r0 r1
      go_upto_region 9 with fail
      clear c0 c1 c2
      refine wp_region_ext_tail 12 (by kernel_rfl) (by kernel_rfl) ?_
      simp only [List.take_succ_cons, List.take_zero, List.drop_succ_cons, List.drop_zero]
      repeat (quiet_step (fail))
      refine wpQuiet_nil ?_
      intro _ hw'
      obtain ⟨tt, rfl⟩ := hw'
      have hU1 := hU.below tt.below
      have x81 := x8.below tt.below
      have hb1 := hb.trans (tt.below.mono hb.size)
      generalize tt.w = wc at *
      clear e0 e1 e2 e3 hU x8 hb x3 hR
      obtain ⟨⟨v1, m1⟩, f1, ⟨v2, m2⟩, f2, hU2⟩ := hU1.setSd (k := k) (s := t) (c' := c5) (by rw [hml]; exact hlt) (hP5.below hb1 (Nat.le_refl _)) hpl5 hrg5 (fun hn ad e => by have h9 := prs_lt hP5 hn ad e; exact ⟨by omega, by omega⟩)
      rw [hms] at hU2
      have y8 := (x81.other (a := ⟨g1, k * 2, none⟩) (by show sa_x8 ≠ g1; omega) (.int .i64 t.pl)).other (a := ⟨g1, k * 2 + 1, none⟩) (by show sa_x8 ≠ g1; omega) (.slice a5 t.ps.length c5)
      have yb := (hb1.setCell (p := ⟨g1, k * 2, none⟩) (by show WB.heap.size ≤ g1; omega) (.int .i64 t.pl)).setCell (p := ⟨g1, k * 2 + 1, none⟩) (by show WB.heap.size ≤ g1; omega) (.slice a5 t.ps.length c5)
      have HZ := hid (And.intro hU2 (And.intro y8 yb))
      clear hU1 x81 hb1 hU2 y8 yb hms hml
      go_wp2
      go_roundw
      case rel => exact ⟨k + 1, by omega, by simp, HZ.out⟩
      case measure => simp [intOf]; omega
    · have hkm : k = S.length := by omega
      have hkI : ¬ (k : Int) < (S.length : Int) := by omega
      rw [hkm, mid_end] at hU
      have h8l := x8.lt
      clear hkm
      go_wp2_with fail
      refine (hcp _ hR).mono ?_
      rintro e V5 ⟨aq, b2, k3, k4, rfl, hC, hb1, _⟩
      obtain ⟨g2, rfl, hg2, hV⟩ := CuM.ofC hC hm0
      have hg2l : g2 < V5.heap.size := by
        obtain ⟨_, ho, _⟩ := hV.ex
        exact (ho.lt g2 rfl).2
      clear hC
      clear c0 c1 c2
      replace x3 := x3.below hb1
      replace x8 := x8.below hb1
      replace hU := hU.below hb1
      replace hR := hR.below hb1 (Nat.le_refl _)
      replace hb := hb.trans (hb1.mono hb.size)
      clear hb1
      have hba := below_one (w := V5) (.cells #[.int .i64 p, .slice (some ⟨g2, 0, none⟩) S.length k3, .slice b2 O.length k4] 25)
      have HXa := hid (And.intro (x3.below hba) (And.intro (x8.below hba) (And.intro (hU.below hba) (And.intro (hV.below hba) (And.intro (hR.below hba (Nat.le_refl _)) (And.intro (hb.trans (hba.mono hb.size)) (Bx.new V5 #[.int .i64 p, .slice (some ⟨g2, 0, none⟩) S.length k3, .slice b2 O.length k4] 25)))))))
      clear hba hb x3 x8 hU hV hR
      go_upto_region 11 with fail
      obtain ⟨x3, x8, hU, hV, hR, hb, x10⟩ := HXa.out
      clear HXa
      generalize V5.heap.size = sa_x10 at *
      generalize World.alloc _ _ = Va_x10 at *
      have c0 := x3.cell 0 rfl; have c1 := x3.cell 1 rfl; have c2 := x3.cell 2 rfl
      have d0 := x8.cell 0 rfl; have d1 := x8.cell 1 rfl; have d2 := x8.cell 2 rfl
      have f0 := x10.cell 0 rfl; have f1 := x10.cell 1 rfl; have f2 := x10.cell 2 rfl
      have ewt : IntKind.i64.wrap (s.pl - ff) = s.pl + -ff := (IntWalk.i64_in _ (by omega)).trans (by omega)
      obtain ⟨m1, fr1, hV2⟩ := hV.setPl hg (x := s.pl + -ff) ⟨by omega, by omega⟩
      have y3 := x3.other (a := ⟨g2, i * 2, none⟩) (by show s3 ≠ g2; omega) (.int .i64 (s.pl + -ff))
      have y8 := x8.other (a := ⟨g2, i * 2, none⟩) (by show sa_x8 ≠ g2; omega) (.int .i64 (s.pl + -ff))
      have y10 := x10.other (a := ⟨g2, i * 2, none⟩) (by show sa_x10 ≠ g2; omega) (.int .i64 (s.pl + -ff))
      have yU := hU.gro (gsetR _ ⟨g2, i * 2, none⟩ (.int .i64 (s.pl + -ff))) (fun k hk => by injection hk with hk; have : g2 = k := hk; omega)
      have yb := hb.setCell (p := ⟨g2, i * 2, none⟩) (by show WB.heap.size ≤ g2; omega) (.int .i64 (s.pl + -ff))
      have HZ := hid (And.intro y3 (And.intro y8 (And.intro y10 (And.intro yU (And.intro hV2 yb)))))
      clear y3 y8 y10 yU hV2 yb x3 x8 x10 hU hV hb hR
      go_upto_region 12 with fail
      obtain ⟨x3, x8, x10, hU, hV, hb⟩ := HZ.out
      clear HZ c0 c1 c2 d0 d1 d2 f0 f1 f2 m1 fr1
      generalize World.setCell _ _ _ = V7 at *
      have hbd := (Below.refl V7.heap.size V7).drew
      replace hb := hb.trans (hbd.mono hb.size)
      have S0 := And.intro (x10.below hbd) (And.intro (x3.below hbd) (Below.keep hb q1B))
      replace x8 := x8.below hbd
      replace hU := hU.below hbd
      replace hV := hV.below hbd
      clear hbd x10 x3
      refine wp_region_head 12 (fun w' => Bx w' sa_x10 #[.int .i64 p, .slice (some ⟨g2, 0, none⟩) S.length k3, .slice b2 O.length k4] 25 ∧ Bx w' s3 #[.int .i64 p, .slice (some ⟨bs, os, none⟩) S.length cS, .slice aO O.length cO] 25 ∧ w'.cell? ⟨bs, os + i * 2 + 1, none⟩ = some (.slice a' s.ps.length c')) (by kernel_rfl) rfl ?_
      generalize V7.drew = Y0 at *
      refine HeadAt.take (i := 0) (.pointer (some ⟨sa_x10, 1, none⟩)) rfl (by kernel_rfl) (.inl ⟨rfl, fun _ _ => by simp [go_sem]⟩) S0 ?_
      (try simp only [Act.put, List.getElem_toArray, List.getElem_cons_succ, List.getElem_cons_zero, List.setIfInBounds_toArray, List.set_cons_succ, List.set_cons_zero])
      refine HeadAt.take (i := 1) (.slice (some ⟨g2, 0, none⟩) S.length k3) rfl (by kernel_rfl) (.inl ⟨rfl, fun w' z => ?_⟩) S0 ?_
      · (have z0 := z.1.cell 1 rfl; simp [go_sem, z0])
      (try simp only [Act.put, List.getElem_toArray, List.getElem_cons_succ, List.getElem_cons_zero, List.setIfInBounds_toArray, List.set_cons_succ, List.set_cons_zero])
      refine HeadAt.take (i := 2) (.int .i64 ff) rfl (by kernel_rfl) (.inl ⟨rfl, fun _ _ => by simp [go_sem]⟩) S0 ?_
      (try simp only [Act.put, List.getElem_toArray, List.getElem_cons_succ, List.getElem_cons_zero, List.setIfInBounds_toArray, List.set_cons_succ, List.set_cons_zero])
      refine HeadAt.take (i := 3) (.pointer (some ⟨s3, 1, none⟩)) rfl (by kernel_rfl) (.inl ⟨rfl, fun _ _ => by simp [go_sem]⟩) S0 ?_
      (try simp only [Act.put, List.getElem_toArray, List.getElem_cons_succ, List.getElem_cons_zero, List.setIfInBounds_toArray, List.set_cons_succ, List.set_cons_zero])
      refine HeadAt.take (i := 4) (.slice (some ⟨bs, os, none⟩) S.length cS) rfl (by kernel_rfl) (.inl ⟨rfl, fun w' z => ?_⟩) S0 ?_
      · (have z0 := z.2.1.cell 1 rfl; simp [go_sem, z0])
      (try simp only [Act.put, List.getElem_toArray, List.getElem_cons_succ, List.getElem_cons_zero, List.setIfInBounds_toArray, List.set_cons_succ, List.set_cons_zero])
      refine HeadAt.take (i := 5) (.int .i64 (i : Int)) rfl (by kernel_rfl) (.inl ⟨rfl, fun _ _ => by simp [go_sem]⟩) S0 ?_
      (try simp only [Act.put, List.getElem_toArray, List.getElem_cons_succ, List.getElem_cons_zero, List.setIfInBounds_toArray, List.set_cons_succ, List.set_cons_zero])
      refine HeadAt.take (i := 6) (.pointer (some ⟨bs, os + i * 2, none⟩)) rfl (by kernel_rfl) (.inl ⟨rfl, fun w' z => ?_⟩) S0 ?_
      · (simp [go_sem, hiI, hi0])
      (try simp only [Act.put, List.getElem_toArray, List.getElem_cons_succ, List.getElem_cons_zero, List.setIfInBounds_toArray, List.set_cons_succ, List.set_cons_zero])
      refine HeadAt.take (i := 7) (.pointer (some ⟨bs, os + i * 2 + 1, none⟩)) rfl (by kernel_rfl) (.inl ⟨rfl, fun _ _ => by simp [go_sem]⟩) S0 ?_
      (try simp only [Act.put, List.getElem_toArray, List.getElem_cons_succ, List.getElem_cons_zero, List.setIfInBounds_toArray, List.set_cons_succ, List.set_cons_zero])
      refine HeadAt.take (i := 8) (.slice a' s.ps.length c') rfl (by kernel_rfl) (.inl ⟨rfl, fun w' z => ?_⟩) S0 ?_
      · (have z0 := z.2.2; simp [go_sem, z0])
      (try simp only [Act.put, List.getElem_toArray, List.getElem_cons_succ, List.getElem_cons_zero, List.setIfInBounds_toArray, List.set_cons_succ, List.set_cons_zero])
      refine HeadAt.take (i := 9) (.agg #[.int .i64 ff, .slice a' s.ps.length c']) rfl (by kernel_rfl) (.inl ⟨rfl, fun w' z => ?_⟩) S0 ?_
      · (simp [go_sem])
      (try simp only [Act.put, List.getElem_toArray, List.getElem_cons_succ, List.getElem_cons_zero, List.setIfInBounds_toArray, List.set_cons_succ, List.set_cons_zero])
      refine HeadAt.one (i := 10) rfl (by kernel_rfl) ?_
      generalize hK : Upto _ _ = K0
      (try simp only [Act.put, List.getElem_toArray, List.getElem_cons_succ, List.getElem_cons_zero, List.setIfInBounds_toArray, List.set_cons_succ, List.set_cons_zero])
      have hba := below_one (w := Y0) (.cells #[.int .i64 ff, .slice a' s.ps.length c'] 39)
      have HY := hid (And.intro (And.intro (S0.1.below hba) (And.intro (S0.2.1.below hba) (Below.keep hba S0.2.2))) (And.intro (x8.below hba) (And.intro (hU.below hba) (And.intro (hV.below hba) (And.intro (hb.trans (hba.mono hb.size)) (Bx.new Y0 #[.int .i64 ff, .slice a' s.ps.length c'] 39))))))
      clear hba S0 x8 hU hV hb
      go_wp2_with fail
      obtain ⟨S0, x8, hU, hV, hb, hnx⟩ := HY.out
      clear HY
      generalize Y0.heap.size = gN at *
      generalize World.alloc _ _ = Y1 at *
      subst hK
      refine ⟨S0, ?_⟩
      (try simp only [Act.put, List.getElem_toArray, List.getElem_cons_succ, List.getElem_cons_zero, List.setIfInBounds_toArray, List.set_cons_succ, List.set_cons_zero])
      refine HeadAt.one (i := 11) rfl (by kernel_rfl) ?_
      generalize hK : Upto _ _ = K0
      (try simp only [Act.put, List.getElem_toArray, List.getElem_cons_succ, List.getElem_cons_zero, List.setIfInBounds_toArray, List.set_cons_succ, List.set_cons_zero])
      have hcl := Cls.of_bx hnx
      obtain ⟨cs, own, hwr⟩ := hV.ex
      rw [List.length_set] at own
      have hcsl : cs.length = (S.set i ⟨s.pl + -ff, s.ps⟩).length * 2 := by rw [own.1, List.length_set]
      have hglt := (own.lt g2 rfl).2
      have h10l := S0.1.lt
      have hPc := hPB.below hb (Nat.le_refl _)
      have hpb := fun (hn : s.ps ≠ []) (ad : Addr) (e : a' = some ad) => prs_lt hPB hn ad e
      go_wp2_with (at_builtin; refine wpList_appAt rfl _ _ 22 rfl _ 39 i0 _ 2 32 under22 hi0' iz0 iz1 iz2 rfl (by decide) (.slice (some ⟨g2, 0, none⟩) S.length k3) S.length cs rfl own (some ⟨gN, 0, none⟩) 1 1 [.int .i64 ff, .slice a' s.ps.length c'] rfl rfl hcl (by simp; exact ⟨rfl, rfl⟩) (by unfold maxLen; omega) (by omega) (by omega) ?_; intro v2 Y2 own4 hg4 hat)
      have hg4' : Y1.grownBy Y2 (some g2) := hg4
      obtain ⟨g3, c3, rfl⟩ := Go.Joins.ownsRow_form own4 (by omega)
      have hg3 : g3 = g2 ∨ g3 = Y1.heap.size := by
        rcases hat with h | h
        · left; simpa [Value.ownBlock] using h
        · right; simpa [Value.ownBlock] using h
      have hhi := hV.hi
      have hff : i64R ff := ⟨by omega, by omega⟩
      have hm3 : g3 = g2 ∨ sa_x10 ≤ g3 := by
        rcases hg3 with h | h
        · exact .inl h
        · right; rw [h]; exact hhi
      have hs5 : s.ps ≠ [] → ∀ ad, a' = some ad → ad.block ≠ g2 ∧ ad.block < sa_x10 := fun hn ad e => by have := hpb hn ad e; omega
      have hw4 := ((WR.snoc (s := ⟨ff, s.ps⟩) (c' := c') hwr hcsl hPc hpsl hff hs5).gro hg4' (fun k hk => .inl (Option.some.inj hk).symm)).move hm3
      have hV4 : CuM Y2 _ g3 sa_x10 b2 c3 k4 (cutL S i s ff) O := ⟨⟨_, by rw [cut_len]; exact own4, hw4⟩, ints_gro hV.ow hg4' (fun hne ad e e2 => by injection e2 with e2; exact (hV.own hne ad e).1 e2.symm), fun hne ad e => by
        have h1 := hV.own hne ad e
        refine ⟨fun e2 => ?_, h1.2⟩
        rcases hg3 with h | h
        · exact h1.1 (e2.trans h)
        · have := h1.2; omega, Nat.le_trans hV.hi hg4.size⟩
      have z3 := S0.2.1.gb hg4' (fun r hr => by injection hr with hr; omega)
      have z10 := S0.1.gb hg4' (fun r hr => by injection hr with hr; omega)
      have z8 := x8.gb hg4' (fun r hr => by injection hr with hr; omega)
      have zU := hU.gro hg4' (fun k hk => by injection hk with hk; omega)
      have zb := hb.grown hg4' (by have := hb.size; omega) (fun r hr => by injection hr with hr; omega)
      have zq := Below.keep zb q1B
      have S4 := And.intro z10 (And.intro z3 zq)
      clear S0 x8 hU hV hb hnx hcl own hwr hcsl hat hg4 hg4' own4 hw4 hPc z3 z10 zq
      subst hK
      refine ⟨S4, ?_⟩
      (try simp only [Act.put, List.getElem_toArray, List.getElem_cons_succ, List.getElem_cons_zero, List.setIfInBounds_toArray, List.set_cons_succ, List.set_cons_zero])
      refine HeadAt.done (by kernel_rfl) ?_
      (try simp only [Act.put, List.drop_succ_cons, List.drop_zero, List.getElem_toArray, List.getElem_cons_succ, List.getElem_cons_zero])
      obtain ⟨x10, x3, _⟩ := S4
      have f1 := x10.cell 1 rfl
      have fr1 := x10.free 1
      have hne3 : sa_x10 ≠ g3 := by omega
      have hgs := gsetR Y2 ⟨sa_x10, 1, none⟩ (.slice (some ⟨g3, 0, none⟩) (S.length + 1) c3)
      have y10 : Bx (Y2.setCell ⟨sa_x10, 1, none⟩ (.slice (some ⟨g3, 0, none⟩) (S.length + 1) c3)) sa_x10 #[.int .i64 p, .slice (some ⟨g3, 0, none⟩) (S.length + 1) c3, .slice b2 O.length k4] 25 := by simpa using x10.set 1 (.slice (some ⟨g3, 0, none⟩) (S.length + 1) c3)
      have y3 := x3.gb hgs (fun r hr => by injection hr with hr; have : sa_x10 = r := hr; omega)
      have y8 := z8.gb hgs (fun r hr => by injection hr with hr; have : sa_x10 = r := hr; omega)
      have yU := zU.gro hgs (fun r hr => by injection hr with hr; have : sa_x10 = r := hr; omega)
      have yV := hV4.gro hgs (fun r hr => by injection hr with hr; have : sa_x10 = r := hr; omega)
      have yb := zb.setCell (p := ⟨sa_x10, 1, none⟩) (by show WB.heap.size ≤ sa_x10; omega) (.slice (some ⟨g3, 0, none⟩) (S.length + 1) c3)
      have HZ := hid (And.intro y10 (And.intro y3 (And.intro y8 (And.intro yU (And.intro yV yb)))))
      clear y10 y3 y8 yU yV yb hgs x10 x3 z8 zU hV4 zb
      go_wp2_with fail
      refine NoPanic.normal ?_
      obtain ⟨x10, x3, x8, hU, hV4, hb⟩ := HZ.out
      clear HZ f1 fr1
      generalize World.setCell _ _ _ = V9 at *
      have hRp := hV4.ry (by rw [cut_len]; omega) hol hpr
      have hRo := hU.ry (by rw [rot_len]; omega) hol hpr
      have hR := hR2.below hb (Nat.le_refl _)
      clear hU hV4
      have hvR := rot_vB hv B
      have hvC := cut_vB hv hg (show S.length < 6 by omega) (show 0 ≤ ff by omega) (show ff ≤ s.pl by omega)
      have hs0 := fun V h => Shares_any p (some ⟨bs, os, none⟩) aO cS cO S O V h
      have hs1 := fun V h => Shares_any p (some ⟨g1, 0, none⟩) b1 k1 k2 (rotL S B) O V h
      have hs2 := fun V h => Shares_any p (some ⟨g3, 0, none⟩) b2 c3 k4 (cutL S i s ff) O V h
      rw [(rot_same S B).sh hv hvR, (rot_same S B).ask hv hvR, rot_len] at hs1
      rw [(cut_same hg ff).sh hv hvC, (cut_same hg ff).ask hv hvC, cut_len] at hs2
      have hl0 := fun V h => Lost_any p (some ⟨bs, os, none⟩) aO cS cO S O V h
      have hl1 := fun V h => Lost_any p (some ⟨g1, 0, none⟩) b1 k1 k2 (rotL S B) O V h
      have hl2 := fun V h => Lost_any p (some ⟨g3, 0, none⟩) b2 c3 k4 (cutL S i s ff) O V h
      rw [rot_lost hv, (rot_same S B).ask hv hvR, rot_len] at hl1
      rw [(cut_same hg ff).ask hv hvC, cut_len] at hl2
      have hz1 := cut_lost hv hg hvC
      have hz2 := lost_nn hv
      have hz3 := lost_le hvC
      have hx0 := fun who V h => Exact_any p (some ⟨bs, os, none⟩) aO cS cO S O who V h
      have hx1 : ∀ (who : Int) V, Ry V (some ⟨g1, 0, none⟩) b1 p (rotL S B) O → Calls Try.prog 22 #[.agg #[.int .i64 p, .slice (some ⟨g1, 0, none⟩) S.length k1, .slice b1 O.length k2], .int .i64 who] V fun e w' => e = .returned (.tuple #[.int .i64 (exU p S O who), .int .i64 (exL p S O who), .int .i64 (askE p S O (hasB O who))]) ∧ Below V.heap.size V w' := fun who V h => by
        have := Exact_any p (some ⟨g1, 0, none⟩) b1 k1 k2 (rotL S B) O who V h
        rw [(rot_same S B).exU hv hvR, (rot_same S B).exL hv hvR, (rot_same S B).ask hv hvR, rot_len] at this
        exact this
      have hx2 : ∀ (who : Int) V, Ry V (some ⟨g3, 0, none⟩) b2 p (cutL S i s ff) O → Calls Try.prog 22 #[.agg #[.int .i64 p, .slice (some ⟨g3, 0, none⟩) (S.length + 1) c3, .slice b2 O.length k4], .int .i64 who] V fun e w' => e = .returned (.tuple #[.int .i64 (exU p S O who), .int .i64 (exL p S O who), .int .i64 (askE p S O (hasB O who))]) ∧ Below V.heap.size V w' := fun who V h => by
        have := Exact_any p (some ⟨g3, 0, none⟩) b2 c3 k4 (cutL S i s ff) O who V h
        rw [(cut_same hg ff).exU hv hvC, (cut_same hg ff).exL hv hvC, (cut_same hg ff).ask hv hvC, cut_len] at this
        exact this
      have hpe : askE p S O true = errO S := by unfold askE errO; rw [if_pos hv, if_pos rfl]
      have hpn : ∀ V, Ry V (some ⟨bs, os, none⟩) aO p S O → Calls Try.prog 16 #[.agg #[.int .i64 p, .slice (some ⟨bs, os, none⟩) S.length cS, .slice aO O.length cO], .int .i64 (askE p S O true)] V fun e w' => e = .returned (.bool true) ∧ Below V.heap.size V w' := fun V h => by
        have := plain_any p (some ⟨bs, os, none⟩) aO cS cO S O (askE p S O true) V h hV
        rw [decide_eq_true hpe] at this
        exact this
      clear hpe hvR hvC
      generalize lostV p S O = Z at *
      generalize lostV p (cutL S i s ff) O = Z2 at *
      generalize askE p S O true = E at *
      generalize shR p S O = L at *
      have hsi := fun a b c d V h h' => SameInts_eq a b c d L V h h'
      have c0 := x3.cell 0 rfl; have c1 := x3.cell 1 rfl; have c2 := x3.cell 2 rfl
      have d0 := x8.cell 0 rfl; have d1 := x8.cell 1 rfl; have d2 := x8.cell 2 rfl
      have f0 := x10.cell 0 rfl; have f1 := x10.cell 1 rfl; have f2 := x10.cell 2 rfl
      go_wp2_with fail
      refine (hs0 _ hR).mono ?_
      rintro e Vc20 ⟨a1, e1, rfl, hI1, hb1⟩
      clear c0 c1 c2
      clear f0 f1 f2
      clear d0 d1 d2
      replace x3 := x3.below hb1
      replace x8 := x8.below hb1
      replace x10 := x10.below hb1
      replace hR := hR.below hb1 (Nat.le_refl _)
      replace hRo := hRo.below hb1 (Nat.le_refl _)
      replace hRp := hRp.below hb1 (Nat.le_refl _)
      replace hb := hb.trans (hb1.mono hb.size)
      clear hb1
      have c0 := x3.cell 0 rfl; have c1 := x3.cell 1 rfl; have c2 := x3.cell 2 rfl
      have d0 := x8.cell 0 rfl; have d1 := x8.cell 1 rfl; have d2 := x8.cell 2 rfl
      have f0 := x10.cell 0 rfl; have f1 := x10.cell 1 rfl; have f2 := x10.cell 2 rfl
      clear hs0
      go_wp2_with fail
      refine (hs1 _ hRo).mono ?_
      rintro e Vc21 ⟨a2, e2, rfl, hI2, hb1⟩
      clear c0 c1 c2
      clear f0 f1 f2
      clear d0 d1 d2
      replace x3 := x3.below hb1
      replace x8 := x8.below hb1
      replace x10 := x10.below hb1
      replace hR := hR.below hb1 (Nat.le_refl _)
      replace hRo := hRo.below hb1 (Nat.le_refl _)
      replace hRp := hRp.below hb1 (Nat.le_refl _)
      replace hI1 := hI1.below hb1 (Nat.le_refl _)
      replace hb := hb.trans (hb1.mono hb.size)
      clear hb1
      have c0 := x3.cell 0 rfl; have c1 := x3.cell 1 rfl; have c2 := x3.cell 2 rfl
      have d0 := x8.cell 0 rfl; have d1 := x8.cell 1 rfl; have d2 := x8.cell 2 rfl
      have f0 := x10.cell 0 rfl; have f1 := x10.cell 1 rfl; have f2 := x10.cell 2 rfl
      clear hs1
      go_wp2_with fail
      refine (hs2 _ hRp).mono ?_
      rintro e Vc22 ⟨a3, e3, rfl, hI3, hb1⟩
      clear c0 c1 c2
      clear f0 f1 f2
      clear d0 d1 d2
      replace x3 := x3.below hb1
      replace x8 := x8.below hb1
      replace x10 := x10.below hb1
      replace hR := hR.below hb1 (Nat.le_refl _)
      replace hRo := hRo.below hb1 (Nat.le_refl _)
      replace hRp := hRp.below hb1 (Nat.le_refl _)
      replace hI1 := hI1.below hb1 (Nat.le_refl _)
      replace hI2 := hI2.below hb1 (Nat.le_refl _)
      replace hb := hb.trans (hb1.mono hb.size)
      clear hb1
      have c0 := x3.cell 0 rfl; have c1 := x3.cell 1 rfl; have c2 := x3.cell 2 rfl
      have d0 := x8.cell 0 rfl; have d1 := x8.cell 1 rfl; have d2 := x8.cell 2 rfl
      have f0 := x10.cell 0 rfl; have f1 := x10.cell 1 rfl; have f2 := x10.cell 2 rfl
      clear hs2
      go_wp2_with fail
      refine (hpn _ hR).mono ?_
      rintro e Vc23 ⟨rfl, hb1⟩
      clear c0 c1 c2
      clear f0 f1 f2
      clear d0 d1 d2
      replace x3 := x3.below hb1
      replace x8 := x8.below hb1
      replace x10 := x10.below hb1
      replace hR := hR.below hb1 (Nat.le_refl _)
      replace hRo := hRo.below hb1 (Nat.le_refl _)
      replace hRp := hRp.below hb1 (Nat.le_refl _)
      replace hI1 := hI1.below hb1 (Nat.le_refl _)
      replace hI2 := hI2.below hb1 (Nat.le_refl _)
      replace hI3 := hI3.below hb1 (Nat.le_refl _)
      replace hb := hb.trans (hb1.mono hb.size)
      clear hb1
      have c0 := x3.cell 0 rfl; have c1 := x3.cell 1 rfl; have c2 := x3.cell 2 rfl
      have d0 := x8.cell 0 rfl; have d1 := x8.cell 1 rfl; have d2 := x8.cell 2 rfl
      have f0 := x10.cell 0 rfl; have f1 := x10.cell 1 rfl; have f2 := x10.cell 2 rfl
      clear hpn
      go_wp2_with fail
      refine (hsi _ _ _ _ _ hI1 hI2).mono ?_
      rintro e Vc24 ⟨rfl, hb1⟩
      clear c0 c1 c2
      clear f0 f1 f2
      clear d0 d1 d2
      replace x3 := x3.below hb1
      replace x8 := x8.below hb1
      replace x10 := x10.below hb1
      replace hR := hR.below hb1 (Nat.le_refl _)
      replace hRo := hRo.below hb1 (Nat.le_refl _)
      replace hRp := hRp.below hb1 (Nat.le_refl _)
      replace hI1 := hI1.below hb1 (Nat.le_refl _)
      replace hI2 := hI2.below hb1 (Nat.le_refl _)
      replace hI3 := hI3.below hb1 (Nat.le_refl _)
      replace hb := hb.trans (hb1.mono hb.size)
      clear hb1
      have c0 := x3.cell 0 rfl; have c1 := x3.cell 1 rfl; have c2 := x3.cell 2 rfl
      have d0 := x8.cell 0 rfl; have d1 := x8.cell 1 rfl; have d2 := x8.cell 2 rfl
      have f0 := x10.cell 0 rfl; have f1 := x10.cell 1 rfl; have f2 := x10.cell 2 rfl
      go_wp2_with fail
      refine (hsi _ _ _ _ _ hI1 hI3).mono ?_
      rintro e Vc25 ⟨rfl, hb1⟩
      clear c0 c1 c2
      clear f0 f1 f2
      clear d0 d1 d2
      replace x3 := x3.below hb1
      replace x8 := x8.below hb1
      replace x10 := x10.below hb1
      replace hR := hR.below hb1 (Nat.le_refl _)
      replace hRo := hRo.below hb1 (Nat.le_refl _)
      replace hRp := hRp.below hb1 (Nat.le_refl _)
      replace hI1 := hI1.below hb1 (Nat.le_refl _)
      replace hI2 := hI2.below hb1 (Nat.le_refl _)
      replace hI3 := hI3.below hb1 (Nat.le_refl _)
      replace hb := hb.trans (hb1.mono hb.size)
      clear hb1
      have c0 := x3.cell 0 rfl; have c1 := x3.cell 1 rfl; have c2 := x3.cell 2 rfl
      have d0 := x8.cell 0 rfl; have d1 := x8.cell 1 rfl; have d2 := x8.cell 2 rfl
      have f0 := x10.cell 0 rfl; have f1 := x10.cell 1 rfl; have f2 := x10.cell 2 rfl
      clear hI1
      clear hI2
      clear hI3
      go_wp2_with fail
      refine (hl0 _ hR).mono ?_
      rintro e Vc26 ⟨rfl, hb1⟩
      clear c0 c1 c2
      clear f0 f1 f2
      clear d0 d1 d2
      replace x3 := x3.below hb1
      replace x8 := x8.below hb1
      replace x10 := x10.below hb1
      replace hR := hR.below hb1 (Nat.le_refl _)
      replace hRo := hRo.below hb1 (Nat.le_refl _)
      replace hRp := hRp.below hb1 (Nat.le_refl _)
      replace hb := hb.trans (hb1.mono hb.size)
      clear hb1
      have c0 := x3.cell 0 rfl; have c1 := x3.cell 1 rfl; have c2 := x3.cell 2 rfl
      have d0 := x8.cell 0 rfl; have d1 := x8.cell 1 rfl; have d2 := x8.cell 2 rfl
      have f0 := x10.cell 0 rfl; have f1 := x10.cell 1 rfl; have f2 := x10.cell 2 rfl
      clear hl0
      go_wp2_with fail
      refine (hl1 _ hRo).mono ?_
      rintro e Vc27 ⟨rfl, hb1⟩
      clear c0 c1 c2
      clear f0 f1 f2
      clear d0 d1 d2
      replace x3 := x3.below hb1
      replace x8 := x8.below hb1
      replace x10 := x10.below hb1
      replace hR := hR.below hb1 (Nat.le_refl _)
      replace hRo := hRo.below hb1 (Nat.le_refl _)
      replace hRp := hRp.below hb1 (Nat.le_refl _)
      replace hb := hb.trans (hb1.mono hb.size)
      clear hb1
      have c0 := x3.cell 0 rfl; have c1 := x3.cell 1 rfl; have c2 := x3.cell 2 rfl
      have d0 := x8.cell 0 rfl; have d1 := x8.cell 1 rfl; have d2 := x8.cell 2 rfl
      have f0 := x10.cell 0 rfl; have f1 := x10.cell 1 rfl; have f2 := x10.cell 2 rfl
      clear hl1
      go_wp2_with fail
      refine (hl2 _ hRp).mono ?_
      rintro e Vc28 ⟨rfl, hb1⟩
      clear c0 c1 c2
      clear f0 f1 f2
      clear d0 d1 d2
      replace x3 := x3.below hb1
      replace x8 := x8.below hb1
      replace x10 := x10.below hb1
      replace hR := hR.below hb1 (Nat.le_refl _)
      replace hRo := hRo.below hb1 (Nat.le_refl _)
      replace hRp := hRp.below hb1 (Nat.le_refl _)
      replace hb := hb.trans (hb1.mono hb.size)
      clear hb1
      have c0 := x3.cell 0 rfl; have c1 := x3.cell 1 rfl; have c2 := x3.cell 2 rfl
      have d0 := x8.cell 0 rfl; have d1 := x8.cell 1 rfl; have d2 := x8.cell 2 rfl
      have f0 := x10.cell 0 rfl; have f1 := x10.cell 1 rfl; have f2 := x10.cell 2 rfl
      clear hl2
      generalize Vc28 = WZ at *
      have hbO := hid hb
      clear hb
      go_wp2
      clear c0 c1 c2 d0 d1 d2 f0 f1 f2
      go_loopw [20] (fun u20 wr => ∃ k : Nat, k ≤ O.length ∧ u20 = .int .i64 (k : Int) ∧ Below WZ.heap.size WZ wr) (fun u20 _ => O.length - (intOf u20).toNat)
      case atStart => exact ⟨0, Nat.zero_le _, rfl, Below.refl _ _⟩
      case round =>
        obtain ⟨k, hk, rfl, hb⟩ := hrel
        have y3 := x3.below hb
        have y8 := x8.below hb
        have y10 := x10.below hb
        have hRk := hR.below hb (Nat.le_refl _)
        have hRok := hRo.below hb (Nat.le_refl _)
        have hRpk := hRp.below hb (Nat.le_refl _)
        have hxa := hx0 (k : Int)
        have hxb := hx1 (k : Int)
        have hxc := hx2 (k : Int)
        generalize exU p S O (k : Int) = U at *
        generalize exL p S O (k : Int) = D at *
        generalize askE p S O (hasB O (k : Int)) = F at *
        by_cases hlt : k < O.length
        · have hkI : (k : Int) < (O.length : Int) := by omega
          have c0 := y3.cell 0 rfl; have c1 := y3.cell 1 rfl; have c2 := y3.cell 2 rfl
          have d0 := y8.cell 0 rfl; have d1 := y8.cell 1 rfl; have d2 := y8.cell 2 rfl
          have f0 := y10.cell 0 rfl; have f1 := y10.cell 1 rfl; have f2 := y10.cell 2 rfl
          go_wp2_with fail
          refine (hxa _ hRk).mono ?_
          rintro e Vc29 ⟨rfl, hb1⟩
          clear c0 c1 c2
          clear d0 d1 d2
          clear f0 f1 f2
          replace y3 := y3.below hb1
          replace y8 := y8.below hb1
          replace y10 := y10.below hb1
          replace hRk := hRk.below hb1 (Nat.le_refl _)
          replace hRok := hRok.below hb1 (Nat.le_refl _)
          replace hRpk := hRpk.below hb1 (Nat.le_refl _)
          replace hb := hb.trans (hb1.mono hb.size)
          clear hb1
          have c0 := y3.cell 0 rfl; have c1 := y3.cell 1 rfl; have c2 := y3.cell 2 rfl
          have d0 := y8.cell 0 rfl; have d1 := y8.cell 1 rfl; have d2 := y8.cell 2 rfl
          have f0 := y10.cell 0 rfl; have f1 := y10.cell 1 rfl; have f2 := y10.cell 2 rfl
          clear hxa
          go_wp2_with fail
          refine (hxb _ hRok).mono ?_
          rintro e Vc30 ⟨rfl, hb1⟩
          clear c0 c1 c2
          clear d0 d1 d2
          clear f0 f1 f2
          replace y3 := y3.below hb1
          replace y8 := y8.below hb1
          replace y10 := y10.below hb1
          replace hRk := hRk.below hb1 (Nat.le_refl _)
          replace hRok := hRok.below hb1 (Nat.le_refl _)
          replace hRpk := hRpk.below hb1 (Nat.le_refl _)
          replace hb := hb.trans (hb1.mono hb.size)
          clear hb1
          have c0 := y3.cell 0 rfl; have c1 := y3.cell 1 rfl; have c2 := y3.cell 2 rfl
          have d0 := y8.cell 0 rfl; have d1 := y8.cell 1 rfl; have d2 := y8.cell 2 rfl
          have f0 := y10.cell 0 rfl; have f1 := y10.cell 1 rfl; have f2 := y10.cell 2 rfl
          clear hxb
          go_wp2_with fail
          refine (hxc _ hRpk).mono ?_
          rintro e Vc31 ⟨rfl, hb1⟩
          clear c0 c1 c2
          clear d0 d1 d2
          clear f0 f1 f2
          replace y3 := y3.below hb1
          replace y8 := y8.below hb1
          replace y10 := y10.below hb1
          replace hRk := hRk.below hb1 (Nat.le_refl _)
          replace hRok := hRok.below hb1 (Nat.le_refl _)
          replace hRpk := hRpk.below hb1 (Nat.le_refl _)
          replace hb := hb.trans (hb1.mono hb.size)
          clear hb1
          have c0 := y3.cell 0 rfl; have c1 := y3.cell 1 rfl; have c2 := y3.cell 2 rfl
          have d0 := y8.cell 0 rfl; have d1 := y8.cell 1 rfl; have d2 := y8.cell 2 rfl
          have f0 := y10.cell 0 rfl; have f1 := y10.cell 1 rfl; have f2 := y10.cell 2 rfl
          clear hxc
          go_wp2
          go_roundw
          case rel => exact ⟨k + 1, by omega, by simp, hb⟩
          case measure => simp [intOf]; omega
        · have hkI : ¬ (k : Int) < (O.length : Int) := by omega
          have hbB := hbO.out.trans (hb.mono hbO.out.size)
          replace hb := hbW.out.trans (hbB.mono hbW.out.size)
          clear hbB hRk hRok hRpk hxa hxb hxc
          have c0 := y3.cell 0 rfl; have c1 := y3.cell 1 rfl; have c2 := y3.cell 2 rfl
          have d0 := y8.cell 0 rfl; have d1 := y8.cell 1 rfl; have d2 := y8.cell 2 rfl
          have f0 := y10.cell 0 rfl; have f1 := y10.cell 1 rfl; have f2 := y10.cell 2 rfl
          go_wp2_with fail
          refine (hwk _).mono ?_
          rintro e Vw ⟨rfl, hbw9⟩
          clear c0 c1 c2
          clear d0 d1 d2
          clear f0 f1 f2
          replace hb := hb.trans (hbw9.mono hb.size)
          go_wp2
          go_ret
          exact ⟨rfl, hb⟩
end Go.Proofs.Ytakodllejndfeaa
