import Derived.Test.YtmpihcencnkpbaaTH
/-! WiresFine: its walk. -/
namespace Go.Proofs.Ytmpihcencnkpbaa
set_option linter.unusedSimpArgs false
set_option linter.unusedVariables false
open Go Go.RowKit

set_option maxRecDepth 100000 in
set_option maxHeartbeats 1000000 in
theorem wiresFine_any (L N : Int) (aP : Option Addr) (cP : Nat) (P : List F3) (F : Int) (w : World) (hS : WiIn w aP cP P) : Calls Try.prog 13 #[.agg #[.int .i64 L, .int .i64 N, .slice aP P.length cP, .int .i64 F]] w fun e w' => e = .returned (.bool true) ∧ Below w.heap.size w w' := by
  obtain ⟨W, hW, hb, hs, x0⟩ := boxes1 w #[.int .i64 L, .int .i64 N, .slice aP P.length cP, .int .i64 F] 24
  have hP := hS.pz.below hb (Nat.le_refl _)
  have hwk := works_any
  have hrd := fun V (h : Pz V aP P) => ready_any L N aP cP P F V h
  have hok := fun h => rdB_ok (L := L) (N := N) (F := F) (P := P) h
  generalize rdB L N P F = r at *
  clear hS
  have c0 := x0.cell 0 rfl; have c1 := x0.cell 1 rfl; have c2 := x0.cell 2 rfl; have c3 := x0.cell 3 rfl
  cases r
  · skip
    clear hok
    go_enter Try.func13, Try.ntmps13
    go_wp2_with fail
    refine (hrd _ hP).mono ?_
    rintro e Vc1 ⟨rfl, hb1⟩
    clear c0 c1 c2 c3
    replace x0 := x0.below hb1
    replace hP := hP.below hb1 (Nat.le_refl _)
    replace hb := hb.trans (hb1.mono hb.size)
    clear hb1 hW
    have c0 := x0.cell 0 rfl; have c1 := x0.cell 1 rfl; have c2 := x0.cell 2 rfl; have c3 := x0.cell 3 rfl
    go_wp2_with fail
    refine (hwk _).mono ?_
    rintro e Vw ⟨rfl, hbw9⟩
    clear c0 c1 c2 c3
    replace hb := hb.trans (hbw9.mono hb.size)
    go_wp2
    go_ret
    exact ⟨rfl, hb⟩
  · skip
    have hv := (hok rfl).1
    clear hok
    obtain ⟨hL, hN, hP8, _, _⟩ := vB_siz hv
    have hpr := vB_pr hv
    have hfl := fine_law hv
    have hcp := fun V (h : Fz V aP P) => Copy_any L N aP cP P F V h
    unfold CpP at hcp
    have hpl := fun (x : F3) (hx : x ∈ P) V (h : Pz V aP P) => Plays_any L N aP cP P F none 0 [] x.k x.a V h (Fz.nil _ _) (Nat.le_refl _)
    have hpl2 : ∀ x ∈ P, plE L N P F [] x.k x.a = 0 ∧ plR L N P F [] x.k x.a = x.k * N + x.a := fun x hx => by
      have h1 : prB L N x.k x.a = true := prB_mk hL hN (hpr x hx).1 (hpr x hx).2
      have h2 : plE L N P F [] x.k x.a = 0 := by
        unfold plE chE
        rw [hv, h1]; rfl
      exact ⟨h2, by unfold plR; rw [if_pos h2]; rfl⟩
    have HPL := hid (fun (x : F3) (hx : x ∈ P) V (h : Pz V aP P) => (show Calls Try.prog 18 #[.agg #[.int .i64 L, .int .i64 N, .slice aP P.length cP, .int .i64 F], .slice none 0 0, .int .i64 x.k, .int .i64 x.a] V fun e w' => e = .returned (.tuple #[.int .i64 (x.k * N + x.a), .int .i64 0]) ∧ Below V.heap.size V w' by
      have := hpl x hx V h
      rw [(hpl2 x hx).1, (hpl2 x hx).2] at this
      exact this))
    have HMR := hid (fun (x : F3) (hx : x ∈ P) => mul_rng hL hN (hpr x hx).1 (hpr x hx).2)
    obtain ⟨f1, f2, f3, f4⟩ := hfl
    have hlq : (P.map (finP N)).length = P.length := List.length_map _
    have HFE := hid (And.intro hlq (And.intro (And.intro f1 f2) (And.intro f3 f4)))
    have hi64 : ∀ x ∈ P.map (finP N), x.i64 := fun x hx => by
      obtain ⟨q, hq, rfl⟩ := List.mem_map.1 hx
      obtain ⟨a1, a2⟩ := hpr q hq
      obtain ⟨b1, b2, b3⟩ := mul_rng hL hN a1 a2
      refine ⟨⟨?_, ?_⟩, ⟨?_, ?_⟩, ⟨?_, ?_⟩⟩ <;> simp only [finP] <;> omega
    have HI := hid hi64
    clear hpl hpl2 hpr f1 f2 f3 f4 hv hlq hi64
    obtain ⟨n, hn⟩ : ∃ n, n = P.length := ⟨_, rfl⟩
    have HM := hid hn
    rw [← hn] at hrd hcp HPL x0 hW hP8 ⊢
    clear hn c0 c1 c2 c3
    have c0 := x0.cell 0 rfl; have c1 := x0.cell 1 rfl; have c2 := x0.cell 2 rfl; have c3 := x0.cell 3 rfl
    go_enter Try.func13, Try.ntmps13
    go_wp2_with fail
    refine (hrd _ hP).mono ?_
    rintro e Vc3 ⟨rfl, hb1⟩
    clear c0 c1 c2 c3
    replace x0 := x0.below hb1
    replace hP := hP.below hb1 (Nat.le_refl _)
    replace hb := hb.trans (hb1.mono hb.size)
    clear hb1 hW hrd
    have hP0 := hP.2 (by have := HM.out; omega)
    obtain ⟨B1, hB1⟩ : ∃ B1, B1 = Vc3.heap.size := ⟨_, rfl⟩
    have c0 := x0.cell 0 rfl; have c1 := x0.cell 1 rfl; have c2 := x0.cell 2 rfl; have c3 := x0.cell 3 rfl
    go_wp2_with fail
    refine (hcp _ hP0).mono ?_
    rintro e V2 ⟨hb1, a, c, rfl, hown⟩
    clear c0 c1 c2 c3 hcp
    have hFn : FnR Vc3.heap.size V2.heap.size c a n P V2 := ⟨hown, fun g hg => (hown.lt g hg).2⟩
    have x0q := x0.below hb1
    have hba := below_one (w := V2) (.cells #[.int .i64 L, .int .i64 N, .slice a n c, .int .i64 F] 24)
    have hbr0 := hb1.trans (hba.mono hb1.size)
    have hFn1 := hFn.below hba
    have HXa := hid (And.intro (x0q.below hba) (And.intro hFn1 (And.intro hbr0 (Bx.new V2 #[.int .i64 L, .int .i64 N, .slice a n c, .int .i64 F] 24))))
    clear hown hFn hba hbr0 hFn1
    have c0 := x0q.cell 0 rfl; have c1 := x0q.cell 1 rfl; have c2 := x0q.cell 2 rfl; have c3 := x0q.cell 3 rfl
    go_upto_region 4 with fail
    clear c0 c1 c2 c3 x0q
    obtain ⟨x0r, hFn, hbr, x7⟩ := HXa.out
    clear HXa
    have hTT := hb1.size
    obtain ⟨sa, hsa⟩ : ∃ sa, sa = V2.heap.size := ⟨_, rfl⟩
    rw [← hsa] at hFn x7 hTT ⊢
    clear hb1 hsa
    generalize World.alloc _ _ = Va at *
    have c0 := x0r.cell 0 rfl; have c1 := x0r.cell 1 rfl; have c2 := x0r.cell 2 rfl; have c3 := x0r.cell 3 rfl
    have d0 := x7.cell 0 rfl; have d1 := x7.cell 1 rfl; have d2 := x7.cell 2 rfl; have d3 := x7.cell 3 rfl
    go_wp2
    clear c0 c1 c2 c3 d0 d1 d2 d3 x0r
    go_loopg [4, 5, 6] n (fun g v4 v5 v6 wr => ∃ (i : Nat) (X : List F3), i + g = n ∧ v4 = .int .i64 (i : Int) ∧ Hid (X = (P.take i).map (finP N) ++ P.drop i) ∧ FnR Vc3.heap.size sa c a n X wr ∧ Bx wr sa #[.int .i64 L, .int .i64 N, .slice a n c, .int .i64 F] 24 ∧ Below Vc3.heap.size Vc3 wr)
    case atStart => exact ⟨0, P, by omega, rfl, hid (by simp), hFn, x7, hbr⟩
    case round =>
      clear hFn x7 hbr
      obtain ⟨i, X, hig, rfl, hX, hFn, x7, hbr⟩ := hrel
      have x0r := x0.below hbr
      have hPr := hP.below hbr (Nat.le_refl _)
      cases gk with
      | zero =>
        obtain rfl : i = n := by omega
        have hiI : ¬ (i : Int) < (i : Int) := by omega
        have hXe : X = P.map (finP N) := by rw [hX.out, HM.out, List.take_length, List.drop_length, List.append_nil]
        subst hXe
        have hFz := cp_row hFn.1 (by rw [HFE.out.1, HM.out]) HI.out (by rw [HFE.out.1, ← HM.out]; omega)
        have hfw := fun V (h : Pz V a (P.map (finP N))) => Fewest_any L N a c (P.map (finP N)) F V h
        have hsr := fun V (h : Pz V a (P.map (finP N))) => Sure_any L N a c (P.map (finP N)) F V h
        unfold CtP at hsr
        rw [HFE.out.1, ← HM.out, HFE.out.2.1.1, HFE.out.2.1.2] at hfw
        rw [HFE.out.1, ← HM.out, HFE.out.2.2.1, HFE.out.2.2.2] at hsr
        replace hb := hb.trans (hbr.mono hb.size)
        clear hPr hX hFn HPL HMR HI hP8 x0r hbr
        have d0 := x7.cell 0 rfl; have d1 := x7.cell 1 rfl; have d2 := x7.cell 2 rfl; have d3 := x7.cell 3 rfl
        go_wp2_with fail
        refine (hfw _ hFz.pz).mono ?_
        rintro e Vc4 ⟨rfl, hb1⟩
        clear d0 d1 d2 d3
        replace x7 := x7.below hb1
        replace hFz := hFz.below hb1 (Nat.le_refl _)
        replace hb := hb.trans (hb1.mono hb.size)
        clear hb1 hfw
        have d0 := x7.cell 0 rfl; have d1 := x7.cell 1 rfl; have d2 := x7.cell 2 rfl; have d3 := x7.cell 3 rfl
        go_wp2_with fail
        refine (hsr _ hFz.pz).mono ?_
        rintro e Vc5 ⟨hb1, a2, c2, rfl, _⟩
        clear d0 d1 d2 d3
        replace x7 := x7.below hb1
        replace hFz := hFz.below hb1 (Nat.le_refl _)
        replace hb := hb.trans (hb1.mono hb.size)
        clear hb1 hsr
        have d0 := x7.cell 0 rfl; have d1 := x7.cell 1 rfl; have d2 := x7.cell 2 rfl; have d3 := x7.cell 3 rfl
        go_wp2_with fail
        refine (hwk _).mono ?_
        rintro e Vw ⟨rfl, hbw9⟩
        clear d0 d1 d2 d3
        replace hb := hb.trans (hbw9.mono hb.size)
        go_wp2
        go_ret
        exact ⟨rfl, hb⟩
      | succ g =>
        have hin : i < n := by omega
        have hlX : n = X.length := by
          rw [hX.out, List.length_append, List.length_map, List.length_take, List.length_drop, ← HM.out]; omega
        obtain ⟨gb, off, x, rfl, hgr, hat, hxi, hset⟩ := hFn.at hlX hin
        have hiI : (i : Int) < (n : Int) := by omega
        have hi0 : (0 : Int) ≤ (i : Int) := by omega
        have hst := fin_step (N := N) (P := P) (i := i) (x := x) (by rw [← hX.out]; exact hxi.out) (by rw [← HM.out]; exact hin)
        have hxm : x ∈ P := List.mem_of_getElem? hst.1
        have hplx := HPL.out x hxm
        obtain ⟨⟨m1, m2⟩, ⟨m3, m4⟩, m5, m6⟩ := HMR.out x hxm
        have hSx : X.set i ⟨x.k, x.a, x.k * N + x.a⟩ = (P.take (i + 1)).map (finP N) ++ P.drop (i + 1) := by
          have := hst.2
          rw [← hX.out] at this; exact this
        obtain ⟨v, hv⟩ : ∃ v, v = x.k * N + x.a := ⟨_, rfl⟩
        rw [← hv] at hplx hSx
        have hwa : IntKind.i64.wrap (x.k * N + x.a) = v := by rw [IntWalk.i64_in _ (by omega)]; exact hv.symm
        obtain ⟨u, hu⟩ : ∃ u, u = x.k * N := ⟨_, rfl⟩
        have hwm : IntKind.i64.wrap (x.k * N) = u := by rw [IntWalk.i64_in _ (by omega)]; exact hu.symm
        rw [← hu] at hwa
        have HSX := hid hSx
        clear hv hu m1 m2 m3 m4 m5 m6 hlX hX hst hxi hxm hSx
        have d0 := x7.cell 0 rfl; have d1 := x7.cell 1 rfl; have d2 := x7.cell 2 rfl; have d3 := x7.cell 3 rfl
        go_upto_region 7 with fail
        clear d0 d1 d2 d3
        have hbd := (Below.refl wr.heap.size wr).drew
        have S0 := (And.intro (x0r.below hbd) (And.intro (x7.below hbd) (And.intro (hat.below hbd) (And.intro (hFn.below hbd) (hPr.below hbd (Nat.le_refl _))))))
        replace hbr := hbr.trans (hbd.mono hbr.size)
        clear hbd x0r x7 hat hFn hPr
        refine wp_region_head 18 (fun w' => (Bx w' w.heap.size #[.int .i64 L, .int .i64 N, .slice aP n cP, .int .i64 F] 24) ∧ (Bx w' sa #[.int .i64 L, .int .i64 N, .slice (some ⟨gb, off, none⟩) n c, .int .i64 F] 24) ∧ (AtB w' gb (off + i * 3) x) ∧ (FnR Vc3.heap.size sa c (some ⟨gb, off, none⟩) n X w') ∧ (Pz w' aP P)) (by kernel_rfl) rfl ?_
        generalize wr.drew = Y0 at *
        refine HeadAt.take (i := 0) (.agg #[.int .i64 L, .int .i64 N, .slice aP n cP, .int .i64 F]) rfl (by kernel_rfl) (.inl ⟨rfl, fun w' z => ?_⟩) S0 ?_
        · (have z0 := z.1.cell 0 rfl; have z1 := z.1.cell 1 rfl; have z2 := z.1.cell 2 rfl; have z3 := z.1.cell 3 rfl; simp [go_sem, z0, z1, z2, z3])
        (try simp only [Act.put, List.getElem_toArray, List.getElem_cons_succ, List.getElem_cons_zero, List.setIfInBounds_toArray, List.set_cons_succ, List.set_cons_zero])
        refine HeadAt.take (i := 1) (.pointer (some ⟨sa, 2, none⟩)) rfl (by kernel_rfl) (.inl ⟨rfl, fun _ _ => by simp [go_sem]⟩) S0 ?_
        (try simp only [Act.put, List.getElem_toArray, List.getElem_cons_succ, List.getElem_cons_zero, List.setIfInBounds_toArray, List.set_cons_succ, List.set_cons_zero])
        refine HeadAt.take (i := 2) (.slice (some ⟨gb, off, none⟩) n c) rfl (by kernel_rfl) (.inl ⟨rfl, fun w' z => ?_⟩) S0 ?_
        · (have z0 := z.2.1.cell 2 rfl; simp [go_sem, z0])
        (try simp only [Act.put, List.getElem_toArray, List.getElem_cons_succ, List.getElem_cons_zero, List.setIfInBounds_toArray, List.set_cons_succ, List.set_cons_zero])
        refine HeadAt.take (i := 3) (.int .i64 (i : Int)) rfl (by kernel_rfl) (.inl ⟨rfl, fun _ _ => by simp [go_sem]⟩) S0 ?_
        (try simp only [Act.put, List.getElem_toArray, List.getElem_cons_succ, List.getElem_cons_zero, List.setIfInBounds_toArray, List.set_cons_succ, List.set_cons_zero])
        refine HeadAt.take (i := 4) (.pointer (some ⟨gb, off + i * 3, none⟩)) rfl (by kernel_rfl) (.inl ⟨rfl, fun w' z => ?_⟩) S0 ?_
        · (simp [go_sem, hiI, hi0])
        (try simp only [Act.put, List.getElem_toArray, List.getElem_cons_succ, List.getElem_cons_zero, List.setIfInBounds_toArray, List.set_cons_succ, List.set_cons_zero])
        refine HeadAt.take (i := 5) (.pointer (some ⟨gb, off + i * 3, none⟩)) rfl (by kernel_rfl) (.inl ⟨rfl, fun w' z => ?_⟩) S0 ?_
        · (simp [go_sem])
        (try simp only [Act.put, List.getElem_toArray, List.getElem_cons_succ, List.getElem_cons_zero, List.setIfInBounds_toArray, List.set_cons_succ, List.set_cons_zero])
        refine HeadAt.take (i := 6) (.int .i64 x.k) rfl (by kernel_rfl) (.inl ⟨rfl, fun w' z => ?_⟩) S0 ?_
        · (have z0 := z.2.2.1.1.1; simp [go_sem, z0])
        (try simp only [Act.put, List.getElem_toArray, List.getElem_cons_succ, List.getElem_cons_zero, List.setIfInBounds_toArray, List.set_cons_succ, List.set_cons_zero])
        refine HeadAt.take (i := 7) (.pointer (some ⟨sa, 2, none⟩)) rfl (by kernel_rfl) (.inl ⟨rfl, fun _ _ => by simp [go_sem]⟩) S0 ?_
        (try simp only [Act.put, List.getElem_toArray, List.getElem_cons_succ, List.getElem_cons_zero, List.setIfInBounds_toArray, List.set_cons_succ, List.set_cons_zero])
        refine HeadAt.take (i := 8) (.slice (some ⟨gb, off, none⟩) n c) rfl (by kernel_rfl) (.inl ⟨rfl, fun w' z => ?_⟩) S0 ?_
        · (have z0 := z.2.1.cell 2 rfl; simp [go_sem, z0])
        (try simp only [Act.put, List.getElem_toArray, List.getElem_cons_succ, List.getElem_cons_zero, List.setIfInBounds_toArray, List.set_cons_succ, List.set_cons_zero])
        refine HeadAt.take (i := 9) (.int .i64 (i : Int)) rfl (by kernel_rfl) (.inl ⟨rfl, fun _ _ => by simp [go_sem]⟩) S0 ?_
        (try simp only [Act.put, List.getElem_toArray, List.getElem_cons_succ, List.getElem_cons_zero, List.setIfInBounds_toArray, List.set_cons_succ, List.set_cons_zero])
        refine HeadAt.take (i := 10) (.pointer (some ⟨gb, off + i * 3, none⟩)) rfl (by kernel_rfl) (.inl ⟨rfl, fun w' z => ?_⟩) S0 ?_
        · (simp [go_sem, hiI, hi0])
        (try simp only [Act.put, List.getElem_toArray, List.getElem_cons_succ, List.getElem_cons_zero, List.setIfInBounds_toArray, List.set_cons_succ, List.set_cons_zero])
        refine HeadAt.take (i := 11) (.pointer (some ⟨gb, off + i * 3 + 1, none⟩)) rfl (by kernel_rfl) (.inl ⟨rfl, fun w' z => ?_⟩) S0 ?_
        · (simp [go_sem])
        (try simp only [Act.put, List.getElem_toArray, List.getElem_cons_succ, List.getElem_cons_zero, List.setIfInBounds_toArray, List.set_cons_succ, List.set_cons_zero])
        refine HeadAt.take (i := 12) (.int .i64 x.a) rfl (by kernel_rfl) (.inl ⟨rfl, fun w' z => ?_⟩) S0 ?_
        · (have z0 := z.2.2.1.1.2.1; simp [go_sem, z0])
        (try simp only [Act.put, List.getElem_toArray, List.getElem_cons_succ, List.getElem_cons_zero, List.setIfInBounds_toArray, List.set_cons_succ, List.set_cons_zero])
        refine HeadAt.one (i := 13) rfl (by kernel_rfl) ?_
        generalize hK : Upto _ _ = K0
        (try simp only [Act.put, List.getElem_toArray, List.getElem_cons_succ, List.getElem_cons_zero, List.setIfInBounds_toArray, List.set_cons_succ, List.set_cons_zero])
        go_wp2_with fail
        refine (hplx _ S0.2.2.2.2).mono ?_
        rintro e V7 ⟨rfl, hb1⟩
        go_wp2_with fail
        replace S0 := (And.intro (S0.1.below hb1) (And.intro (S0.2.1.below hb1) (And.intro (S0.2.2.1.below hb1) (And.intro (S0.2.2.2.1.below hb1) (S0.2.2.2.2.below hb1 (Nat.le_refl _))))))
        replace hbr := hbr.trans (hb1.mono hbr.size)
        clear hb1
        subst hK
        refine ⟨S0, ?_⟩
        (try simp only [Act.put, List.getElem_toArray, List.getElem_cons_succ, List.getElem_cons_zero, List.setIfInBounds_toArray, List.set_cons_succ, List.set_cons_zero])
        refine HeadAt.take (i := 14) (.tuple #[.int .i64 v, .int .i64 0]) rfl (by kernel_rfl) (.inl ⟨rfl, fun _ _ => by simp [go_sem]⟩) S0 ?_
        (try simp only [Act.put, List.getElem_toArray, List.getElem_cons_succ, List.getElem_cons_zero, List.setIfInBounds_toArray, List.set_cons_succ, List.set_cons_zero])
        refine HeadAt.take (i := 15) (.int .i64 v) rfl (by kernel_rfl) (.inl ⟨rfl, fun _ _ => by simp [go_sem]⟩) S0 ?_
        (try simp only [Act.put, List.getElem_toArray, List.getElem_cons_succ, List.getElem_cons_zero, List.setIfInBounds_toArray, List.set_cons_succ, List.set_cons_zero])
        refine HeadAt.take (i := 16) (.int .i64 0) rfl (by kernel_rfl) (.inl ⟨rfl, fun _ _ => by simp [go_sem]⟩) S0 ?_
        (try simp only [Act.put, List.getElem_toArray, List.getElem_cons_succ, List.getElem_cons_zero, List.setIfInBounds_toArray, List.set_cons_succ, List.set_cons_zero])
        refine HeadAt.take (i := 17) (.int .i64 v) rfl (by kernel_rfl) (.inl ⟨rfl, fun _ _ => by simp [go_sem]⟩) S0 ?_
        (try simp only [Act.put, List.getElem_toArray, List.getElem_cons_succ, List.getElem_cons_zero, List.setIfInBounds_toArray, List.set_cons_succ, List.set_cons_zero])
        refine HeadAt.done (by kernel_rfl) ?_
        (try simp only [Act.put, List.drop_succ_cons, List.drop_zero, List.getElem_toArray, List.getElem_cons_succ, List.getElem_cons_zero])
        go_wp2_with fail
        refine NoPanic.normal ?_
        obtain ⟨x0r, x7, hat, hFn, hPr⟩ := S0
        clear hplx
        generalize V7 = Vp at *
        go_upto_region 8 with fail
        have hbd := (Below.refl Vp.heap.size Vp).drew
        have S0 := (And.intro (x0r.below hbd) (And.intro (x7.below hbd) (And.intro (hat.below hbd) (And.intro (hFn.below hbd) (hPr.below hbd (Nat.le_refl _))))))
        replace hbr := hbr.trans (hbd.mono hbr.size)
        clear hbd x0r x7 hat hFn hPr
        refine wp_region_head 21 (fun w' => (Bx w' w.heap.size #[.int .i64 L, .int .i64 N, .slice aP n cP, .int .i64 F] 24) ∧ (Bx w' sa #[.int .i64 L, .int .i64 N, .slice (some ⟨gb, off, none⟩) n c, .int .i64 F] 24) ∧ (AtB w' gb (off + i * 3) x) ∧ (FnR Vc3.heap.size sa c (some ⟨gb, off, none⟩) n X w') ∧ (Pz w' aP P)) (by kernel_rfl) rfl ?_
        generalize Vp.drew = Y0 at *
        refine HeadAt.take (i := 0) (.int .i64 0) rfl (by kernel_rfl) (.inl ⟨rfl, fun _ _ => by simp [go_sem]⟩) S0 ?_
        (try simp only [Act.put, List.getElem_toArray, List.getElem_cons_succ, List.getElem_cons_zero, List.setIfInBounds_toArray, List.set_cons_succ, List.set_cons_zero])
        refine HeadAt.take (i := 1) (.bool false) rfl (by kernel_rfl) (.inl ⟨rfl, fun _ _ => by simp [go_sem]⟩) S0 ?_
        (try simp only [Act.put, List.getElem_toArray, List.getElem_cons_succ, List.getElem_cons_zero, List.setIfInBounds_toArray, List.set_cons_succ, List.set_cons_zero])
        refine HeadAt.take (i := 2) (.bool false) rfl (by kernel_rfl) (.inl ⟨rfl, fun _ _ => by simp [go_sem]⟩) S0 ?_
        (try simp only [Act.put, List.getElem_toArray, List.getElem_cons_succ, List.getElem_cons_zero, List.setIfInBounds_toArray, List.set_cons_succ, List.set_cons_zero])
        refine HeadAt.take (i := 3) (.int .i64 v) rfl (by kernel_rfl) (.inl ⟨rfl, fun _ _ => by simp [go_sem]⟩) S0 ?_
        (try simp only [Act.put, List.getElem_toArray, List.getElem_cons_succ, List.getElem_cons_zero, List.setIfInBounds_toArray, List.set_cons_succ, List.set_cons_zero])
        refine HeadAt.take (i := 4) (.pointer (some ⟨sa, 2, none⟩)) rfl (by kernel_rfl) (.inl ⟨rfl, fun _ _ => by simp [go_sem]⟩) S0 ?_
        (try simp only [Act.put, List.getElem_toArray, List.getElem_cons_succ, List.getElem_cons_zero, List.setIfInBounds_toArray, List.set_cons_succ, List.set_cons_zero])
        refine HeadAt.take (i := 5) (.slice (some ⟨gb, off, none⟩) n c) rfl (by kernel_rfl) (.inl ⟨rfl, fun w' z => ?_⟩) S0 ?_
        · (have z0 := z.2.1.cell 2 rfl; simp [go_sem, z0])
        (try simp only [Act.put, List.getElem_toArray, List.getElem_cons_succ, List.getElem_cons_zero, List.setIfInBounds_toArray, List.set_cons_succ, List.set_cons_zero])
        refine HeadAt.take (i := 6) (.int .i64 (i : Int)) rfl (by kernel_rfl) (.inl ⟨rfl, fun _ _ => by simp [go_sem]⟩) S0 ?_
        (try simp only [Act.put, List.getElem_toArray, List.getElem_cons_succ, List.getElem_cons_zero, List.setIfInBounds_toArray, List.set_cons_succ, List.set_cons_zero])
        refine HeadAt.take (i := 7) (.pointer (some ⟨gb, off + i * 3, none⟩)) rfl (by kernel_rfl) (.inl ⟨rfl, fun w' z => ?_⟩) S0 ?_
        · (simp [go_sem, hiI, hi0])
        (try simp only [Act.put, List.getElem_toArray, List.getElem_cons_succ, List.getElem_cons_zero, List.setIfInBounds_toArray, List.set_cons_succ, List.set_cons_zero])
        refine HeadAt.take (i := 8) (.pointer (some ⟨gb, off + i * 3, none⟩)) rfl (by kernel_rfl) (.inl ⟨rfl, fun w' z => ?_⟩) S0 ?_
        · (simp [go_sem])
        (try simp only [Act.put, List.getElem_toArray, List.getElem_cons_succ, List.getElem_cons_zero, List.setIfInBounds_toArray, List.set_cons_succ, List.set_cons_zero])
        refine HeadAt.take (i := 9) (.int .i64 x.k) rfl (by kernel_rfl) (.inl ⟨rfl, fun w' z => ?_⟩) S0 ?_
        · (have z0 := z.2.2.1.1.1; simp [go_sem, z0])
        (try simp only [Act.put, List.getElem_toArray, List.getElem_cons_succ, List.getElem_cons_zero, List.setIfInBounds_toArray, List.set_cons_succ, List.set_cons_zero])
        refine HeadAt.take (i := 10) (.pointer (some ⟨w.heap.size, 1, none⟩)) rfl (by kernel_rfl) (.inl ⟨rfl, fun _ _ => by simp [go_sem]⟩) S0 ?_
        (try simp only [Act.put, List.getElem_toArray, List.getElem_cons_succ, List.getElem_cons_zero, List.setIfInBounds_toArray, List.set_cons_succ, List.set_cons_zero])
        refine HeadAt.take (i := 11) (.int .i64 N) rfl (by kernel_rfl) (.inl ⟨rfl, fun w' z => ?_⟩) S0 ?_
        · (have z0 := z.1.cell 1 rfl; simp [go_sem, z0])
        (try simp only [Act.put, List.getElem_toArray, List.getElem_cons_succ, List.getElem_cons_zero, List.setIfInBounds_toArray, List.set_cons_succ, List.set_cons_zero])
        refine HeadAt.take (i := 12) (.int .i64 u) rfl (by kernel_rfl) (.inl ⟨rfl, fun w' z => ?_⟩) S0 ?_
        · (simp [go_sem, hwm])
        (try simp only [Act.put, List.getElem_toArray, List.getElem_cons_succ, List.getElem_cons_zero, List.setIfInBounds_toArray, List.set_cons_succ, List.set_cons_zero])
        refine HeadAt.take (i := 13) (.pointer (some ⟨sa, 2, none⟩)) rfl (by kernel_rfl) (.inl ⟨rfl, fun _ _ => by simp [go_sem]⟩) S0 ?_
        (try simp only [Act.put, List.getElem_toArray, List.getElem_cons_succ, List.getElem_cons_zero, List.setIfInBounds_toArray, List.set_cons_succ, List.set_cons_zero])
        refine HeadAt.take (i := 14) (.slice (some ⟨gb, off, none⟩) n c) rfl (by kernel_rfl) (.inl ⟨rfl, fun w' z => ?_⟩) S0 ?_
        · (have z0 := z.2.1.cell 2 rfl; simp [go_sem, z0])
        (try simp only [Act.put, List.getElem_toArray, List.getElem_cons_succ, List.getElem_cons_zero, List.setIfInBounds_toArray, List.set_cons_succ, List.set_cons_zero])
        refine HeadAt.take (i := 15) (.int .i64 (i : Int)) rfl (by kernel_rfl) (.inl ⟨rfl, fun _ _ => by simp [go_sem]⟩) S0 ?_
        (try simp only [Act.put, List.getElem_toArray, List.getElem_cons_succ, List.getElem_cons_zero, List.setIfInBounds_toArray, List.set_cons_succ, List.set_cons_zero])
        refine HeadAt.take (i := 16) (.pointer (some ⟨gb, off + i * 3, none⟩)) rfl (by kernel_rfl) (.inl ⟨rfl, fun w' z => ?_⟩) S0 ?_
        · (simp [go_sem, hiI, hi0])
        (try simp only [Act.put, List.getElem_toArray, List.getElem_cons_succ, List.getElem_cons_zero, List.setIfInBounds_toArray, List.set_cons_succ, List.set_cons_zero])
        refine HeadAt.take (i := 17) (.pointer (some ⟨gb, off + i * 3 + 1, none⟩)) rfl (by kernel_rfl) (.inl ⟨rfl, fun w' z => ?_⟩) S0 ?_
        · (simp [go_sem])
        (try simp only [Act.put, List.getElem_toArray, List.getElem_cons_succ, List.getElem_cons_zero, List.setIfInBounds_toArray, List.set_cons_succ, List.set_cons_zero])
        refine HeadAt.take (i := 18) (.int .i64 x.a) rfl (by kernel_rfl) (.inl ⟨rfl, fun w' z => ?_⟩) S0 ?_
        · (have z0 := z.2.2.1.1.2.1; simp [go_sem, z0])
        (try simp only [Act.put, List.getElem_toArray, List.getElem_cons_succ, List.getElem_cons_zero, List.setIfInBounds_toArray, List.set_cons_succ, List.set_cons_zero])
        refine HeadAt.take (i := 19) (.int .i64 v) rfl (by kernel_rfl) (.inl ⟨rfl, fun w' z => ?_⟩) S0 ?_
        · (simp [go_sem, hwa])
        (try simp only [Act.put, List.getElem_toArray, List.getElem_cons_succ, List.getElem_cons_zero, List.setIfInBounds_toArray, List.set_cons_succ, List.set_cons_zero])
        refine HeadAt.take (i := 20) (.bool false) rfl (by kernel_rfl) (.inl ⟨rfl, fun w' z => ?_⟩) S0 ?_
        · (simp [go_sem])
        (try simp only [Act.put, List.getElem_toArray, List.getElem_cons_succ, List.getElem_cons_zero, List.setIfInBounds_toArray, List.set_cons_succ, List.set_cons_zero])
        refine HeadAt.done (by kernel_rfl) ?_
        (try simp only [Act.put, List.drop_succ_cons, List.drop_zero, List.getElem_toArray, List.getElem_cons_succ, List.getElem_cons_zero])
        go_wp2_with fail
        refine NoPanic.normal ?_
        obtain ⟨x0r, x7, hat, hFn, hPr⟩ := S0
        obtain ⟨hfr, hst⟩ := hset.out _ hFn
        have hS2 := hst v
        rw [HSX.out] at hS2
        have y7 := x7.other (a := ⟨gb, off + i * 3 + 2, none⟩) (by show sa ≠ gb; omega) (.int .i64 v)
        have yb := hbr.setCell (p := ⟨gb, off + i * 3 + 2, none⟩) hgr.1 (.int .i64 v)
        have HY := hid (And.intro hS2 (And.intro y7 yb))
        obtain ⟨⟨q0, q1, q2⟩, _⟩ := hat
        have d0 := x7.cell 0 rfl; have d1 := x7.cell 1 rfl; have d2 := x7.cell 2 rfl; have d3 := x7.cell 3 rfl
        clear hS2 y7 yb hst hset x7 x0r hFn hPr hbr HSX
        go_wp2
        go_roundg g
        case measure => omega
        case rel =>
          obtain ⟨hS2, y7, yb⟩ := HY.out
          exact ⟨i + 1, _, by omega, by go_num, hid rfl, hS2, y7, yb⟩
end Go.Proofs.Ytmpihcencnkpbaa
