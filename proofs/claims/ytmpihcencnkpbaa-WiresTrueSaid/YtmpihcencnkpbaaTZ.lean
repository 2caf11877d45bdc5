import Derived.Test.YtmpihcencnkpbaaTY
/-! WiresTrue: its walk. -/
namespace Go.Proofs.Ytmpihcencnkpbaa
set_option linter.unusedSimpArgs false
set_option linter.unusedVariables false
open Go Go.RowKit

set_option maxRecDepth 100000 in
set_option maxHeartbeats 8000000 in
theorem wiresTrue_any (L N : Int) (aP : Option Addr) (cP : Nat) (P : List F3) (F : Int) (aS : Option Addr) (cS : Nat) (s : List F3) (l k : Int) (w : World) (hW1 : WiIn w aP cP P) (hW2 : WiIn w aS cS s) :
    Calls Try.prog 7 #[.agg #[.int .i64 L, .int .i64 N, .slice aP P.length cP, .int .i64 F], .slice aS s.length cS, .agg #[.int .i64 l, .int .i64 k]] w fun e w' => e = .returned (.bool true) ∧ Below w.heap.size w w' := by
  obtain ⟨i0, hi0, iz0, iz1, iz2⟩ := info_parts info63
  obtain ⟨n, hn⟩ : ∃ n, n = P.length := ⟨_, rfl⟩
  obtain ⟨m, hm⟩ : ∃ m, m = s.length := ⟨_, rfl⟩
  have HN := hid hn
  have HM := hid hm
  have hwk := works_any
  have hrr := fun h => rdB_ok (L := L) (N := N) (F := F) (P := P) h
  have hrd := fun V (h : Pz V aP P) => ready_any L N aP cP P F V h
  have hit := fun (hv : vB L N P F = true) V (h : Pz V aP P) (h' : Fz V aS s) => IsTruth_any L N aP cP P F aS cS s V h h' hv
  have hib := fun V => IsButton_any L N aP cP P F l k V
  have hsh := fun V (h : Pz V aP P) => Shows_any L N aP cP P F l k V h
  have hsu := fun V (h : Pz V aP P) => Sure_any L N aP cP P F V h
  have hmy := fun V (h : Pz V aP P) => Maybe_any L N aP cP P F V h
  have hfw := fun V (h : Pz V aP P) => Fewest_any L N aP cP P F V h
  have hex := fun b d V (h : Pz V aP P) (h' : Fz V b s) (hd : s.length ≤ d) => Explains_any L N aP cP P F b d s V h h' hd
  have hpo := fun (hv : vB L N P F = true) (h1 : setB L N s = true) (h2 : prB L N l k = true) V (h : Fz V aS s) => PlaysOf_any L N aP cP P F aS cS s l k V h (vB_siz hv).1 (vB_siz hv).2.1 (prB_rng (vB_siz hv).1 (vB_siz hv).2.1 h2).1 (prB_rng (vB_siz hv).1 (vB_siz hv).2.1 h2).2 (setB_ok hv h1) h1
  have hlaw := fun h1 h2 h3 => true_law (L := L) (N := N) (F := F) (l := l) (n := k) (P := P) (s := s) h1 h2 h3
  unfold CtP at hsu hmy
  rw [← hn] at hrd hit hib hsh hsu hmy hfw hex hpo
  rw [← hm] at hit hex hpo hlaw
  obtain ⟨W, hW, hb, hs, x0, x1⟩ := boxes2 w #[.int .i64 L, .int .i64 N, .slice aP n cP, .int .i64 F] 24 #[.int .i64 l, .int .i64 k] 27
  have hP := hW1.pz.below hb (Nat.le_refl _)
  have hQ2 := hW2.pz.below hb (Nat.le_refl _)
  rw [← hn, ← hm]
  clear hW1 hW2 hn hm
  generalize rdB L N P F = r at *
  generalize truB L N P F s = t at *
  generalize prB L N l k = z at *
  cases r
  · skip
    clear hrr hit hib hsh hsu hmy hfw hex hpo hlaw
    have c0 := x0.cell 0 rfl; have c1 := x0.cell 1 rfl; have c2 := x0.cell 2 rfl; have c3 := x0.cell 3 rfl
    have d0 := x1.cell 0 rfl; have d1 := x1.cell 1 rfl
    go_enter Try.func7, Try.ntmps7
    go_wp2_with fail
    refine (hrd _ hP).mono ?_
    rintro e Vc1 ⟨rfl, hb1⟩
    clear c0 c1 c2 c3
    clear d0 d1
    replace x0 := x0.below hb1
    replace x1 := x1.below hb1
    replace hP := hP.below hb1 (Nat.le_refl _)
    replace hb := hb.trans (hb1.mono hb.size)
    clear hb1 hW hrd
    have c0 := x0.cell 0 rfl; have c1 := x0.cell 1 rfl; have c2 := x0.cell 2 rfl; have c3 := x0.cell 3 rfl
    have d0 := x1.cell 0 rfl; have d1 := x1.cell 1 rfl
    go_wp2_with fail
    refine (hwk _).mono ?_
    rintro e Vw ⟨rfl, hbw9⟩
    clear c0 c1 c2 c3
    clear d0 d1
    replace hb := hb.trans (hbw9.mono hb.size)
    go_wp2
    go_ret
    exact ⟨rfl, hb⟩
  · skip
    have hv := (hrr rfl).1
    replace hit := hit hv
    replace hpo := hpo hv
    replace hlaw := hlaw rfl
    clear hrr hv
    by_cases hm4 : m ≤ 40
    rotate_left
    · skip
      have hgt : (40 : Int) < (m : Int) := by omega
      clear hm4 hit hib hsh hsu hmy hfw hex hpo hlaw
      have c0 := x0.cell 0 rfl; have c1 := x0.cell 1 rfl; have c2 := x0.cell 2 rfl; have c3 := x0.cell 3 rfl
      have d0 := x1.cell 0 rfl; have d1 := x1.cell 1 rfl
      go_enter Try.func7, Try.ntmps7
      go_wp2_with fail
      refine (hrd _ hP).mono ?_
      rintro e Vc3 ⟨rfl, hb1⟩
      clear c0 c1 c2 c3
      clear d0 d1
      replace x0 := x0.below hb1
      replace x1 := x1.below hb1
      replace hP := hP.below hb1 (Nat.le_refl _)
      replace hb := hb.trans (hb1.mono hb.size)
      clear hb1 hW hrd
      have c0 := x0.cell 0 rfl; have c1 := x0.cell 1 rfl; have c2 := x0.cell 2 rfl; have c3 := x0.cell 3 rfl
      have d0 := x1.cell 0 rfl; have d1 := x1.cell 1 rfl
      go_wp2_with fail
      refine (hwk _).mono ?_
      rintro e Vw ⟨rfl, hbw9⟩
      clear c0 c1 c2 c3
      clear d0 d1
      replace hb := hb.trans (hbw9.mono hb.size)
      go_wp2
      go_ret
      exact ⟨rfl, hb⟩
    have hm4I : ¬ (40 : Int) < (m : Int) := by omega
    have hS := hQ2.2 (by have := HM.out; omega)
    have hY64 := hid hS.2.1
    clear hQ2
    cases t
    · skip
      clear hib hsh hsu hmy hfw hex hpo hlaw
      have c0 := x0.cell 0 rfl; have c1 := x0.cell 1 rfl; have c2 := x0.cell 2 rfl; have c3 := x0.cell 3 rfl
      have d0 := x1.cell 0 rfl; have d1 := x1.cell 1 rfl
      go_enter Try.func7, Try.ntmps7
      go_wp2_with fail
      refine (hrd _ hP).mono ?_
      rintro e Vc5 ⟨rfl, hb1⟩
      clear c0 c1 c2 c3
      clear d0 d1
      replace x0 := x0.below hb1
      replace x1 := x1.below hb1
      replace hP := hP.below hb1 (Nat.le_refl _)
      replace hS := hS.below hb1 (Nat.le_refl _)
      replace hb := hb.trans (hb1.mono hb.size)
      clear hb1 hW hrd
      have c0 := x0.cell 0 rfl; have c1 := x0.cell 1 rfl; have c2 := x0.cell 2 rfl; have c3 := x0.cell 3 rfl
      have d0 := x1.cell 0 rfl; have d1 := x1.cell 1 rfl
      go_wp2_with fail
      refine (hit _ hP hS).mono ?_
      rintro e Vc6 ⟨rfl, hb1⟩
      clear c0 c1 c2 c3
      clear d0 d1
      replace x0 := x0.below hb1
      replace x1 := x1.below hb1
      replace hP := hP.below hb1 (Nat.le_refl _)
      replace hS := hS.below hb1 (Nat.le_refl _)
      replace hb := hb.trans (hb1.mono hb.size)
      clear hb1 hit
      have c0 := x0.cell 0 rfl; have c1 := x0.cell 1 rfl; have c2 := x0.cell 2 rfl; have c3 := x0.cell 3 rfl
      have d0 := x1.cell 0 rfl; have d1 := x1.cell 1 rfl
      go_wp2_with fail
      refine (hwk _).mono ?_
      rintro e Vw ⟨rfl, hbw9⟩
      clear c0 c1 c2 c3
      clear d0 d1
      replace hb := hb.trans (hbw9.mono hb.size)
      go_wp2
      go_ret
      exact ⟨rfl, hb⟩
    · skip
      cases z
      · skip
        clear hsh hsu hmy hfw hex hpo hlaw
        have c0 := x0.cell 0 rfl; have c1 := x0.cell 1 rfl; have c2 := x0.cell 2 rfl; have c3 := x0.cell 3 rfl
        have d0 := x1.cell 0 rfl; have d1 := x1.cell 1 rfl
        go_enter Try.func7, Try.ntmps7
        go_wp2_with fail
        refine (hrd _ hP).mono ?_
        rintro e Vc8 ⟨rfl, hb1⟩
        clear c0 c1 c2 c3
        clear d0 d1
        replace x0 := x0.below hb1
        replace x1 := x1.below hb1
        replace hP := hP.below hb1 (Nat.le_refl _)
        replace hS := hS.below hb1 (Nat.le_refl _)
        replace hb := hb.trans (hb1.mono hb.size)
        clear hb1 hW hrd
        have c0 := x0.cell 0 rfl; have c1 := x0.cell 1 rfl; have c2 := x0.cell 2 rfl; have c3 := x0.cell 3 rfl
        have d0 := x1.cell 0 rfl; have d1 := x1.cell 1 rfl
        go_wp2_with fail
        refine (hit _ hP hS).mono ?_
        rintro e Vc9 ⟨rfl, hb1⟩
        clear c0 c1 c2 c3
        clear d0 d1
        replace x0 := x0.below hb1
        replace x1 := x1.below hb1
        replace hP := hP.below hb1 (Nat.le_refl _)
        replace hS := hS.below hb1 (Nat.le_refl _)
        replace hb := hb.trans (hb1.mono hb.size)
        clear hb1 hit
        have c0 := x0.cell 0 rfl; have c1 := x0.cell 1 rfl; have c2 := x0.cell 2 rfl; have c3 := x0.cell 3 rfl
        have d0 := x1.cell 0 rfl; have d1 := x1.cell 1 rfl
        go_wp2_with fail
        refine (hib _).mono ?_
        rintro e Vc10 ⟨rfl, hb1⟩
        clear c0 c1 c2 c3
        clear d0 d1
        replace x0 := x0.below hb1
        replace x1 := x1.below hb1
        replace hP := hP.below hb1 (Nat.le_refl _)
        replace hS := hS.below hb1 (Nat.le_refl _)
        replace hb := hb.trans (hb1.mono hb.size)
        clear hb1 hib
        have c0 := x0.cell 0 rfl; have c1 := x0.cell 1 rfl; have c2 := x0.cell 2 rfl; have c3 := x0.cell 3 rfl
        have d0 := x1.cell 0 rfl; have d1 := x1.cell 1 rfl
        go_wp2_with fail
        refine (hwk _).mono ?_
        rintro e Vw ⟨rfl, hbw9⟩
        clear c0 c1 c2 c3
        clear d0 d1
        replace hb := hb.trans (hbw9.mono hb.size)
        go_wp2
        go_ret
        exact ⟨rfl, hb⟩
      · skip
        obtain ⟨⟨g1, g2, g3⟩, ⟨g4, g5, g6, _⟩, ⟨g7, g8⟩, ⟨q1, q2, q3, q4⟩, q5⟩ := hlaw rfl rfl
        replace hpo := hpo g6 rfl
        have hin := fun a c V (h : Ints V a (shR L N P F l k)) => In_any a c (shR L N P F l k) (plV N s l k) V h
        have ha1 := fun a b ca cb V (hA : Fz V a (ctR sureS L N P F)) (hB : Fz V b s) => areIn_any a b ca cb (ctR sureS L N P F) s V hA hB q1 (by have := HM.out; omega)
        have ha2 := fun a b ca cb V (hA : Fz V a s) (hB : Fz V b (ctR maybeS L N P F)) => areIn_any a b ca cb s (ctR maybeS L N P F) V hA hB (by have := HM.out; omega) q2
        rw [q3, ← HM.out] at ha1
        rw [q4, ← HM.out] at ha2
        rw [decide_eq_true g8] at hin
        rw [g2] at hsh
        rw [g1] at hsu hmy
        rw [g3] at hfw
        rw [g4, g5] at hex
        generalize plV N s l k = v at *
        generalize shR L N P F l k = R at *
        generalize ctR sureS L N P F = A0 at *
        generalize ctR maybeS L N P F = B0 at *
        generalize fwR L N P F = u at *
        obtain ⟨kr, hkr⟩ : ∃ q, q = R.length := ⟨_, rfl⟩
        obtain ⟨ka, hka⟩ : ∃ q, q = A0.length := ⟨_, rfl⟩
        obtain ⟨kb, hkb⟩ : ∃ q, q = B0.length := ⟨_, rfl⟩
        rw [← hkr] at hsh hin g7
        rw [← hka] at hsu ha1
        rw [← hkb] at hmy ha2
        have hkI : (kr : Int) ≤ 40 := by omega
        have huI : (u : Int) ≤ (m : Int) := by have := HM.out; omega
        have hu0 : (0 : Int) ≤ (u : Int) := by omega
        have HLN := hid (show (fcells s).length = m * 3 by rw [fcells_len, HM.out])
        clear g1 g2 g3 g4 g5 g6 g7 g8 q1 q2 q3 q4 q5 hkr hka hkb hlaw
        have c0 := x0.cell 0 rfl; have c1 := x0.cell 1 rfl; have c2 := x0.cell 2 rfl; have c3 := x0.cell 3 rfl
        have d0 := x1.cell 0 rfl; have d1 := x1.cell 1 rfl
        go_enter Try.func7, Try.ntmps7
        go_wp2_with fail
        refine (hrd _ hP).mono ?_
        rintro e Vc12 ⟨rfl, hb1⟩
        clear c0 c1 c2 c3
        clear d0 d1
        replace x0 := x0.below hb1
        replace x1 := x1.below hb1
        replace hP := hP.below hb1 (Nat.le_refl _)
        replace hS := hS.below hb1 (Nat.le_refl _)
        replace hb := hb.trans (hb1.mono hb.size)
        clear hb1 hW hrd
        have c0 := x0.cell 0 rfl; have c1 := x0.cell 1 rfl; have c2 := x0.cell 2 rfl; have c3 := x0.cell 3 rfl
        have d0 := x1.cell 0 rfl; have d1 := x1.cell 1 rfl
        go_wp2_with fail
        refine (hit _ hP hS).mono ?_
        rintro e Vc13 ⟨rfl, hb1⟩
        clear c0 c1 c2 c3
        clear d0 d1
        replace x0 := x0.below hb1
        replace x1 := x1.below hb1
        replace hP := hP.below hb1 (Nat.le_refl _)
        replace hS := hS.below hb1 (Nat.le_refl _)
        replace hb := hb.trans (hb1.mono hb.size)
        clear hb1 hit
        have c0 := x0.cell 0 rfl; have c1 := x0.cell 1 rfl; have c2 := x0.cell 2 rfl; have c3 := x0.cell 3 rfl
        have d0 := x1.cell 0 rfl; have d1 := x1.cell 1 rfl
        go_wp2_with fail
        refine (hib _).mono ?_
        rintro e Vc14 ⟨rfl, hb1⟩
        clear c0 c1 c2 c3
        clear d0 d1
        replace x0 := x0.below hb1
        replace x1 := x1.below hb1
        replace hP := hP.below hb1 (Nat.le_refl _)
        replace hS := hS.below hb1 (Nat.le_refl _)
        replace hb := hb.trans (hb1.mono hb.size)
        clear hb1 hib
        have c0 := x0.cell 0 rfl; have c1 := x0.cell 1 rfl; have c2 := x0.cell 2 rfl; have c3 := x0.cell 3 rfl
        have d0 := x1.cell 0 rfl; have d1 := x1.cell 1 rfl
        go_wp2_with fail
        refine (hsh _ hP).mono ?_
        rintro e Vc15 ⟨hb1, aR, cR, rfl, hR⟩
        clear c0 c1 c2 c3
        clear d0 d1
        replace x0 := x0.below hb1
        replace x1 := x1.below hb1
        replace hP := hP.below hb1 (Nat.le_refl _)
        replace hS := hS.below hb1 (Nat.le_refl _)
        replace hb := hb.trans (hb1.mono hb.size)
        clear hb1 hsh
        have c0 := x0.cell 0 rfl; have c1 := x0.cell 1 rfl; have c2 := x0.cell 2 rfl; have c3 := x0.cell 3 rfl
        have d0 := x1.cell 0 rfl; have d1 := x1.cell 1 rfl
        go_wp2_with fail
        refine (hsu _ hP).mono ?_
        rintro e Vc16 ⟨hb1, aA, cA, rfl, hA0⟩
        clear c0 c1 c2 c3
        clear d0 d1
        replace x0 := x0.below hb1
        replace x1 := x1.below hb1
        replace hP := hP.below hb1 (Nat.le_refl _)
        replace hS := hS.below hb1 (Nat.le_refl _)
        replace hR := hR.below hb1 (Nat.le_refl _)
        replace hb := hb.trans (hb1.mono hb.size)
        clear hb1 hsu
        have c0 := x0.cell 0 rfl; have c1 := x0.cell 1 rfl; have c2 := x0.cell 2 rfl; have c3 := x0.cell 3 rfl
        have d0 := x1.cell 0 rfl; have d1 := x1.cell 1 rfl
        go_wp2_with fail
        refine (hmy _ hP).mono ?_
        rintro e Vc17 ⟨hb1, aB, cB, rfl, hB0⟩
        clear c0 c1 c2 c3
        clear d0 d1
        replace x0 := x0.below hb1
        replace x1 := x1.below hb1
        replace hP := hP.below hb1 (Nat.le_refl _)
        replace hS := hS.below hb1 (Nat.le_refl _)
        replace hR := hR.below hb1 (Nat.le_refl _)
        replace hA0 := hA0.below hb1 (Nat.le_refl _)
        replace hb := hb.trans (hb1.mono hb.size)
        clear hb1 hmy
        have c0 := x0.cell 0 rfl; have c1 := x0.cell 1 rfl; have c2 := x0.cell 2 rfl; have c3 := x0.cell 3 rfl
        have d0 := x1.cell 0 rfl; have d1 := x1.cell 1 rfl
        go_wp2_with fail
        refine (hfw _ hP).mono ?_
        rintro e Vc18 ⟨rfl, hb1⟩
        clear c0 c1 c2 c3
        clear d0 d1
        replace x0 := x0.below hb1
        replace x1 := x1.below hb1
        replace hP := hP.below hb1 (Nat.le_refl _)
        replace hS := hS.below hb1 (Nat.le_refl _)
        replace hR := hR.below hb1 (Nat.le_refl _)
        replace hA0 := hA0.below hb1 (Nat.le_refl _)
        replace hB0 := hB0.below hb1 (Nat.le_refl _)
        replace hb := hb.trans (hb1.mono hb.size)
        clear hb1 hfw
        have c0 := x0.cell 0 rfl; have c1 := x0.cell 1 rfl; have c2 := x0.cell 2 rfl; have c3 := x0.cell 3 rfl
        have d0 := x1.cell 0 rfl; have d1 := x1.cell 1 rfl
        go_upto_region 7 with fail
        clear c0 c1 c2 c3 d0 d1
        have hbd := (Below.refl Vc18.heap.size Vc18).drew
        have S0 := (And.intro (x0.below hbd) (And.intro (x1.below hbd) (And.intro (hP.below hbd (Nat.le_refl _)) (And.intro (hS.below hbd (Nat.le_refl _)) (And.intro (hR.below hbd (Nat.le_refl _)) (And.intro (hA0.below hbd (Nat.le_refl _)) (hB0.below hbd (Nat.le_refl _))))))))
        replace hb := hb.trans (hbd.mono hb.size)
        clear hbd x0 x1 hP hS hR hA0 hB0
        refine wp_region_head 9 (fun w' => (Bx w' w.heap.size #[.int .i64 L, .int .i64 N, .slice aP n cP, .int .i64 F] 24) ∧ (Bx w' (w.heap.size + 1) #[.int .i64 l, .int .i64 k] 27) ∧ (Pz w' aP P) ∧ (Fz w' aS s) ∧ (Ints w' aR R) ∧ (Fz w' aA A0) ∧ (Fz w' aB B0)) (by kernel_rfl) rfl ?_
        generalize Vc18.drew = Y0 at *
        refine HeadAt.take (i := 0) (.agg #[.int .i64 L, .int .i64 N, .slice aP n cP, .int .i64 F]) rfl (by kernel_rfl) (.inl ⟨rfl, fun w' z => ?_⟩) S0 ?_
        · (have z0 := z.1.cell 0 rfl; have z1 := z.1.cell 1 rfl; have z2 := z.1.cell 2 rfl; have z3 := z.1.cell 3 rfl; simp [go_sem, z0, z1, z2, z3])
        (try simp only [Act.put, List.getElem_toArray, List.getElem_cons_succ, List.getElem_cons_zero, List.setIfInBounds_toArray, List.set_cons_succ, List.set_cons_zero])
        refine HeadAt.take (i := 2) (.slice aS m cS) rfl (by kernel_rfl) (.inl ⟨rfl, fun _ _ => by simp [go_sem]⟩) S0 ?_
        (try simp only [Act.put, List.getElem_toArray, List.getElem_cons_succ, List.getElem_cons_zero, List.setIfInBounds_toArray, List.set_cons_succ, List.set_cons_zero])
        refine HeadAt.one (i := 1) rfl (by kernel_rfl) ?_
        generalize hK : Upto _ _ = K0
        (try simp only [Act.put, List.getElem_toArray, List.getElem_cons_succ, List.getElem_cons_zero, List.setIfInBounds_toArray, List.set_cons_succ, List.set_cons_zero])
        have hA := own_litB Y0 63 3 (B := Y0.heap.size) (Nat.le_refl _)
        have hszl : Y0.heap.size ≤ (Y0.alloc (.cells #[] 63)).heap.size := by simp
        have hb1 := below_one (w := Y0) (.cells #[] 63)
        replace S0 := (And.intro (S0.1.below hb1) (And.intro (S0.2.1.below hb1) (And.intro (S0.2.2.1.below hb1 (Nat.le_refl _)) (And.intro (S0.2.2.2.1.below hb1 (Nat.le_refl _)) (And.intro (S0.2.2.2.2.1.below hb1 (Nat.le_refl _)) (And.intro (S0.2.2.2.2.2.1.below hb1 (Nat.le_refl _)) (S0.2.2.2.2.2.2.below hb1 (Nat.le_refl _))))))))
        replace hb := hb.trans (hb1.mono hb.size)
        have HA := hid (And.intro hA (And.intro S0 (And.intro hb hszl)))
        clear hA S0 hb hb1 hszl
        go_wp2_with fail
        obtain ⟨hA, S0, hb, hszl⟩ := HA.out
        clear HA
        generalize Y0.heap.size = sb at *
        generalize World.alloc _ _ = Y1 at *
        subst hK
        refine ⟨S0, ?_⟩
        (try simp only [Act.put, List.getElem_toArray, List.getElem_cons_succ, List.getElem_cons_zero, List.setIfInBounds_toArray, List.set_cons_succ, List.set_cons_zero])
        refine HeadAt.one (i := 3) rfl (by kernel_rfl) ?_
        generalize hK : Upto _ _ = K0
        (try simp only [Act.put, List.getElem_toArray, List.getElem_cons_succ, List.getElem_cons_zero, List.setIfInBounds_toArray, List.set_cons_succ, List.set_cons_zero])
        have hcl := S0.2.2.2.1.cls
        go_wp2_with (at_builtin; refine wpList_appLit rfl (.tmp 67) (.tmp 68) 25 rfl sb 63 i0 (.agg #[.int .i64 0, .int .i64 0, .int .i64 0]) 3 24 under25 hi0 iz0 iz1 iz2 rfl (by decide) sb rfl hA aS m cS (fcells s) rfl HLN.out hcl (fcells_one s) (by unfold maxLen; omega) (by omega) hszl ?_; intro vO W9 hownO hbO hplO; obtain ⟨b, d, rfl⟩ := own_slice2 hownO)
        have hFl : Fz W9 b s := (Fz.of_own (xs := s) (e := 63) (base := sb) (v := .slice b m d) (by rw [← HM.out]; exact hownO) (by have := HM.out; omega) hY64.out).elim fun a' h => h.elim fun ca h => by
          have e := h.1
          simp only [Value.slice.injEq] at e
          rw [e.1]; exact h.2.1
        have hcap : m ≤ d := own_cap hownO
        replace S0 := (And.intro (S0.1.below hbO) (And.intro (S0.2.1.below hbO) (And.intro (S0.2.2.1.below hbO (Nat.le_refl _)) (And.intro (S0.2.2.2.1.below hbO (Nat.le_refl _)) (And.intro (S0.2.2.2.2.1.below hbO (Nat.le_refl _)) (And.intro (S0.2.2.2.2.2.1.below hbO (Nat.le_refl _)) (S0.2.2.2.2.2.2.below hbO (Nat.le_refl _))))))))
        replace hb := hb.trans (hbO.mono hb.size)
        clear hA hownO hbO hplO hcl hszl
        subst hK
        refine ⟨S0, ?_⟩
        (try simp only [Act.put, List.getElem_toArray, List.getElem_cons_succ, List.getElem_cons_zero, List.setIfInBounds_toArray, List.set_cons_succ, List.set_cons_zero])
        refine HeadAt.one (i := 4) rfl (by kernel_rfl) ?_
        generalize hK : Upto _ _ = K0
        (try simp only [Act.put, List.getElem_toArray, List.getElem_cons_succ, List.getElem_cons_zero, List.setIfInBounds_toArray, List.set_cons_succ, List.set_cons_zero])
        go_wp2_with fail
        refine (hex b d _ S0.2.2.1 hFl hcap).mono ?_
        rintro e V19 ⟨rfl, hb1⟩
        go_wp2_with fail
        replace S0 := (And.intro (S0.1.below hb1) (And.intro (S0.2.1.below hb1) (And.intro (S0.2.2.1.below hb1 (Nat.le_refl _)) (And.intro (S0.2.2.2.1.below hb1 (Nat.le_refl _)) (And.intro (S0.2.2.2.2.1.below hb1 (Nat.le_refl _)) (And.intro (S0.2.2.2.2.2.1.below hb1 (Nat.le_refl _)) (S0.2.2.2.2.2.2.below hb1 (Nat.le_refl _))))))))
        replace hb := hb.trans (hb1.mono hb.size)
        clear hFl
        clear hb1
        subst hK
        refine ⟨S0, ?_⟩
        (try simp only [Act.put, List.getElem_toArray, List.getElem_cons_succ, List.getElem_cons_zero, List.setIfInBounds_toArray, List.set_cons_succ, List.set_cons_zero])
        refine HeadAt.take (i := 5) (.tuple #[.bool true, .int .i64 0]) rfl (by kernel_rfl) (.inl ⟨rfl, fun _ _ => by simp [go_sem]⟩) S0 ?_
        (try simp only [Act.put, List.getElem_toArray, List.getElem_cons_succ, List.getElem_cons_zero, List.setIfInBounds_toArray, List.set_cons_succ, List.set_cons_zero])
        refine HeadAt.take (i := 6) (.bool true) rfl (by kernel_rfl) (.inl ⟨rfl, fun _ _ => by simp [go_sem]⟩) S0 ?_
        (try simp only [Act.put, List.getElem_toArray, List.getElem_cons_succ, List.getElem_cons_zero, List.setIfInBounds_toArray, List.set_cons_succ, List.set_cons_zero])
        refine HeadAt.take (i := 7) (.int .i64 0) rfl (by kernel_rfl) (.inl ⟨rfl, fun _ _ => by simp [go_sem]⟩) S0 ?_
        (try simp only [Act.put, List.getElem_toArray, List.getElem_cons_succ, List.getElem_cons_zero, List.setIfInBounds_toArray, List.set_cons_succ, List.set_cons_zero])
        refine HeadAt.take (i := 8) (.bool true) rfl (by kernel_rfl) (.inl ⟨rfl, fun _ _ => by simp [go_sem]⟩) S0 ?_
        (try simp only [Act.put, List.getElem_toArray, List.getElem_cons_succ, List.getElem_cons_zero, List.setIfInBounds_toArray, List.set_cons_succ, List.set_cons_zero])
        refine HeadAt.done (by kernel_rfl) ?_
        (try simp only [Act.put, List.drop_succ_cons, List.drop_zero, List.getElem_toArray, List.getElem_cons_succ, List.getElem_cons_zero])
        go_wp2_with fail
        refine NoPanic.normal ?_
        obtain ⟨x0, x1, hP, hS, hR, hA0, hB0⟩ := S0
        clear hex
        have c0 := x0.cell 0 rfl; have c1 := x0.cell 1 rfl; have c2 := x0.cell 2 rfl; have c3 := x0.cell 3 rfl
        have d0 := x1.cell 0 rfl; have d1 := x1.cell 1 rfl
        go_wp2_with fail
        refine (hpo _ hS).mono ?_
        rintro e Vc20 ⟨rfl, hb1⟩
        clear c0 c1 c2 c3
        clear d0 d1
        replace x0 := x0.below hb1
        replace x1 := x1.below hb1
        replace hP := hP.below hb1 (Nat.le_refl _)
        replace hS := hS.below hb1 (Nat.le_refl _)
        replace hR := hR.below hb1 (Nat.le_refl _)
        replace hA0 := hA0.below hb1 (Nat.le_refl _)
        replace hB0 := hB0.below hb1 (Nat.le_refl _)
        replace hb := hb.trans (hb1.mono hb.size)
        clear hb1 hpo
        have c0 := x0.cell 0 rfl; have c1 := x0.cell 1 rfl; have c2 := x0.cell 2 rfl; have c3 := x0.cell 3 rfl
        have d0 := x1.cell 0 rfl; have d1 := x1.cell 1 rfl
        go_wp2_with fail
        refine (hin _ _ _ hR).mono ?_
        rintro e Vc21 ⟨rfl, hb1⟩
        clear c0 c1 c2 c3
        clear d0 d1
        replace x0 := x0.below hb1
        replace x1 := x1.below hb1
        replace hP := hP.below hb1 (Nat.le_refl _)
        replace hS := hS.below hb1 (Nat.le_refl _)
        replace hR := hR.below hb1 (Nat.le_refl _)
        replace hA0 := hA0.below hb1 (Nat.le_refl _)
        replace hB0 := hB0.below hb1 (Nat.le_refl _)
        replace hb := hb.trans (hb1.mono hb.size)
        clear hb1 hin
        have c0 := x0.cell 0 rfl; have c1 := x0.cell 1 rfl; have c2 := x0.cell 2 rfl; have c3 := x0.cell 3 rfl
        have d0 := x1.cell 0 rfl; have d1 := x1.cell 1 rfl
        go_wp2_with fail
        refine (ha1 _ _ _ _ _ hA0 hS).mono ?_
        rintro e Vc22 ⟨rfl, hb1⟩
        clear c0 c1 c2 c3
        clear d0 d1
        replace x0 := x0.below hb1
        replace x1 := x1.below hb1
        replace hP := hP.below hb1 (Nat.le_refl _)
        replace hS := hS.below hb1 (Nat.le_refl _)
        replace hR := hR.below hb1 (Nat.le_refl _)
        replace hA0 := hA0.below hb1 (Nat.le_refl _)
        replace hB0 := hB0.below hb1 (Nat.le_refl _)
        replace hb := hb.trans (hb1.mono hb.size)
        clear hb1 ha1
        have c0 := x0.cell 0 rfl; have c1 := x0.cell 1 rfl; have c2 := x0.cell 2 rfl; have c3 := x0.cell 3 rfl
        have d0 := x1.cell 0 rfl; have d1 := x1.cell 1 rfl
        go_wp2_with fail
        refine (ha2 _ _ _ _ _ hS hB0).mono ?_
        rintro e Vc23 ⟨rfl, hb1⟩
        clear c0 c1 c2 c3
        clear d0 d1
        replace x0 := x0.below hb1
        replace x1 := x1.below hb1
        replace hP := hP.below hb1 (Nat.le_refl _)
        replace hS := hS.below hb1 (Nat.le_refl _)
        replace hR := hR.below hb1 (Nat.le_refl _)
        replace hA0 := hA0.below hb1 (Nat.le_refl _)
        replace hB0 := hB0.below hb1 (Nat.le_refl _)
        replace hb := hb.trans (hb1.mono hb.size)
        clear hb1 ha2
        have c0 := x0.cell 0 rfl; have c1 := x0.cell 1 rfl; have c2 := x0.cell 2 rfl; have c3 := x0.cell 3 rfl
        have d0 := x1.cell 0 rfl; have d1 := x1.cell 1 rfl
        go_wp2_with fail
        refine (hwk _).mono ?_
        rintro e Vw ⟨rfl, hbw9⟩
        clear c0 c1 c2 c3
        clear d0 d1
        replace hb := hb.trans (hbw9.mono hb.size)
        go_wp2
        go_ret
        exact ⟨rfl, hb⟩
end Go.Proofs.Ytmpihcencnkpbaa
