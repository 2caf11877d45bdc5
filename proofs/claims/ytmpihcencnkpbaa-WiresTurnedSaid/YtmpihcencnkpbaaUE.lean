import Derived.Test.YtmpihcencnkpbaaUD
import Derived.Test.YtmpihcencnkpbaaTO
import Derived.Test.YtmpihcencnkpbaaRA
/-! WiresTurned: its walk. -/
namespace Go.Proofs.Ytmpihcencnkpbaa
set_option linter.unusedSimpArgs false
set_option linter.unusedVariables false
open Go Go.RowKit

set_option maxRecDepth 100000 in
set_option maxHeartbeats 8000000 in
theorem wiresTurned_any (L N : Int) (aP : Option Addr) (cP : Nat) (P : List F3) (F : Int) (l k : Int) (w : World) (hS : WiIn w aP cP P) : Calls Try.prog 11 #[.agg #[.int .i64 L, .int .i64 N, .slice aP P.length cP, .int .i64 F], .agg #[.int .i64 l, .int .i64 k]] w fun e w' => e = .returned (.bool true) ∧ Below w.heap.size w w' := by
  obtain ⟨W, hW, hb, hs, x0, x1⟩ := boxes2 w #[.int .i64 L, .int .i64 N, .slice aP P.length cP, .int .i64 F] 24 #[.int .i64 l, .int .i64 k] 27
  have hP := hS.pz.below hb (Nat.le_refl _)
  have hcap := hS.cap
  have hwk := works_any
  have hrd := fun V (h : Pz V aP P) => ready_any L N aP cP P F V h
  have hib := fun V => IsButton_any L N aP cP P F l k V
  have hlaw := fun h1 h2 => turn_law (L := L) (N := N) (F := F) (P := P) (l := l) (n := k) h1 h2
  have hrk := fun h => rdB_ok (L := L) (N := N) (F := F) (P := P) h
  generalize rdB L N P F = r at *
  generalize prB L N l k = q at *
  obtain ⟨n, hn⟩ : ∃ n, n = P.length := ⟨_, rfl⟩
  have HN := hid hn
  rw [← hn] at hrd hib x0 hW hcap ⊢
  clear hS hn
  have c0 := x0.cell 0 rfl; have c1 := x0.cell 1 rfl; have c2 := x0.cell 2 rfl; have c3 := x0.cell 3 rfl
  have d0 := x1.cell 0 rfl; have d1 := x1.cell 1 rfl
  cases r
  · skip
    clear hlaw hib hrk hcap
    go_enter Try.func11, Try.ntmps11
    go_wp2_with fail
    refine (hrd _ hP).mono ?_
    rintro e Vc1 ⟨rfl, hb1⟩
    clear d0 d1
    clear c0 c1 c2 c3
    replace x0 := x0.below hb1
    replace x1 := x1.below hb1
    replace hP := hP.below hb1 (Nat.le_refl _)
    replace hb := hb.trans (hb1.mono hb.size)
    clear hb1 hW
    have c0 := x0.cell 0 rfl; have c1 := x0.cell 1 rfl; have c2 := x0.cell 2 rfl; have c3 := x0.cell 3 rfl
    have d0 := x1.cell 0 rfl; have d1 := x1.cell 1 rfl
    go_wp2_with fail
    refine (hwk _).mono ?_
    rintro e Vw ⟨rfl, hbw9⟩
    clear d0 d1
    clear c0 c1 c2 c3
    replace hb := hb.trans (hbw9.mono hb.size)
    go_wp2
    go_ret
    exact ⟨rfl, hb⟩
  · skip
    cases q
    · skip
      clear hlaw hrk hcap
      go_enter Try.func11, Try.ntmps11
      go_wp2_with fail
      refine (hrd _ hP).mono ?_
      rintro e Vc3 ⟨rfl, hb1⟩
      clear d0 d1
      clear c0 c1 c2 c3
      replace x0 := x0.below hb1
      replace x1 := x1.below hb1
      replace hP := hP.below hb1 (Nat.le_refl _)
      replace hb := hb.trans (hb1.mono hb.size)
      clear hb1 hW hrd
      have c0 := x0.cell 0 rfl; have c1 := x0.cell 1 rfl; have c2 := x0.cell 2 rfl; have c3 := x0.cell 3 rfl
      have d0 := x1.cell 0 rfl; have d1 := x1.cell 1 rfl
      go_wp2_with fail
      refine (hib _).mono ?_
      rintro e Vc4 ⟨rfl, hb1⟩
      clear d0 d1
      clear c0 c1 c2 c3
      replace x0 := x0.below hb1
      replace x1 := x1.below hb1
      replace hP := hP.below hb1 (Nat.le_refl _)
      replace hb := hb.trans (hb1.mono hb.size)
      clear hb1
      have c0 := x0.cell 0 rfl; have c1 := x0.cell 1 rfl; have c2 := x0.cell 2 rfl; have c3 := x0.cell 3 rfl
      have d0 := x1.cell 0 rfl; have d1 := x1.cell 1 rfl
      go_wp2_with fail
      refine (hwk _).mono ?_
      rintro e Vw ⟨rfl, hbw9⟩
      clear d0 d1
      clear c0 c1 c2 c3
      replace hb := hb.trans (hbw9.mono hb.size)
      go_wp2
      go_ret
      exact ⟨rfl, hb⟩
    · skip
      have hv := (hrk rfl).1
      obtain ⟨⟨⟨l1, l2⟩, l3, l4⟩, ⟨⟨l5, l6⟩, l7, l8⟩, ⟨l9, l10⟩, ⟨l11, l12⟩, l13, l14, l15⟩ := hlaw rfl rfl
      obtain ⟨hL, hN, hP8, _, hpp⟩ := vB_siz hv
      have hpq := (presB_in hL hN).1 hpp
      have htl := tuP_len L N P
      have hQ8 : P.length ≤ 1000 := by omega
      have hm1 := fun V (h : Fz V aP P) => Many_any L N aP cP P F V h.pz
      have hm2 := fun a c V (h : Fz V a (tuP L N P)) => Many_any N L a c (tuP L N P) F V h.pz
      have hf1 := fun V (h : Fz V aP P) => Fewest_any L N aP cP P F V h.pz
      have hf2 := fun a c V (h : Fz V a (tuP L N P)) => Fewest_any N L a c (tuP L N P) F V h.pz
      have hi1 := fun V (h : Fz V aP P) => First_any L N aP cP P F V h.pz (by rw [← HN.out]; exact hcap)
      have hi2 := fun a c V (h : Fz V a (tuP L N P)) (hc : (tuP L N P).length ≤ c) => First_any N L a c (tuP L N P) F V h.pz hc
      have he1 := fun V (h : Fz V aP P) => Left_any L N aP cP P F l k V h.pz
      have he2 := fun a c V (h : Fz V a (tuP L N P)) => Left_any N L a c (tuP L N P) F k l V h.pz
      have hs1 := fun V (h : Fz V aP P) => Sure_any L N aP cP P F V h.pz
      have hs2 := fun a c V (h : Fz V a (tuP L N P)) => Sure_any N L a c (tuP L N P) F V h.pz
      have hy1 := fun V (h : Fz V aP P) => Maybe_any L N aP cP P F V h.pz
      have hy2 := fun a c V (h : Fz V a (tuP L N P)) => Maybe_any N L a c (tuP L N P) F V h.pz
      have hxc := fun V (h : Fz V aP P) => Exchanged_any L N aP cP P F V h hL hN hpq
      have haf := fun V => AllFaults_any L N aP cP P F V hL hN
      have htu := fun a c (s : List F3) V (h : Fz V aP P) (hs : Fz V a s) => Turned_any L N aP cP P F a c s V h hs hL hN hpq
      have har := fun a b ca cb (xs ys : List F3) V hA hB h1 h2 => areIn_any a b ca cb xs ys V hA hB h1 h2
      have hsf := fun a b ca cb (xs : List F3) V hA hB => SameFaults_eq a b ca cb xs V hA hB
      unfold CtP at hs1 hs2 hy1 hy2
      unfold ExcP at hxc
      unfold LFP at haf htu
      rw [l1, l2] at hm2
      rw [l3, l4] at hf2
      rw [l5, l6] at hi2
      rw [l7, l8] at he2
      rw [l1, l9] at hs2
      rw [l1, l10] at hy2
      rw [htl, ← HN.out] at hm2 hf2 hi2 he2 hs2 hy2 hxc
      rw [← HN.out] at hm1 hf1 hi1 he1 hs1 hy1 haf htu hQ8
      clear l1 l2 l3 l4 l5 l6 l7 l8 l9 l10 hlaw hrk hv hpp hpq htl
      have ht1 := fun a c V h hs => htu a c (ctR sureS L N P F) V h hs
      have ht2 := fun a c V h hs => htu a c (ctR maybeS L N P F) V h hs
      have ha1 := fun a b ca cb V hA hB => har a b ca cb (ctR sureS L N P F) (allF L N) V hA hB l13 l15
      have ha2 := fun a b ca cb V hA hB => har a b ca cb (ctR maybeS L N P F) (allF L N) V hA hB l14 l15
      rw [l11] at ha1
      rw [l12] at ha2
      have hq1 := fun a b ca cb V hA hB => hsf a b ca cb (tuS L N (ctR sureS L N P F)) V hA hB
      have hq2 := fun a b ca cb V hA hB => hsf a b ca cb (tuS L N (ctR maybeS L N P F)) V hA hB
      clear htu har hsf l11 l12 l13 l14 l15 hL hN hP8
      generalize (akT L N P F true).length = M at *
      generalize akE L N P F true = E at *
      generalize fwR L N P F = M2 at *
      generalize fwE L N P F = E2 at *
      generalize fiR L N P F = M3 at *
      generalize fiE L N P F = E3 at *
      generalize lfR L N P F l k = M4 at *
      generalize lfE L N P F l k = E4 at *
      generalize tuP L N P = PT at *
      generalize tuS L N (ctR sureS L N P F) = S1 at *
      generalize tuS L N (ctR maybeS L N P F) = S2 at *
      generalize ctR sureS L N P F = R1 at *
      generalize ctR maybeS L N P F = R2 at *
      generalize allF L N = AF at *
      obtain ⟨r1, hr1⟩ : ∃ r, r = R1.length := ⟨_, rfl⟩
      obtain ⟨r2, hr2⟩ : ∃ r, r = R2.length := ⟨_, rfl⟩
      obtain ⟨s1, hs1'⟩ : ∃ r, r = S1.length := ⟨_, rfl⟩
      obtain ⟨s2, hs2'⟩ : ∃ r, r = S2.length := ⟨_, rfl⟩
      obtain ⟨na, hna⟩ : ∃ r, r = AF.length := ⟨_, rfl⟩
      rw [← hr1] at hs1 ht1 ha1
      rw [← hr2] at hy1 ht2 ha2
      rw [← hs1'] at hs2 ht1 hq1
      rw [← hs2'] at hy2 ht2 hq2
      rw [← hna] at haf ha1 ha2
      have dM : ((M : Int) != (M : Int)) = false := by simp
      have dE : (E != E) = false := by simp
      have dM2 : ((M2 : Int) != (M2 : Int)) = false := by simp
      have dE2 : (E2 != E2) = false := by simp
      have dM3 : ((M3 : Int) != (M3 : Int)) = false := by simp
      have dE3 : (E3 != E3) = false := by simp
      have dM4 : ((M4 : Int) != (M4 : Int)) = false := by simp
      have dE4 : (E4 != E4) = false := by simp
      clear hr1 hr2 hs1' hs2' hna
      go_enter Try.func11, Try.ntmps11
      go_wp2_with fail
      refine (hrd _ hP).mono ?_
      rintro e Vc6 ⟨rfl, hb1⟩
      clear d0 d1
      clear c0 c1 c2 c3
      replace x0 := x0.below hb1
      replace x1 := x1.below hb1
      replace hP := hP.below hb1 (Nat.le_refl _)
      replace hb := hb.trans (hb1.mono hb.size)
      clear hb1 hW hrd
      have c0 := x0.cell 0 rfl; have c1 := x0.cell 1 rfl; have c2 := x0.cell 2 rfl; have c3 := x0.cell 3 rfl
      have d0 := x1.cell 0 rfl; have d1 := x1.cell 1 rfl
      go_wp2_with fail
      refine (hib _).mono ?_
      rintro e Vc7 ⟨rfl, hb1⟩
      clear d0 d1
      clear c0 c1 c2 c3
      replace x0 := x0.below hb1
      replace x1 := x1.below hb1
      replace hP := hP.below hb1 (Nat.le_refl _)
      replace hb := hb.trans (hb1.mono hb.size)
      clear hb1 hib
      have c0 := x0.cell 0 rfl; have c1 := x0.cell 1 rfl; have c2 := x0.cell 2 rfl; have c3 := x0.cell 3 rfl
      have d0 := x1.cell 0 rfl; have d1 := x1.cell 1 rfl
      have hF := hP.2 (by rw [← HN.out]; exact hQ8)
      clear hP hQ8
      go_wp2_with fail
      refine (hxc _ hF).mono ?_
      rintro e V ⟨hb1, a, c, rfl, hFo, hcapC⟩
      clear c0 c1 c2 c3 d0 d1 hxc
      replace x0 := x0.below hb1
      replace x1 := x1.below hb1
      replace hF := hF.below hb1 (Nat.le_refl _)
      replace hb := hb.trans (hb1.mono hb.size)
      clear hb1
      have hba := below_one (w := V) (.cells #[.int .i64 N, .int .i64 L, .slice a n c, .int .i64 F] 24)
      have HXb := hid (And.intro (x0.below hba) (And.intro (x1.below hba) (And.intro (hF.below hba (Nat.le_refl _)) (And.intro (hFo.below hba (Nat.le_refl _)) (And.intro (hb.trans (hba.mono hb.size)) (Bx.new V #[.int .i64 N, .int .i64 L, .slice a n c, .int .i64 F] 24))))))
      clear x0 x1 hF hFo hb hba
      go_upto_region 4 with fail
      obtain ⟨x0, x1, hF, hFo, hb, x3⟩ := HXb.out
      clear HXb
      generalize V.heap.size = s3 at *
      generalize World.alloc _ _ = Va at *
      have c0 := x0.cell 0 rfl; have c1 := x0.cell 1 rfl; have c2 := x0.cell 2 rfl; have c3 := x0.cell 3 rfl
      have d0 := x1.cell 0 rfl; have d1 := x1.cell 1 rfl
      have e0 := x3.cell 0 rfl; have e1 := x3.cell 1 rfl; have e2 := x3.cell 2 rfl; have e3 := x3.cell 3 rfl
      go_wp2_with fail
      refine (hm1 _ hF).mono ?_
      rintro e Vc8 ⟨rfl, hb1⟩
      clear d0 d1
      clear c0 c1 c2 c3
      clear e0 e1 e2 e3
      replace x0 := x0.below hb1
      replace x1 := x1.below hb1
      replace x3 := x3.below hb1
      replace hF := hF.below hb1 (Nat.le_refl _)
      replace hFo := hFo.below hb1 (Nat.le_refl _)
      replace hb := hb.trans (hb1.mono hb.size)
      clear hb1 hm1
      have c0 := x0.cell 0 rfl; have c1 := x0.cell 1 rfl; have c2 := x0.cell 2 rfl; have c3 := x0.cell 3 rfl
      have d0 := x1.cell 0 rfl; have d1 := x1.cell 1 rfl
      have e0 := x3.cell 0 rfl; have e1 := x3.cell 1 rfl; have e2 := x3.cell 2 rfl; have e3 := x3.cell 3 rfl
      go_wp2_with fail
      refine (hm2 _ _ _ hFo).mono ?_
      rintro e Vc9 ⟨rfl, hb1⟩
      clear d0 d1
      clear c0 c1 c2 c3
      clear e0 e1 e2 e3
      replace x0 := x0.below hb1
      replace x1 := x1.below hb1
      replace x3 := x3.below hb1
      replace hF := hF.below hb1 (Nat.le_refl _)
      replace hFo := hFo.below hb1 (Nat.le_refl _)
      replace hb := hb.trans (hb1.mono hb.size)
      clear hb1 hm2
      have c0 := x0.cell 0 rfl; have c1 := x0.cell 1 rfl; have c2 := x0.cell 2 rfl; have c3 := x0.cell 3 rfl
      have d0 := x1.cell 0 rfl; have d1 := x1.cell 1 rfl
      have e0 := x3.cell 0 rfl; have e1 := x3.cell 1 rfl; have e2 := x3.cell 2 rfl; have e3 := x3.cell 3 rfl
      go_wp2_with fail
      refine (hf1 _ hF).mono ?_
      rintro e Vc10 ⟨rfl, hb1⟩
      clear d0 d1
      clear c0 c1 c2 c3
      clear e0 e1 e2 e3
      replace x0 := x0.below hb1
      replace x1 := x1.below hb1
      replace x3 := x3.below hb1
      replace hF := hF.below hb1 (Nat.le_refl _)
      replace hFo := hFo.below hb1 (Nat.le_refl _)
      replace hb := hb.trans (hb1.mono hb.size)
      clear hb1 hf1
      have c0 := x0.cell 0 rfl; have c1 := x0.cell 1 rfl; have c2 := x0.cell 2 rfl; have c3 := x0.cell 3 rfl
      have d0 := x1.cell 0 rfl; have d1 := x1.cell 1 rfl
      have e0 := x3.cell 0 rfl; have e1 := x3.cell 1 rfl; have e2 := x3.cell 2 rfl; have e3 := x3.cell 3 rfl
      go_wp2_with fail
      refine (hf2 _ _ _ hFo).mono ?_
      rintro e Vc11 ⟨rfl, hb1⟩
      clear d0 d1
      clear c0 c1 c2 c3
      clear e0 e1 e2 e3
      replace x0 := x0.below hb1
      replace x1 := x1.below hb1
      replace x3 := x3.below hb1
      replace hF := hF.below hb1 (Nat.le_refl _)
      replace hFo := hFo.below hb1 (Nat.le_refl _)
      replace hb := hb.trans (hb1.mono hb.size)
      clear hb1 hf2
      have c0 := x0.cell 0 rfl; have c1 := x0.cell 1 rfl; have c2 := x0.cell 2 rfl; have c3 := x0.cell 3 rfl
      have d0 := x1.cell 0 rfl; have d1 := x1.cell 1 rfl
      have e0 := x3.cell 0 rfl; have e1 := x3.cell 1 rfl; have e2 := x3.cell 2 rfl; have e3 := x3.cell 3 rfl
      go_wp2_with fail
      refine (hi1 _ hF).mono ?_
      rintro e Vc12 ⟨rfl, hb1⟩
      clear d0 d1
      clear c0 c1 c2 c3
      clear e0 e1 e2 e3
      replace x0 := x0.below hb1
      replace x1 := x1.below hb1
      replace x3 := x3.below hb1
      replace hF := hF.below hb1 (Nat.le_refl _)
      replace hFo := hFo.below hb1 (Nat.le_refl _)
      replace hb := hb.trans (hb1.mono hb.size)
      clear hb1 hi1
      have c0 := x0.cell 0 rfl; have c1 := x0.cell 1 rfl; have c2 := x0.cell 2 rfl; have c3 := x0.cell 3 rfl
      have d0 := x1.cell 0 rfl; have d1 := x1.cell 1 rfl
      have e0 := x3.cell 0 rfl; have e1 := x3.cell 1 rfl; have e2 := x3.cell 2 rfl; have e3 := x3.cell 3 rfl
      go_wp2_with fail
      refine (hi2 _ _ _ hFo hcapC).mono ?_
      rintro e Vc13 ⟨rfl, hb1⟩
      clear d0 d1
      clear c0 c1 c2 c3
      clear e0 e1 e2 e3
      replace x0 := x0.below hb1
      replace x1 := x1.below hb1
      replace x3 := x3.below hb1
      replace hF := hF.below hb1 (Nat.le_refl _)
      replace hFo := hFo.below hb1 (Nat.le_refl _)
      replace hb := hb.trans (hb1.mono hb.size)
      clear hb1 hi2
      have c0 := x0.cell 0 rfl; have c1 := x0.cell 1 rfl; have c2 := x0.cell 2 rfl; have c3 := x0.cell 3 rfl
      have d0 := x1.cell 0 rfl; have d1 := x1.cell 1 rfl
      have e0 := x3.cell 0 rfl; have e1 := x3.cell 1 rfl; have e2 := x3.cell 2 rfl; have e3 := x3.cell 3 rfl
      go_wp2_with fail
      refine (he1 _ hF).mono ?_
      rintro e Vc14 ⟨rfl, hb1⟩
      clear d0 d1
      clear c0 c1 c2 c3
      clear e0 e1 e2 e3
      replace x0 := x0.below hb1
      replace x1 := x1.below hb1
      replace x3 := x3.below hb1
      replace hF := hF.below hb1 (Nat.le_refl _)
      replace hFo := hFo.below hb1 (Nat.le_refl _)
      replace hb := hb.trans (hb1.mono hb.size)
      clear hb1 he1
      have c0 := x0.cell 0 rfl; have c1 := x0.cell 1 rfl; have c2 := x0.cell 2 rfl; have c3 := x0.cell 3 rfl
      have d0 := x1.cell 0 rfl; have d1 := x1.cell 1 rfl
      have e0 := x3.cell 0 rfl; have e1 := x3.cell 1 rfl; have e2 := x3.cell 2 rfl; have e3 := x3.cell 3 rfl
      go_wp2_with fail
      refine (he2 _ _ _ hFo).mono ?_
      rintro e Vc15 ⟨rfl, hb1⟩
      clear d0 d1
      clear c0 c1 c2 c3
      clear e0 e1 e2 e3
      replace x0 := x0.below hb1
      replace x1 := x1.below hb1
      replace x3 := x3.below hb1
      replace hF := hF.below hb1 (Nat.le_refl _)
      replace hFo := hFo.below hb1 (Nat.le_refl _)
      replace hb := hb.trans (hb1.mono hb.size)
      clear hb1 he2
      have c0 := x0.cell 0 rfl; have c1 := x0.cell 1 rfl; have c2 := x0.cell 2 rfl; have c3 := x0.cell 3 rfl
      have d0 := x1.cell 0 rfl; have d1 := x1.cell 1 rfl
      have e0 := x3.cell 0 rfl; have e1 := x3.cell 1 rfl; have e2 := x3.cell 2 rfl; have e3 := x3.cell 3 rfl
      go_wp2_with fail
      refine (hs1 _ hF).mono ?_
      rintro e Vc16 ⟨hb1, a18, c18, rfl, h18⟩
      clear d0 d1
      clear c0 c1 c2 c3
      clear e0 e1 e2 e3
      replace x0 := x0.below hb1
      replace x1 := x1.below hb1
      replace x3 := x3.below hb1
      replace hF := hF.below hb1 (Nat.le_refl _)
      replace hFo := hFo.below hb1 (Nat.le_refl _)
      replace hb := hb.trans (hb1.mono hb.size)
      clear hb1 hs1
      have c0 := x0.cell 0 rfl; have c1 := x0.cell 1 rfl; have c2 := x0.cell 2 rfl; have c3 := x0.cell 3 rfl
      have d0 := x1.cell 0 rfl; have d1 := x1.cell 1 rfl
      have e0 := x3.cell 0 rfl; have e1 := x3.cell 1 rfl; have e2 := x3.cell 2 rfl; have e3 := x3.cell 3 rfl
      go_wp2_with fail
      refine (hs2 _ _ _ hFo).mono ?_
      rintro e Vc17 ⟨hb1, a19, c19, rfl, h19⟩
      clear d0 d1
      clear c0 c1 c2 c3
      clear e0 e1 e2 e3
      replace x0 := x0.below hb1
      replace x1 := x1.below hb1
      replace x3 := x3.below hb1
      replace hF := hF.below hb1 (Nat.le_refl _)
      replace hFo := hFo.below hb1 (Nat.le_refl _)
      replace h18 := h18.below hb1 (Nat.le_refl _)
      replace hb := hb.trans (hb1.mono hb.size)
      clear hb1 hs2
      have c0 := x0.cell 0 rfl; have c1 := x0.cell 1 rfl; have c2 := x0.cell 2 rfl; have c3 := x0.cell 3 rfl
      have d0 := x1.cell 0 rfl; have d1 := x1.cell 1 rfl
      have e0 := x3.cell 0 rfl; have e1 := x3.cell 1 rfl; have e2 := x3.cell 2 rfl; have e3 := x3.cell 3 rfl
      go_wp2_with fail
      refine (hy1 _ hF).mono ?_
      rintro e Vc18 ⟨hb1, a20, c20, rfl, h20⟩
      clear d0 d1
      clear c0 c1 c2 c3
      clear e0 e1 e2 e3
      replace x0 := x0.below hb1
      replace x1 := x1.below hb1
      replace x3 := x3.below hb1
      replace hF := hF.below hb1 (Nat.le_refl _)
      replace hFo := hFo.below hb1 (Nat.le_refl _)
      replace h18 := h18.below hb1 (Nat.le_refl _)
      replace h19 := h19.below hb1 (Nat.le_refl _)
      replace hb := hb.trans (hb1.mono hb.size)
      clear hb1 hy1
      have c0 := x0.cell 0 rfl; have c1 := x0.cell 1 rfl; have c2 := x0.cell 2 rfl; have c3 := x0.cell 3 rfl
      have d0 := x1.cell 0 rfl; have d1 := x1.cell 1 rfl
      have e0 := x3.cell 0 rfl; have e1 := x3.cell 1 rfl; have e2 := x3.cell 2 rfl; have e3 := x3.cell 3 rfl
      go_wp2_with fail
      refine (hy2 _ _ _ hFo).mono ?_
      rintro e Vc19 ⟨hb1, a21, c21, rfl, h21⟩
      clear d0 d1
      clear c0 c1 c2 c3
      clear e0 e1 e2 e3
      replace x0 := x0.below hb1
      replace x1 := x1.below hb1
      replace x3 := x3.below hb1
      replace hF := hF.below hb1 (Nat.le_refl _)
      replace hFo := hFo.below hb1 (Nat.le_refl _)
      replace h18 := h18.below hb1 (Nat.le_refl _)
      replace h19 := h19.below hb1 (Nat.le_refl _)
      replace h20 := h20.below hb1 (Nat.le_refl _)
      replace hb := hb.trans (hb1.mono hb.size)
      clear hb1 hy2
      have c0 := x0.cell 0 rfl; have c1 := x0.cell 1 rfl; have c2 := x0.cell 2 rfl; have c3 := x0.cell 3 rfl
      have d0 := x1.cell 0 rfl; have d1 := x1.cell 1 rfl
      have e0 := x3.cell 0 rfl; have e1 := x3.cell 1 rfl; have e2 := x3.cell 2 rfl; have e3 := x3.cell 3 rfl
      go_wp2_with fail
      refine (haf _).mono ?_
      rintro e Vc20 ⟨hb1, aA, cA, rfl, _, hA⟩
      clear d0 d1
      clear c0 c1 c2 c3
      clear e0 e1 e2 e3
      replace x0 := x0.below hb1
      replace x1 := x1.below hb1
      replace x3 := x3.below hb1
      replace hF := hF.below hb1 (Nat.le_refl _)
      replace hFo := hFo.below hb1 (Nat.le_refl _)
      replace h18 := h18.below hb1 (Nat.le_refl _)
      replace h19 := h19.below hb1 (Nat.le_refl _)
      replace h20 := h20.below hb1 (Nat.le_refl _)
      replace h21 := h21.below hb1 (Nat.le_refl _)
      replace hb := hb.trans (hb1.mono hb.size)
      clear hb1
      have c0 := x0.cell 0 rfl; have c1 := x0.cell 1 rfl; have c2 := x0.cell 2 rfl; have c3 := x0.cell 3 rfl
      have d0 := x1.cell 0 rfl; have d1 := x1.cell 1 rfl
      have e0 := x3.cell 0 rfl; have e1 := x3.cell 1 rfl; have e2 := x3.cell 2 rfl; have e3 := x3.cell 3 rfl
      go_wp2_with fail
      refine (ha1 _ _ _ _ _ h18 hA.1).mono ?_
      rintro e Vc21 ⟨rfl, hb1⟩
      clear d0 d1
      clear c0 c1 c2 c3
      clear e0 e1 e2 e3
      replace x0 := x0.below hb1
      replace x1 := x1.below hb1
      replace x3 := x3.below hb1
      replace hF := hF.below hb1 (Nat.le_refl _)
      replace hFo := hFo.below hb1 (Nat.le_refl _)
      replace h18 := h18.below hb1 (Nat.le_refl _)
      replace h19 := h19.below hb1 (Nat.le_refl _)
      replace h20 := h20.below hb1 (Nat.le_refl _)
      replace h21 := h21.below hb1 (Nat.le_refl _)
      replace hA := hA.below hb1 (Nat.le_refl _)
      replace hb := hb.trans (hb1.mono hb.size)
      clear hb1 ha1
      have c0 := x0.cell 0 rfl; have c1 := x0.cell 1 rfl; have c2 := x0.cell 2 rfl; have c3 := x0.cell 3 rfl
      have d0 := x1.cell 0 rfl; have d1 := x1.cell 1 rfl
      have e0 := x3.cell 0 rfl; have e1 := x3.cell 1 rfl; have e2 := x3.cell 2 rfl; have e3 := x3.cell 3 rfl
      clear hA
      go_wp2_with fail
      refine (haf _).mono ?_
      rintro e Vc22 ⟨hb1, aB, cB, rfl, _, hB⟩
      clear d0 d1
      clear c0 c1 c2 c3
      clear e0 e1 e2 e3
      replace x0 := x0.below hb1
      replace x1 := x1.below hb1
      replace x3 := x3.below hb1
      replace hF := hF.below hb1 (Nat.le_refl _)
      replace hFo := hFo.below hb1 (Nat.le_refl _)
      replace h18 := h18.below hb1 (Nat.le_refl _)
      replace h19 := h19.below hb1 (Nat.le_refl _)
      replace h20 := h20.below hb1 (Nat.le_refl _)
      replace h21 := h21.below hb1 (Nat.le_refl _)
      replace hb := hb.trans (hb1.mono hb.size)
      clear hb1 haf
      have c0 := x0.cell 0 rfl; have c1 := x0.cell 1 rfl; have c2 := x0.cell 2 rfl; have c3 := x0.cell 3 rfl
      have d0 := x1.cell 0 rfl; have d1 := x1.cell 1 rfl
      have e0 := x3.cell 0 rfl; have e1 := x3.cell 1 rfl; have e2 := x3.cell 2 rfl; have e3 := x3.cell 3 rfl
      go_wp2_with fail
      refine (ha2 _ _ _ _ _ h20 hB.1).mono ?_
      rintro e Vc23 ⟨rfl, hb1⟩
      clear d0 d1
      clear c0 c1 c2 c3
      clear e0 e1 e2 e3
      replace x0 := x0.below hb1
      replace x1 := x1.below hb1
      replace x3 := x3.below hb1
      replace hF := hF.below hb1 (Nat.le_refl _)
      replace hFo := hFo.below hb1 (Nat.le_refl _)
      replace h18 := h18.below hb1 (Nat.le_refl _)
      replace h19 := h19.below hb1 (Nat.le_refl _)
      replace h20 := h20.below hb1 (Nat.le_refl _)
      replace h21 := h21.below hb1 (Nat.le_refl _)
      replace hB := hB.below hb1 (Nat.le_refl _)
      replace hb := hb.trans (hb1.mono hb.size)
      clear hb1 ha2
      have c0 := x0.cell 0 rfl; have c1 := x0.cell 1 rfl; have c2 := x0.cell 2 rfl; have c3 := x0.cell 3 rfl
      have d0 := x1.cell 0 rfl; have d1 := x1.cell 1 rfl
      have e0 := x3.cell 0 rfl; have e1 := x3.cell 1 rfl; have e2 := x3.cell 2 rfl; have e3 := x3.cell 3 rfl
      clear hB
      go_wp2_with fail
      refine (ht1 _ _ _ hF h18).mono ?_
      rintro e Vc24 ⟨hb1, a30, c30, rfl, _, h30⟩
      clear d0 d1
      clear c0 c1 c2 c3
      clear e0 e1 e2 e3
      replace x0 := x0.below hb1
      replace x1 := x1.below hb1
      replace x3 := x3.below hb1
      replace hF := hF.below hb1 (Nat.le_refl _)
      replace hFo := hFo.below hb1 (Nat.le_refl _)
      replace h18 := h18.below hb1 (Nat.le_refl _)
      replace h19 := h19.below hb1 (Nat.le_refl _)
      replace h20 := h20.below hb1 (Nat.le_refl _)
      replace h21 := h21.below hb1 (Nat.le_refl _)
      replace hb := hb.trans (hb1.mono hb.size)
      clear hb1 ht1
      have c0 := x0.cell 0 rfl; have c1 := x0.cell 1 rfl; have c2 := x0.cell 2 rfl; have c3 := x0.cell 3 rfl
      have d0 := x1.cell 0 rfl; have d1 := x1.cell 1 rfl
      have e0 := x3.cell 0 rfl; have e1 := x3.cell 1 rfl; have e2 := x3.cell 2 rfl; have e3 := x3.cell 3 rfl
      go_wp2_with fail
      refine (hq1 _ _ _ _ _ h30.1 h19).mono ?_
      rintro e Vc25 ⟨rfl, hb1⟩
      clear d0 d1
      clear c0 c1 c2 c3
      clear e0 e1 e2 e3
      replace x0 := x0.below hb1
      replace x1 := x1.below hb1
      replace x3 := x3.below hb1
      replace hF := hF.below hb1 (Nat.le_refl _)
      replace hFo := hFo.below hb1 (Nat.le_refl _)
      replace h18 := h18.below hb1 (Nat.le_refl _)
      replace h19 := h19.below hb1 (Nat.le_refl _)
      replace h20 := h20.below hb1 (Nat.le_refl _)
      replace h21 := h21.below hb1 (Nat.le_refl _)
      replace h30 := h30.below hb1 (Nat.le_refl _)
      replace hb := hb.trans (hb1.mono hb.size)
      clear hb1 hq1
      have c0 := x0.cell 0 rfl; have c1 := x0.cell 1 rfl; have c2 := x0.cell 2 rfl; have c3 := x0.cell 3 rfl
      have d0 := x1.cell 0 rfl; have d1 := x1.cell 1 rfl
      have e0 := x3.cell 0 rfl; have e1 := x3.cell 1 rfl; have e2 := x3.cell 2 rfl; have e3 := x3.cell 3 rfl
      clear h30
      go_wp2_with fail
      refine (ht2 _ _ _ hF h20).mono ?_
      rintro e Vc26 ⟨hb1, a31, c31, rfl, _, h31⟩
      clear d0 d1
      clear c0 c1 c2 c3
      clear e0 e1 e2 e3
      replace x0 := x0.below hb1
      replace x1 := x1.below hb1
      replace x3 := x3.below hb1
      replace hF := hF.below hb1 (Nat.le_refl _)
      replace hFo := hFo.below hb1 (Nat.le_refl _)
      replace h18 := h18.below hb1 (Nat.le_refl _)
      replace h19 := h19.below hb1 (Nat.le_refl _)
      replace h20 := h20.below hb1 (Nat.le_refl _)
      replace h21 := h21.below hb1 (Nat.le_refl _)
      replace hb := hb.trans (hb1.mono hb.size)
      clear hb1 ht2
      have c0 := x0.cell 0 rfl; have c1 := x0.cell 1 rfl; have c2 := x0.cell 2 rfl; have c3 := x0.cell 3 rfl
      have d0 := x1.cell 0 rfl; have d1 := x1.cell 1 rfl
      have e0 := x3.cell 0 rfl; have e1 := x3.cell 1 rfl; have e2 := x3.cell 2 rfl; have e3 := x3.cell 3 rfl
      go_wp2_with fail
      refine (hq2 _ _ _ _ _ h31.1 h21).mono ?_
      rintro e Vc27 ⟨rfl, hb1⟩
      clear d0 d1
      clear c0 c1 c2 c3
      clear e0 e1 e2 e3
      replace x0 := x0.below hb1
      replace x1 := x1.below hb1
      replace x3 := x3.below hb1
      replace hF := hF.below hb1 (Nat.le_refl _)
      replace hFo := hFo.below hb1 (Nat.le_refl _)
      replace h18 := h18.below hb1 (Nat.le_refl _)
      replace h19 := h19.below hb1 (Nat.le_refl _)
      replace h20 := h20.below hb1 (Nat.le_refl _)
      replace h21 := h21.below hb1 (Nat.le_refl _)
      replace h31 := h31.below hb1 (Nat.le_refl _)
      replace hb := hb.trans (hb1.mono hb.size)
      clear hb1 hq2
      have c0 := x0.cell 0 rfl; have c1 := x0.cell 1 rfl; have c2 := x0.cell 2 rfl; have c3 := x0.cell 3 rfl
      have d0 := x1.cell 0 rfl; have d1 := x1.cell 1 rfl
      have e0 := x3.cell 0 rfl; have e1 := x3.cell 1 rfl; have e2 := x3.cell 2 rfl; have e3 := x3.cell 3 rfl
      clear h31
      go_wp2_with fail
      refine (hwk _).mono ?_
      rintro e Vw ⟨rfl, hbw9⟩
      clear d0 d1
      clear c0 c1 c2 c3
      clear e0 e1 e2 e3
      replace hb := hb.trans (hbw9.mono hb.size)
      go_wp2
      go_ret
      exact ⟨rfl, hb⟩
end Go.Proofs.Ytmpihcencnkpbaa
