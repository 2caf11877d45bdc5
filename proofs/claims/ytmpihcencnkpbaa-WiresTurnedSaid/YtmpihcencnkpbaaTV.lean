import Derived.Test.YtmpihcencnkpbaaTU
/-! The reference's Plays, Explains; equal boxes. -/
namespace Go.Proofs.Ytmpihcencnkpbaa
set_option linter.unusedSimpArgs false
set_option linter.unusedVariables false
open Go Go.RowKit

set_option maxRecDepth 100000 in
set_option maxHeartbeats 3000000 in
theorem rPlays_any (L N : Int) (aP : Option Addr) (cP : Nat) (P : List F3) (F : Int) (aS : Option Addr) (cS : Nat) (s : List F3) (l n : Int) (w : World) (hP : Pz w aP P) (hS : Fz w aS s) :
    Calls Try.prog 19 #[.agg #[.int .i64 L, .int .i64 N, .slice aP P.length cP, .int .i64 F], .slice aS s.length cS, .int .i64 l, .int .i64 n] w fun e w' => e = .returned (.tuple #[.int .i64 (plR L N P F s l n), .int .i64 (plE L N P F s l n)]) ∧ Below w.heap.size w w' := by
  obtain ⟨W, hW, hb, _, x0⟩ := boxes1 w #[.int .i64 L, .int .i64 N, .slice aP P.length cP, .int .i64 F] 24
  replace hP := hP.below hb (Nat.le_refl _)
  replace hS := hS.below hb (Nat.le_refl _)
  have hck := fun V (h : Pz V aP P) => rCheck_any L N aP cP P F V h.2 h.1
  have hib := fun V => IsButton_any L N aP cP P F l n V
  have hst := fun (hv : vB L N P F = true) V (h : Fz V aS s) => IsSet_any L N aP cP P F aS cS s V h (vB_siz hv).1 (vB_siz hv).2.1
  have hpo := fun (hv : vB L N P F = true) (h1 : setB L N s = true) (h2 : prB L N l n = true) V (h : Fz V aS s) => PlaysOf_any L N aP cP P F aS cS s l n V h (vB_siz hv).1 (vB_siz hv).2.1 (prB_rng (vB_siz hv).1 (vB_siz hv).2.1 h2).1 (prB_rng (vB_siz hv).1 (vB_siz hv).2.1 h2).2 (setB_ok hv h1) h1
  unfold ckE at hck
  have HR : Hid (plR L N P F s l n = if plE L N P F s l n = 0 then plV N s l n else 0) := hid rfl
  have HE : Hid (plE L N P F s l n = if vB L N P F = true then (if (setB L N s && prB L N l n) = true then 0 else 1) else 110) := hid rfl
  generalize plR L N P F s l n = R at *
  generalize plE L N P F s l n = E at *
  generalize plV N s l n = v at *
  generalize vB L N P F = b0 at *
  generalize setB L N s = b1 at *
  generalize prB L N l n = b2 at *
  obtain ⟨k, hk⟩ : ∃ k, k = s.length := ⟨_, rfl⟩
  rw [← hk] at hst hpo ⊢
  clear hk
  cases b0
  · skip
    clear hst hpo hib
    have c0 := x0.cell 0 rfl; have c1 := x0.cell 1 rfl; have c2 := x0.cell 2 rfl; have c3 := x0.cell 3 rfl
    go_enter Try.func19, Try.ntmps19
    go_wp2_with fail
    refine (hck _ hP).mono ?_
    rintro e Vc1 ⟨rfl, hb1⟩
    clear c0 c1 c2 c3
    replace x0 := x0.below hb1
    replace hP := hP.below hb1 (Nat.le_refl _)
    replace hS := hS.below hb1 (Nat.le_refl _)
    replace hb := hb.trans (hb1.mono hb.size)
    clear hb1 hW hck
    have c0 := x0.cell 0 rfl; have c1 := x0.cell 1 rfl; have c2 := x0.cell 2 rfl; have c3 := x0.cell 3 rfl
    go_wp2
    go_ret2
    exact ⟨by rw [HR.out, HE.out]; simp, hb⟩
  · skip
    replace hst := hst rfl
    replace hpo := hpo rfl
    cases b1
    · skip
      clear hpo hib
      have c0 := x0.cell 0 rfl; have c1 := x0.cell 1 rfl; have c2 := x0.cell 2 rfl; have c3 := x0.cell 3 rfl
      go_enter Try.func19, Try.ntmps19
      go_wp2_with fail
      refine (hck _ hP).mono ?_
      rintro e Vc2 ⟨rfl, hb1⟩
      clear c0 c1 c2 c3
      replace x0 := x0.below hb1
      replace hP := hP.below hb1 (Nat.le_refl _)
      replace hS := hS.below hb1 (Nat.le_refl _)
      replace hb := hb.trans (hb1.mono hb.size)
      clear hb1 hW hck
      have c0 := x0.cell 0 rfl; have c1 := x0.cell 1 rfl; have c2 := x0.cell 2 rfl; have c3 := x0.cell 3 rfl
      go_wp2_with fail
      refine (hst _ hS).mono ?_
      rintro e Vc3 ⟨rfl, hb1⟩
      clear c0 c1 c2 c3
      replace x0 := x0.below hb1
      replace hP := hP.below hb1 (Nat.le_refl _)
      replace hS := hS.below hb1 (Nat.le_refl _)
      replace hb := hb.trans (hb1.mono hb.size)
      clear hb1 hst
      have c0 := x0.cell 0 rfl; have c1 := x0.cell 1 rfl; have c2 := x0.cell 2 rfl; have c3 := x0.cell 3 rfl
      go_wp2
      go_ret2
      exact ⟨by rw [HR.out, HE.out]; simp, hb⟩
    · skip
      replace hpo := hpo rfl
      cases b2
      · skip
        clear hpo
        have c0 := x0.cell 0 rfl; have c1 := x0.cell 1 rfl; have c2 := x0.cell 2 rfl; have c3 := x0.cell 3 rfl
        go_enter Try.func19, Try.ntmps19
        go_wp2_with fail
        refine (hck _ hP).mono ?_
        rintro e Vc4 ⟨rfl, hb1⟩
        clear c0 c1 c2 c3
        replace x0 := x0.below hb1
        replace hP := hP.below hb1 (Nat.le_refl _)
        replace hS := hS.below hb1 (Nat.le_refl _)
        replace hb := hb.trans (hb1.mono hb.size)
        clear hb1 hW hck
        have c0 := x0.cell 0 rfl; have c1 := x0.cell 1 rfl; have c2 := x0.cell 2 rfl; have c3 := x0.cell 3 rfl
        go_wp2_with fail
        refine (hst _ hS).mono ?_
        rintro e Vc5 ⟨rfl, hb1⟩
        clear c0 c1 c2 c3
        replace x0 := x0.below hb1
        replace hP := hP.below hb1 (Nat.le_refl _)
        replace hS := hS.below hb1 (Nat.le_refl _)
        replace hb := hb.trans (hb1.mono hb.size)
        clear hb1 hst
        have c0 := x0.cell 0 rfl; have c1 := x0.cell 1 rfl; have c2 := x0.cell 2 rfl; have c3 := x0.cell 3 rfl
        go_wp2_with fail
        refine (hib _).mono ?_
        rintro e Vc6 ⟨rfl, hb1⟩
        clear c0 c1 c2 c3
        replace x0 := x0.below hb1
        replace hP := hP.below hb1 (Nat.le_refl _)
        replace hS := hS.below hb1 (Nat.le_refl _)
        replace hb := hb.trans (hb1.mono hb.size)
        clear hb1 hib
        have c0 := x0.cell 0 rfl; have c1 := x0.cell 1 rfl; have c2 := x0.cell 2 rfl; have c3 := x0.cell 3 rfl
        go_wp2
        go_ret2
        exact ⟨by rw [HR.out, HE.out]; simp, hb⟩
      · skip
        replace hpo := hpo rfl
        have c0 := x0.cell 0 rfl; have c1 := x0.cell 1 rfl; have c2 := x0.cell 2 rfl; have c3 := x0.cell 3 rfl
        go_enter Try.func19, Try.ntmps19
        go_wp2_with fail
        refine (hck _ hP).mono ?_
        rintro e Vc7 ⟨rfl, hb1⟩
        clear c0 c1 c2 c3
        replace x0 := x0.below hb1
        replace hP := hP.below hb1 (Nat.le_refl _)
        replace hS := hS.below hb1 (Nat.le_refl _)
        replace hb := hb.trans (hb1.mono hb.size)
        clear hb1 hW hck
        have c0 := x0.cell 0 rfl; have c1 := x0.cell 1 rfl; have c2 := x0.cell 2 rfl; have c3 := x0.cell 3 rfl
        go_wp2_with fail
        refine (hst _ hS).mono ?_
        rintro e Vc8 ⟨rfl, hb1⟩
        clear c0 c1 c2 c3
        replace x0 := x0.below hb1
        replace hP := hP.below hb1 (Nat.le_refl _)
        replace hS := hS.below hb1 (Nat.le_refl _)
        replace hb := hb.trans (hb1.mono hb.size)
        clear hb1 hst
        have c0 := x0.cell 0 rfl; have c1 := x0.cell 1 rfl; have c2 := x0.cell 2 rfl; have c3 := x0.cell 3 rfl
        go_wp2_with fail
        refine (hib _).mono ?_
        rintro e Vc9 ⟨rfl, hb1⟩
        clear c0 c1 c2 c3
        replace x0 := x0.below hb1
        replace hP := hP.below hb1 (Nat.le_refl _)
        replace hS := hS.below hb1 (Nat.le_refl _)
        replace hb := hb.trans (hb1.mono hb.size)
        clear hb1 hib
        have c0 := x0.cell 0 rfl; have c1 := x0.cell 1 rfl; have c2 := x0.cell 2 rfl; have c3 := x0.cell 3 rfl
        go_wp2_with fail
        refine (hpo _ hS).mono ?_
        rintro e Vc10 ⟨rfl, hb1⟩
        clear c0 c1 c2 c3
        replace x0 := x0.below hb1
        replace hP := hP.below hb1 (Nat.le_refl _)
        replace hS := hS.below hb1 (Nat.le_refl _)
        replace hb := hb.trans (hb1.mono hb.size)
        clear hb1 hpo
        have c0 := x0.cell 0 rfl; have c1 := x0.cell 1 rfl; have c2 := x0.cell 2 rfl; have c3 := x0.cell 3 rfl
        go_wp2
        go_ret2
        exact ⟨by rw [HR.out, HE.out]; simp, hb⟩

set_option maxRecDepth 100000 in
set_option maxHeartbeats 3000000 in
theorem rExplains_any (L N : Int) (aP : Option Addr) (cP : Nat) (P : List F3) (F : Int) (aS : Option Addr) (cS : Nat) (s : List F3) (w : World) (hP : Pz w aP P) (hS : Fz w aS s) :
    Calls Try.prog 21 #[.agg #[.int .i64 L, .int .i64 N, .slice aP P.length cP, .int .i64 F], .slice aS s.length cS] w fun e w' => e = .returned (.tuple #[.bool (exR L N P F s), .int .i64 (exE L N P F s)]) ∧ Below w.heap.size w w' := by
  have hP0 := hP
  have hS0 := hS
  obtain ⟨W, hW, hb, _, x0⟩ := boxes1 w #[.int .i64 L, .int .i64 N, .slice aP P.length cP, .int .i64 F] 24
  replace hP := hP.below hb (Nat.le_refl _)
  replace hS := hS.below hb (Nat.le_refl _)
  have hck := fun V (h : Pz V aP P) => rCheck_any L N aP cP P F V h.2 h.1
  have hst := fun (hv : vB L N P F = true) V (h : Fz V aS s) => IsSet_any L N aP cP P F aS cS s V h (vB_siz hv).1 (vB_siz hv).2.1
  have hpo := fun (hv : vB L N P F = true) (h1 : setB L N s = true) V (h : Fz V aS s) (hp : Pz V aP P) => IsExplained_any L N aP cP P F aS cS s V h (hp.2 (by have := (vB_siz hv).2.2.1; omega)) (vB_siz hv).1 (vB_siz hv).2.1 (vB_pr hv) (setB_ok hv h1) h1
  unfold ckE at hck
  have HR : Hid (exR L N P F s = if exE L N P F s = 0 then exB N s P else false) := hid rfl
  have HE : Hid (exE L N P F s = if vB L N P F = true then (if setB L N s = true then 0 else 1) else 110) := hid rfl
  generalize exR L N P F s = R at *
  generalize exE L N P F s = E at *
  generalize exB N s P = v at *
  generalize vB L N P F = b0 at *
  generalize setB L N s = b1 at *
  obtain ⟨k, hk⟩ : ∃ k, k = s.length := ⟨_, rfl⟩
  rw [← hk] at hst hpo ⊢
  clear hk hP0 hS0
  cases b0
  · skip
    clear hst hpo
    have c0 := x0.cell 0 rfl; have c1 := x0.cell 1 rfl; have c2 := x0.cell 2 rfl; have c3 := x0.cell 3 rfl
    go_enter Try.func21, Try.ntmps21
    go_wp2_with fail
    refine (hck _ hP).mono ?_
    rintro e Vc1 ⟨rfl, hb1⟩
    clear c0 c1 c2 c3
    replace x0 := x0.below hb1
    replace hP := hP.below hb1 (Nat.le_refl _)
    replace hS := hS.below hb1 (Nat.le_refl _)
    replace hb := hb.trans (hb1.mono hb.size)
    clear hb1 hW hck
    have c0 := x0.cell 0 rfl; have c1 := x0.cell 1 rfl; have c2 := x0.cell 2 rfl; have c3 := x0.cell 3 rfl
    go_wp2
    go_ret2
    exact ⟨by rw [HR.out, HE.out]; simp, hb⟩
  · skip
    replace hst := hst rfl
    replace hpo := hpo rfl
    cases b1
    · skip
      clear hpo
      have c0 := x0.cell 0 rfl; have c1 := x0.cell 1 rfl; have c2 := x0.cell 2 rfl; have c3 := x0.cell 3 rfl
      go_enter Try.func21, Try.ntmps21
      go_wp2_with fail
      refine (hck _ hP).mono ?_
      rintro e Vc2 ⟨rfl, hb1⟩
      clear c0 c1 c2 c3
      replace x0 := x0.below hb1
      replace hP := hP.below hb1 (Nat.le_refl _)
      replace hS := hS.below hb1 (Nat.le_refl _)
      replace hb := hb.trans (hb1.mono hb.size)
      clear hb1 hW hck
      have c0 := x0.cell 0 rfl; have c1 := x0.cell 1 rfl; have c2 := x0.cell 2 rfl; have c3 := x0.cell 3 rfl
      go_wp2_with fail
      refine (hst _ hS).mono ?_
      rintro e Vc3 ⟨rfl, hb1⟩
      clear c0 c1 c2 c3
      replace x0 := x0.below hb1
      replace hP := hP.below hb1 (Nat.le_refl _)
      replace hS := hS.below hb1 (Nat.le_refl _)
      replace hb := hb.trans (hb1.mono hb.size)
      clear hb1 hst
      have c0 := x0.cell 0 rfl; have c1 := x0.cell 1 rfl; have c2 := x0.cell 2 rfl; have c3 := x0.cell 3 rfl
      go_wp2
      go_ret2
      exact ⟨by rw [HR.out, HE.out]; simp, hb⟩
    · skip
      replace hpo := hpo rfl
      have c0 := x0.cell 0 rfl; have c1 := x0.cell 1 rfl; have c2 := x0.cell 2 rfl; have c3 := x0.cell 3 rfl
      go_enter Try.func21, Try.ntmps21
      go_wp2_with fail
      refine (hck _ hP).mono ?_
      rintro e Vc4 ⟨rfl, hb1⟩
      clear c0 c1 c2 c3
      replace x0 := x0.below hb1
      replace hP := hP.below hb1 (Nat.le_refl _)
      replace hS := hS.below hb1 (Nat.le_refl _)
      replace hb := hb.trans (hb1.mono hb.size)
      clear hb1 hW hck
      have c0 := x0.cell 0 rfl; have c1 := x0.cell 1 rfl; have c2 := x0.cell 2 rfl; have c3 := x0.cell 3 rfl
      go_wp2_with fail
      refine (hst _ hS).mono ?_
      rintro e Vc5 ⟨rfl, hb1⟩
      clear c0 c1 c2 c3
      replace x0 := x0.below hb1
      replace hP := hP.below hb1 (Nat.le_refl _)
      replace hS := hS.below hb1 (Nat.le_refl _)
      replace hb := hb.trans (hb1.mono hb.size)
      clear hb1 hst
      have c0 := x0.cell 0 rfl; have c1 := x0.cell 1 rfl; have c2 := x0.cell 2 rfl; have c3 := x0.cell 3 rfl
      go_wp2_with fail
      refine (hpo _ hS hP).mono ?_
      rintro e Vc6 ⟨rfl, hb1⟩
      clear c0 c1 c2 c3
      replace x0 := x0.below hb1
      replace hP := hP.below hb1 (Nat.le_refl _)
      replace hS := hS.below hb1 (Nat.le_refl _)
      replace hb := hb.trans (hb1.mono hb.size)
      clear hb1 hpo
      have c0 := x0.cell 0 rfl; have c1 := x0.cell 1 rfl; have c2 := x0.cell 2 rfl; have c3 := x0.cell 3 rfl
      go_wp2
      go_ret2
      exact ⟨by rw [HR.out, HE.out]; simp, hb⟩

set_option maxRecDepth 100000 in
set_option maxHeartbeats 3000000 in
theorem same_eq (L N : Int) (a1 a2 : Option Addr) (cA cB : Nat) (P : List F3) (F : Int) (w : World) (hA : Fz w a1 P) (hB : Fz w a2 P) :
    Calls Try.prog 22 #[.agg #[.int .i64 L, .int .i64 N, .slice a1 P.length cA, .int .i64 F], .agg #[.int .i64 L, .int .i64 N, .slice a2 P.length cB, .int .i64 F]] w fun e w' => e = .returned (.bool true) ∧ Below w.heap.size w w' := by
  have hlen := hA.len
  obtain ⟨n, hn⟩ : ∃ n, n = P.length := ⟨_, rfl⟩
  rw [← hn] at hlen ⊢
  have HN := hid hn
  clear hn
  obtain ⟨W, hW, hb, _, x0, x1⟩ := boxes2 w #[.int .i64 L, .int .i64 N, .slice a1 n cA, .int .i64 F] 24 #[.int .i64 L, .int .i64 N, .slice a2 n cB, .int .i64 F] 24
  replace hA := hA.below hb (Nat.le_refl _)
  replace hB := hB.below hb (Nat.le_refl _)
  have e1 : (L != L) = false := by simp
  have e2 : (N != N) = false := by simp
  have e3 : (F != F) = false := by simp
  have e4 : ((n : Int) != (n : Int)) = false := by simp
  have c0 := x0.cell 0 rfl; have c1 := x0.cell 1 rfl; have c2 := x0.cell 2 rfl; have c3 := x0.cell 3 rfl
  have d0 := x1.cell 0 rfl; have d1 := x1.cell 1 rfl; have d2 := x1.cell 2 rfl; have d3 := x1.cell 3 rfl
  go_enter Try.func22, Try.ntmps22
  go_wp2
  clear c0 c1 c2 c3 d0 d1 d2 d3 hW e1 e2 e3 e4
  go_loopw [4, 5] (fun v4 v5 wr => ∃ k : Nat, k ≤ n ∧ v5 = .int .i64 (k : Int) ∧ Below W.heap.size W wr) (fun _ v5 _ => n - (intOf v5).toNat)
  case atStart => exact ⟨0, Nat.zero_le _, rfl, Below.refl _ _⟩
  case round =>
    obtain ⟨k, hk, rfl, hb1⟩ := hrel
    have xr := x0.below hb1
    have yr := x1.below hb1
    by_cases hlt : k < n
    · obtain ⟨b1, o1, x, rfl, _, ⟨q0, q1, q2⟩, _, _, hg1, _⟩ := (hA.below hb1 (Nat.le_refl _)).at (k := k) (by rw [← HN.out]; exact hlt)
      obtain ⟨b2, o2, y, rfl, _, ⟨r0, r1, r2⟩, _, _, hg2, _⟩ := (hB.below hb1 (Nat.le_refl _)).at (k := k) (by rw [← HN.out]; exact hlt)
      obtain rfl : x = y := by have := hg1.out; rw [hg2.out] at this; injection this with e; exact e.symm
      have hkI : (k : Int) < n := by omega
      have hk0 : (0 : Int) ≤ (k : Int) := by omega
      have hxx : ∀ w, (binOp .neq 58 (.agg #[.int .i64 x.k, .int .i64 x.a, .int .i64 x.b]) (.agg #[.int .i64 x.k, .int .i64 x.a, .int .i64 x.b])).run Try.prog w = .ok (.bool false) w := fun w => by rw [f3_neq58]; simp
      have u0 := Ext.cell q0; have u1 := Ext.cell q1; have u2 := Ext.cell q2
      have s0 := Ext.cell r0; have s1 := Ext.cell r1; have s2 := Ext.cell r2
      have k2 := xr.cell 2 rfl
      have m2 := yr.cell 2 rfl
      have t0 := Ext.cell k2
      have t1 := Ext.cell m2
      clear hg1 hg2 q0 q1 q2 r0 r1 r2 m2 xr yr
      go_upto_region 6 with fail
      clear k2
      refine wp_region_ext_lit (by kernel_rfl) (by kernel_rfl) ?_
      repeat (quiet_step (fail))
      refine wpQuiet_nil ?_
      intro _ hw'
      obtain ⟨tt, rfl⟩ := hw'
      have hb2 := hb1.trans (tt.below.mono hb1.size)
      clear t0 t1 u0 u1 u2 s0 s1 s2
      go_wp2
      go_roundw
      case rel => exact ⟨k + 1, by omega, by simp, hb2⟩
      case measure => simp [intOf]; omega
    · obtain rfl : k = n := by omega
      have hkI : ¬ (k : Int) < (k : Int) := by omega
      have k2 := xr.cell 2 rfl
      replace hb := hb.trans (hb1.mono hb.size)
      go_wp2
      go_ret
      exact ⟨rfl, hb⟩
end Go.Proofs.Ytmpihcencnkpbaa
