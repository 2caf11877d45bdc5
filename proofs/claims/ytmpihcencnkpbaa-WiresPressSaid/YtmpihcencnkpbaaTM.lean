import Derived.Test.YtmpihcencnkpbaaTL
/-! WiresPress: its walk. -/
namespace Go.Proofs.Ytmpihcencnkpbaa
set_option linter.unusedSimpArgs false
set_option linter.unusedVariables false
open Go Go.RowKit

set_option maxRecDepth 100000 in
set_option maxHeartbeats 6000000 in
theorem wiresPress_any (L N : Int) (aP : Option Addr) (cP : Nat) (P : List F3) (F : Int) (l n : Int) (w : World) (hS : WiIn w aP cP P) : Calls Try.prog 8 #[.agg #[.int .i64 L, .int .i64 N, .slice aP P.length cP, .int .i64 F], .agg #[.int .i64 l, .int .i64 n]] w fun e w' => e = .returned (.bool true) ∧ Below w.heap.size w w' := by
  obtain ⟨q0, hq0⟩ : ∃ q0, q0 = P.length := ⟨_, rfl⟩
  have HM := hid hq0
  have hpz := hS.pz
  clear hS
  rw [← hq0]
  obtain ⟨W, hW, hb, hs, x0, x1⟩ := boxes2 w #[.int .i64 L, .int .i64 N, .slice aP q0 cP, .int .i64 F] 24 #[.int .i64 l, .int .i64 n] 27
  have hP := hpz.below hb (Nat.le_refl _)
  clear hpz
  have hwk := works_any
  have hrd := fun V (h : Pz V aP P) => ready_any L N aP cP P F V h
  have hib := fun V => IsButton_any L N aP cP P F l n V
  have hmn := fun V (h : Pz V aP P) => Many_any L N aP cP P F V h
  have hlf := fun V (h : Pz V aP P) => Left_any L N aP cP P F l n V h
  have hsh := fun V (h : Pz V aP P) => Shows_any L N aP cP P F l n V h
  have hkn := fun x V => isKnown_any x V
  have hlaw := fun h1 h2 => press_law (L := L) (N := N) (F := F) (P := P) (l := l) (n := n) h1 h2
  have hmp := fun g h1 h2 h3 h4 => more_press (L := L) (N := N) (F := F) (P := P) (l := l) (n := n) (g := g) h1 h2 h3 h4
  have hrr := fun h => rdB_ok (L := L) (N := N) (F := F) (P := P) h
  have hpg := fun h1 h2 h3 => prB_rng (L := L) (N := N) (l := l) (n := n) h1 h2 h3
  rw [← hq0] at hrd hib hmn hlf hsh hmp
  have hwt := fun (p : F3) V (h : Fz V aP P) (h7 : P.length ≤ 7) (hp : p.i64) => With_any L N aP cP P F p V h h7 hp
  unfold WtP at hwt
  rw [← hq0] at hwt
  have hmw := fun (p : F3) a c V (h : Fz V a (P ++ [p])) => Many_any L N a c (P ++ [p]) F V h.pz
  have hmw2 : ∀ (p : F3) a c V, Fz V a (P ++ [p]) → Calls Try.prog 29 #[.agg #[.int .i64 L, .int .i64 N, .slice a (q0 + 1) c, .int .i64 F]] V fun e w' => e = .returned (.tuple #[.int .i64 ((akT L N (P ++ [p]) F true).length : Int), .int .i64 (akE L N (P ++ [p]) F true)]) ∧ Below V.heap.size V w' := fun p a c V h => by
    have := hmw p a c V h
    rw [List.length_append, List.length_singleton, ← hq0] at this
    exact this
  clear hmw hq0
  generalize rdB L N P F = r at *
  generalize prB L N l n = z at *
  have c0 := x0.cell 0 rfl; have c1 := x0.cell 1 rfl; have c2 := x0.cell 2 rfl; have c3 := x0.cell 3 rfl
  have d0 := x1.cell 0 rfl; have d1 := x1.cell 1 rfl
  cases r
  · skip
    clear hlaw hmn hlf hsh hkn hib hmp hrr hwt hmw2 HM hpg
    go_enter Try.func8, Try.ntmps8
    go_wp2_with fail
    refine (hrd _ hP).mono ?_
    rintro e Vc1 ⟨rfl, hb1⟩
    clear d0 d1
    clear c0 c1 c2 c3
    replace x0 := x0.below hb1
    replace x1 := x1.below hb1
    replace hP := hP.below hb1 (Nat.le_refl _)
    replace hb := hb.trans (hb1.mono hb.size)
    clear hb1 hW
    have c0 := x0.cell 0 rfl; have c1 := x0.cell 1 rfl; have c2 := x0.cell 2 rfl; have c3 := x0.cell 3 rfl
    have d0 := x1.cell 0 rfl; have d1 := x1.cell 1 rfl
    go_wp2_with fail
    refine (hwk _).mono ?_
    rintro e Vw ⟨rfl, hbw9⟩
    clear d0 d1
    clear c0 c1 c2 c3
    replace hb := hb.trans (hbw9.mono hb.size)
    go_wp2
    go_ret
    exact ⟨rfl, hb⟩
  · by_cases h7 : q0 ≤ 7
    rotate_left
    · skip
      have h8 : (8 : Int) ≤ (q0 : Int) := by omega
      clear hlaw hmn hlf hsh hkn hib hmp hrr hwt hmw2 HM hpg
      go_enter Try.func8, Try.ntmps8
      go_wp2_with fail
      refine (hrd _ hP).mono ?_
      rintro e Vc3 ⟨rfl, hb1⟩
      clear d0 d1
      clear c0 c1 c2 c3
      replace x0 := x0.below hb1
      replace x1 := x1.below hb1
      replace hP := hP.below hb1 (Nat.le_refl _)
      replace hb := hb.trans (hb1.mono hb.size)
      clear hb1 hW hrd
      have c0 := x0.cell 0 rfl; have c1 := x0.cell 1 rfl; have c2 := x0.cell 2 rfl; have c3 := x0.cell 3 rfl
      have d0 := x1.cell 0 rfl; have d1 := x1.cell 1 rfl
      go_wp2_with fail
      refine (hwk _).mono ?_
      rintro e Vw ⟨rfl, hbw9⟩
      clear d0 d1
      clear c0 c1 c2 c3
      replace hb := hb.trans (hbw9.mono hb.size)
      go_wp2
      go_ret
      exact ⟨rfl, hb⟩
    have h8 : ¬ (8 : Int) ≤ (q0 : Int) := by omega
    cases z
    · skip
      clear hlaw hmn hlf hsh hkn hmp hrr hwt hmw2 HM hpg
      go_enter Try.func8, Try.ntmps8
      go_wp2_with fail
      refine (hrd _ hP).mono ?_
      rintro e Vc5 ⟨rfl, hb1⟩
      clear d0 d1
      clear c0 c1 c2 c3
      replace x0 := x0.below hb1
      replace x1 := x1.below hb1
      replace hP := hP.below hb1 (Nat.le_refl _)
      replace hb := hb.trans (hb1.mono hb.size)
      clear hb1 hW hrd
      have c0 := x0.cell 0 rfl; have c1 := x0.cell 1 rfl; have c2 := x0.cell 2 rfl; have c3 := x0.cell 3 rfl
      have d0 := x1.cell 0 rfl; have d1 := x1.cell 1 rfl
      go_wp2_with fail
      refine (hib _).mono ?_
      rintro e Vc6 ⟨rfl, hb1⟩
      clear d0 d1
      clear c0 c1 c2 c3
      replace x0 := x0.below hb1
      replace x1 := x1.below hb1
      replace hP := hP.below hb1 (Nat.le_refl _)
      replace hb := hb.trans (hb1.mono hb.size)
      clear hb1 hib
      have c0 := x0.cell 0 rfl; have c1 := x0.cell 1 rfl; have c2 := x0.cell 2 rfl; have c3 := x0.cell 3 rfl
      have d0 := x1.cell 0 rfl; have d1 := x1.cell 1 rfl
      go_wp2_with fail
      refine (hwk _).mono ?_
      rintro e Vw ⟨rfl, hbw9⟩
      clear d0 d1
      clear c0 c1 c2 c3
      replace hb := hb.trans (hbw9.mono hb.size)
      go_wp2
      go_ret
      exact ⟨rfl, hb⟩
    · skip
      obtain ⟨hv, _, _, _⟩ := hrr rfl
      obtain ⟨hL, hN, _⟩ := vB_siz hv
      obtain ⟨hl, hn⟩ := hpg hL hN rfl
      obtain ⟨hle, hD⟩ := hlaw rfl rfl
      replace hmp := fun g h4 => hmp g rfl h7 rfl h4
      rw [hle] at hlf hsh
      clear hlaw hrr hpg hv hle
      generalize plL N (truL L N P F) l n = Q at *
      generalize lfR L N P F l n = u at *
      generalize shR L N P F l n = R at *
      generalize (akT L N P F true).length = m at *
      generalize akE L N P F true = E at *
      have HD := hid hD
      clear hD
      have hk0 := hkn 0
      replace hkn := hkn 3
      rw [show knB 3 = true from rfl] at hkn
      rw [show knB 0 = true from rfl] at hk0
      rcases HD.out with rfl | ⟨rfl, hm, hu, hR, hQ, hQ9⟩
      · skip
        clear HD hmp hwt hmw2 hk0
        go_enter Try.func8, Try.ntmps8
        go_wp2_with fail
        refine (hrd _ hP).mono ?_
        rintro e Vc8 ⟨rfl, hb1⟩
        clear d0 d1
        clear c0 c1 c2 c3
        replace x0 := x0.below hb1
        replace x1 := x1.below hb1
        replace hP := hP.below hb1 (Nat.le_refl _)
        replace hb := hb.trans (hb1.mono hb.size)
        clear hb1 hW hrd
        have c0 := x0.cell 0 rfl; have c1 := x0.cell 1 rfl; have c2 := x0.cell 2 rfl; have c3 := x0.cell 3 rfl
        have d0 := x1.cell 0 rfl; have d1 := x1.cell 1 rfl
        go_wp2_with fail
        refine (hib _).mono ?_
        rintro e Vc9 ⟨rfl, hb1⟩
        clear d0 d1
        clear c0 c1 c2 c3
        replace x0 := x0.below hb1
        replace x1 := x1.below hb1
        replace hP := hP.below hb1 (Nat.le_refl _)
        replace hb := hb.trans (hb1.mono hb.size)
        clear hb1 hib
        have c0 := x0.cell 0 rfl; have c1 := x0.cell 1 rfl; have c2 := x0.cell 2 rfl; have c3 := x0.cell 3 rfl
        have d0 := x1.cell 0 rfl; have d1 := x1.cell 1 rfl
        go_wp2_with fail
        refine (hmn _ hP).mono ?_
        rintro e Vc10 ⟨rfl, hb1⟩
        clear d0 d1
        clear c0 c1 c2 c3
        replace x0 := x0.below hb1
        replace x1 := x1.below hb1
        replace hP := hP.below hb1 (Nat.le_refl _)
        replace hb := hb.trans (hb1.mono hb.size)
        clear hb1 hmn
        have c0 := x0.cell 0 rfl; have c1 := x0.cell 1 rfl; have c2 := x0.cell 2 rfl; have c3 := x0.cell 3 rfl
        have d0 := x1.cell 0 rfl; have d1 := x1.cell 1 rfl
        go_wp2_with fail
        refine (hlf _ hP).mono ?_
        rintro e Vc11 ⟨rfl, hb1⟩
        clear d0 d1
        clear c0 c1 c2 c3
        replace x0 := x0.below hb1
        replace x1 := x1.below hb1
        replace hP := hP.below hb1 (Nat.le_refl _)
        replace hb := hb.trans (hb1.mono hb.size)
        clear hb1 hlf
        have c0 := x0.cell 0 rfl; have c1 := x0.cell 1 rfl; have c2 := x0.cell 2 rfl; have c3 := x0.cell 3 rfl
        have d0 := x1.cell 0 rfl; have d1 := x1.cell 1 rfl
        go_wp2_with fail
        refine (hsh _ hP).mono ?_
        rintro e Vc12 ⟨hb1, aR, cR, rfl, hR9⟩
        clear d0 d1
        clear c0 c1 c2 c3
        replace x0 := x0.below hb1
        replace x1 := x1.below hb1
        replace hP := hP.below hb1 (Nat.le_refl _)
        replace hb := hb.trans (hb1.mono hb.size)
        clear hb1 hsh
        have c0 := x0.cell 0 rfl; have c1 := x0.cell 1 rfl; have c2 := x0.cell 2 rfl; have c3 := x0.cell 3 rfl
        have d0 := x1.cell 0 rfl; have d1 := x1.cell 1 rfl
        go_wp2_with fail
        refine (hkn _).mono ?_
        rintro e Vc13 ⟨rfl, rfl⟩
        go_wp2_with fail
        refine (hwk _).mono ?_
        rintro e Vw ⟨rfl, hbw9⟩
        clear d0 d1
        clear c0 c1 c2 c3
        replace hb := hb.trans (hbw9.mono hb.size)
        go_wp2
        go_ret
        exact ⟨rfl, hb⟩
      · skip
        clear HD
        have hk3 := hkn
        clear hkn
        have hX64 : ∀ g0, -1 ≤ g0 ∧ g0 < L * N → (⟨l, n, g0⟩ : F3).i64 := fun g0 hg => by
          have h3 : L * N ≤ 5 * 5 := Int.mul_le_mul hL.2 hN.2 (by omega) (by omega)
          exact ⟨⟨by show -9223372036854775808 ≤ l; omega, by show l ≤ 9223372036854775807; omega⟩, ⟨by show -9223372036854775808 ≤ n; omega, by show n ≤ 9223372036854775807; omega⟩, by show -9223372036854775808 ≤ g0; omega, by show g0 ≤ 9223372036854775807; omega⟩
        have hwq : ∀ g0, -1 ≤ g0 ∧ g0 < L * N → ∀ V, Fz V aP P → Calls Try.prog 49 #[.agg #[.int .i64 L, .int .i64 N, .slice aP q0 cP, .int .i64 F], .agg #[.int .i64 l, .int .i64 n, .int .i64 g0]] V fun e w' => Below V.heap.size V w' ∧ ∃ (a : Option Addr) (c : Nat), e = .returned (.agg #[.int .i64 L, .int .i64 N, .slice a (q0 + 1) c, .int .i64 F]) ∧ Fz w' a (P ++ [⟨l, n, g0⟩]) := fun g0 hg V hV => hwt ⟨l, n, g0⟩ V hV (by have := HM.out; omega) (hX64 g0 hg)
        have hmq : ∀ g0, -1 ≤ g0 ∧ g0 < L * N → ∀ a c V, Fz V a (P ++ [⟨l, n, g0⟩]) → Calls Try.prog 29 #[.agg #[.int .i64 L, .int .i64 N, .slice a (q0 + 1) c, .int .i64 F]] V fun e w' => e = .returned (.tuple #[.int .i64 ((Q.count g0 : Nat) : Int), .int .i64 (if Q.count g0 = 0 then 3 else 0)]) ∧ Below V.heap.size V w' := fun g0 hg a c V hV => by
          have := hmw2 ⟨l, n, g0⟩ a c V hV
          rw [(hmp g0 hg).1, (hmp g0 hg).2] at this
          exact this
        have hRm : ∀ g0, -1 ≤ g0 ∧ g0 < L * N → (g0 ∈ R ↔ Q.count g0 ≠ 0) := fun g0 hg => by
          have h3 : L * N ≤ 5 * 5 := Int.mul_le_mul hL.2 hN.2 (by omega) (by omega)
          rw [hR, shV_mem, ← Nat.pos_iff_ne_zero, List.count_pos_iff]
          exact ⟨fun h => h.1, fun h => ⟨h, by omega, by omega⟩⟩
        obtain ⟨M, hM⟩ : ∃ M, M = L * N := ⟨_, rfl⟩
        have hM1 : 0 ≤ M ∧ M ≤ 25 := by
          have h3 : L * N ≤ 5 * 5 := Int.mul_le_mul hL.2 hN.2 (by omega) (by omega)
          have h4 := Int.mul_nonneg (show 0 ≤ L by omega) (show 0 ≤ N by omega)
          omega
        have hwM : IntKind.i64.wrap (L * N) = M := by rw [IntWalk.i64_in _ (by omega)]; exact hM.symm
        rw [← hM] at hwq hmq hRm hQ
        obtain ⟨mm, hmm⟩ : ∃ mm : Nat, (mm : Int) = M + 1 := ⟨(M + 1).toNat, by omega⟩
        have hQ2 : ∀ x ∈ Q, -1 ≤ x ∧ x + 1 < (mm : Int) + 1 := fun x hx => by have := hQ x hx; omega
        have hs1 := smC_all (m := mm) Q (fun x hx => by have := hQ x hx; omega)
        have hs2 := mxC_all (m := mm) (Q := Q) (fun x hx => by have := hQ x hx; omega)
        have hsl := smC_le Q (fun x hx => (hQ x hx).1)
        rw [← hs1] at hm
        rw [← hs2] at hu
        have hcl := fun g0 => List.count_le_length (a := g0) (l := Q)
        have HS1 := hid hs1
        have HQ9 := hid hQ9
        have HSL := hid hsl
        have HCL := hid hcl
        have HMm := hid hm
        have HU := hid hu
        have HRM := hid hRm
        have HWQ := hid hwq
        have HMQ := hid hmq
        have HHM := hid hM
        clear hs1 hs2 hsl hcl hm hu hRm hwq hmq hQ hQ2 hR hX64 hwt hmw2 hmp hM hQ9 hL hN hl hn
        obtain ⟨k, hk⟩ : ∃ k, k = R.length := ⟨_, rfl⟩
        rw [← hk] at hsh
        have HK := hid hk
        clear hk
        go_enter Try.func8, Try.ntmps8
        go_wp2_with fail
        refine (hrd _ hP).mono ?_
        rintro e Vc15 ⟨rfl, hb1⟩
        clear d0 d1
        clear c0 c1 c2 c3
        replace x0 := x0.below hb1
        replace x1 := x1.below hb1
        replace hP := hP.below hb1 (Nat.le_refl _)
        replace hb := hb.trans (hb1.mono hb.size)
        clear hb1 hW hrd
        have c0 := x0.cell 0 rfl; have c1 := x0.cell 1 rfl; have c2 := x0.cell 2 rfl; have c3 := x0.cell 3 rfl
        have d0 := x1.cell 0 rfl; have d1 := x1.cell 1 rfl
        go_wp2_with fail
        refine (hib _).mono ?_
        rintro e Vc16 ⟨rfl, hb1⟩
        clear d0 d1
        clear c0 c1 c2 c3
        replace x0 := x0.below hb1
        replace x1 := x1.below hb1
        replace hP := hP.below hb1 (Nat.le_refl _)
        replace hb := hb.trans (hb1.mono hb.size)
        clear hb1 hib
        have c0 := x0.cell 0 rfl; have c1 := x0.cell 1 rfl; have c2 := x0.cell 2 rfl; have c3 := x0.cell 3 rfl
        have d0 := x1.cell 0 rfl; have d1 := x1.cell 1 rfl
        go_wp2_with fail
        refine (hmn _ hP).mono ?_
        rintro e Vc17 ⟨rfl, hb1⟩
        clear d0 d1
        clear c0 c1 c2 c3
        replace x0 := x0.below hb1
        replace x1 := x1.below hb1
        replace hP := hP.below hb1 (Nat.le_refl _)
        replace hb := hb.trans (hb1.mono hb.size)
        clear hb1 hmn
        have c0 := x0.cell 0 rfl; have c1 := x0.cell 1 rfl; have c2 := x0.cell 2 rfl; have c3 := x0.cell 3 rfl
        have d0 := x1.cell 0 rfl; have d1 := x1.cell 1 rfl
        go_wp2_with fail
        refine (hlf _ hP).mono ?_
        rintro e Vc18 ⟨rfl, hb1⟩
        clear d0 d1
        clear c0 c1 c2 c3
        replace x0 := x0.below hb1
        replace x1 := x1.below hb1
        replace hP := hP.below hb1 (Nat.le_refl _)
        replace hb := hb.trans (hb1.mono hb.size)
        clear hb1 hlf
        have c0 := x0.cell 0 rfl; have c1 := x0.cell 1 rfl; have c2 := x0.cell 2 rfl; have c3 := x0.cell 3 rfl
        have d0 := x1.cell 0 rfl; have d1 := x1.cell 1 rfl
        go_wp2_with fail
        refine (hsh _ hP).mono ?_
        rintro e Vc19 ⟨hb1, aR, cR, rfl, hR9⟩
        clear d0 d1
        clear c0 c1 c2 c3
        replace x0 := x0.below hb1
        replace x1 := x1.below hb1
        replace hP := hP.below hb1 (Nat.le_refl _)
        replace hb := hb.trans (hb1.mono hb.size)
        clear hb1 hsh
        have c0 := x0.cell 0 rfl; have c1 := x0.cell 1 rfl; have c2 := x0.cell 2 rfl; have c3 := x0.cell 3 rfl
        have d0 := x1.cell 0 rfl; have d1 := x1.cell 1 rfl
        go_wp2_with fail
        refine (hk0 _).mono ?_
        rintro e Vc20 ⟨rfl, rfl⟩
        go_upto_region 12 with fail
        clear c0 c1 c2 c3 d0 d1
        have hbw := hb
        clear hb
        have hF0 := hP.2 (by have := HM.out; omega)
        go_loopg [11, 12, 13, 14, 15] mm (fun g v11 v12 v13 v14 v15 wr => ∃ (j : Nat) (g0 : Int), j + g = mm ∧ v13 = .int .i64 g0 ∧ Hid (g0 = (j : Int) - 1) ∧ v11 = .int .i64 ((smC Q j : Nat) : Int) ∧ v12 = .int .i64 ((mxC Q j : Nat) : Int) ∧ Below Vc19.heap.size Vc19 wr)
        case atStart => exact ⟨0, -1, by omega, rfl, hid (by omega), rfl, rfl, Below.refl _ _⟩
        case round =>
          obtain ⟨j, g0, hjg, rfl, hg0, rfl, rfl, hb⟩ := hrel
          have x0r := x0.below hb
          have x1r := x1.below hb
          cases gk with
          | zero =>
            obtain rfl : j = mm := by omega
            have hge := hg0.out
            have hno : ¬ g0 < M := by omega
            have es : smC Q j = m := HMm.out.symm
            have et : mxC Q j = u := HU.out.symm
            rw [es, et]
            replace hb := hbw.trans (hb.mono hbw.size)
            clear es et hge HRM HWQ HMQ HS1 HSL HCL HMm HU
            have c0 := x0r.cell 0 rfl; have c1 := x0r.cell 1 rfl; have c2 := x0r.cell 2 rfl; have c3 := x0r.cell 3 rfl
            go_wp2_with fail
            refine (hwk _).mono ?_
            rintro e Vw ⟨rfl, hbw9⟩
            clear c0 c1 c2 c3
            replace hb := hb.trans (hbw9.mono hb.size)
            go_wp2
            go_ret
            exact ⟨rfl, hb⟩
          | succ g =>
            have hgo := hg0.out
            have hgr : -1 ≤ g0 ∧ g0 < M := by omega
            have hgI : g0 < M := hgr.2
            have hwt := HWQ.out g0 hgr
            have hmy := HMQ.out g0 hgr
            have hrm := HRM.out g0 hgr
            have hcm := HCL.out g0
            have hsm := HSL.out j
            have hs2 : smC Q (j + 1) = smC Q j + Q.count g0 := by rw [smC, hgo]
            have ht2 : mxC Q (j + 1) = max (mxC Q j) (Q.count g0) := by rw [mxC, hgo]
            have hmQ : m = Q.length := HMm.out.trans HS1.out
            have hq9 := HQ9.out
            have hin := fun V (h : Ints V aR R) => In_any aR cR R g0 V h
            rw [← HK.out] at hin
            obtain ⟨cn, hcn⟩ : ∃ cn, cn = Q.count g0 := ⟨_, rfl⟩
            obtain ⟨s, hs⟩ : ∃ s, s = smC Q j := ⟨_, rfl⟩
            obtain ⟨t, ht⟩ : ∃ t, t = mxC Q j := ⟨_, rfl⟩
            obtain ⟨g1, hg1⟩ : ∃ g1, g1 = g0 + 1 := ⟨_, rfl⟩
            obtain ⟨s2, hs3⟩ : ∃ s2, s2 = s + cn := ⟨_, rfl⟩
            rw [← hcn] at hmy hrm hcm hs2 ht2
            rw [← hs] at hsm hs2 ⊢
            rw [← ht] at ht2 ⊢
            have hwg : IntKind.i64.wrap (g0 + 1) = g1 := by rw [IntWalk.i64_in _ (by omega)]; exact hg1.symm
            have hws : IntKind.i64.wrap ((s : Int) + (cn : Int)) = (s2 : Int) := by rw [IntWalk.i64_in _ (by omega)]; omega
            have hcI : (cn : Int) ≤ (m : Int) := by omega
            have hc0 : (0 : Int) ≤ (cn : Int) := by omega
            have HS2 := hid (show smC Q (j + 1) = s2 by rw [hs2, hs3])
            have HT2 := hid ht2
            have HG1 := hid (show g1 = ((j + 1 : Nat) : Int) - 1 by omega)
            have hFr := hF0.below hb (Nat.le_refl _)
            have hRr := hR9.below hb (Nat.le_refl _)
            have hkk := HM
            clear hcn hs ht hg1 hs3 hs2 ht2 hmQ hcm hsm hgo hgr hq9 hg0 HRM HWQ HMQ HS1 HSL HCL HMm HU hbw
            by_cases hc : cn = 0
            · skip
              have hdec : decide (g0 ∈ R) = false := decide_eq_false (fun h => hrm.1 h hc)
              simp only [hdec] at hin
              rw [if_pos hc] at hmy
              clear hdec hrm hc
              have c0 := x0r.cell 0 rfl; have c1 := x0r.cell 1 rfl; have c2 := x0r.cell 2 rfl; have c3 := x0r.cell 3 rfl
              have d0 := x1r.cell 0 rfl; have d1 := x1r.cell 1 rfl
              go_wp2_with fail
              refine (hwt _ hFr).mono ?_
              rintro e Vc22 ⟨hb1, a, c, rfl, hfz⟩
              clear d0 d1
              clear c0 c1 c2 c3
              replace x0r := x0r.below hb1
              replace x1r := x1r.below hb1
              replace hFr := hFr.below hb1 (Nat.le_refl _)
              replace hRr := hRr.below hb1 (Nat.le_refl _)
              replace hb := hb.trans (hb1.mono hb.size)
              clear hb1 hwt
              have c0 := x0r.cell 0 rfl; have c1 := x0r.cell 1 rfl; have c2 := x0r.cell 2 rfl; have c3 := x0r.cell 3 rfl
              have d0 := x1r.cell 0 rfl; have d1 := x1r.cell 1 rfl
              go_wp2_with fail
              refine (hmy _ _ _ hfz).mono ?_
              rintro e Vc23 ⟨rfl, hb1⟩
              clear d0 d1
              clear c0 c1 c2 c3
              replace x0r := x0r.below hb1
              replace x1r := x1r.below hb1
              replace hFr := hFr.below hb1 (Nat.le_refl _)
              replace hRr := hRr.below hb1 (Nat.le_refl _)
              replace hb := hb.trans (hb1.mono hb.size)
              clear hb1 hmy hfz
              have c0 := x0r.cell 0 rfl; have c1 := x0r.cell 1 rfl; have c2 := x0r.cell 2 rfl; have c3 := x0r.cell 3 rfl
              have d0 := x1r.cell 0 rfl; have d1 := x1r.cell 1 rfl
              go_wp2_with fail
              refine (hk3 _).mono ?_
              rintro e Vc24 ⟨rfl, rfl⟩
              go_wp2_with fail
              refine (hin _ hRr).mono ?_
              rintro e Vc25 ⟨rfl, hb1⟩
              clear d0 d1
              clear c0 c1 c2 c3
              replace x0r := x0r.below hb1
              replace x1r := x1r.below hb1
              replace hFr := hFr.below hb1 (Nat.le_refl _)
              replace hRr := hRr.below hb1 (Nat.le_refl _)
              replace hb := hb.trans (hb1.mono hb.size)
              clear hb1 hin
              have c0 := x0r.cell 0 rfl; have c1 := x0r.cell 1 rfl; have c2 := x0r.cell 2 rfl; have c3 := x0r.cell 3 rfl
              have d0 := x1r.cell 0 rfl; have d1 := x1r.cell 1 rfl
              go_wp2
              go_roundg g
              case measure => omega
              case rel => exact ⟨j + 1, g1, by omega, rfl, HG1, by rw [HS2.out], by rw [HT2.out]; congr 1; omega, hb⟩
            · skip
              have hdec : decide (g0 ∈ R) = true := decide_eq_true (hrm.2 hc)
              simp only [hdec] at hin
              rw [if_neg hc] at hmy
              clear hdec hrm hc
              have c0 := x0r.cell 0 rfl; have c1 := x0r.cell 1 rfl; have c2 := x0r.cell 2 rfl; have c3 := x0r.cell 3 rfl
              have d0 := x1r.cell 0 rfl; have d1 := x1r.cell 1 rfl
              go_wp2_with fail
              refine (hwt _ hFr).mono ?_
              rintro e Vc26 ⟨hb1, a, c, rfl, hfz⟩
              clear d0 d1
              clear c0 c1 c2 c3
              replace x0r := x0r.below hb1
              replace x1r := x1r.below hb1
              replace hFr := hFr.below hb1 (Nat.le_refl _)
              replace hRr := hRr.below hb1 (Nat.le_refl _)
              replace hb := hb.trans (hb1.mono hb.size)
              clear hb1 hwt
              have c0 := x0r.cell 0 rfl; have c1 := x0r.cell 1 rfl; have c2 := x0r.cell 2 rfl; have c3 := x0r.cell 3 rfl
              have d0 := x1r.cell 0 rfl; have d1 := x1r.cell 1 rfl
              go_wp2_with fail
              refine (hmy _ _ _ hfz).mono ?_
              rintro e Vc27 ⟨rfl, hb1⟩
              clear d0 d1
              clear c0 c1 c2 c3
              replace x0r := x0r.below hb1
              replace x1r := x1r.below hb1
              replace hFr := hFr.below hb1 (Nat.le_refl _)
              replace hRr := hRr.below hb1 (Nat.le_refl _)
              replace hb := hb.trans (hb1.mono hb.size)
              clear hb1 hmy hfz
              have c0 := x0r.cell 0 rfl; have c1 := x0r.cell 1 rfl; have c2 := x0r.cell 2 rfl; have c3 := x0r.cell 3 rfl
              have d0 := x1r.cell 0 rfl; have d1 := x1r.cell 1 rfl
              go_wp2_with fail
              refine (hk0 _).mono ?_
              rintro e Vc28 ⟨rfl, rfl⟩
              go_wp2_with fail
              refine (hin _ hRr).mono ?_
              rintro e Vc29 ⟨rfl, hb1⟩
              clear d0 d1
              clear c0 c1 c2 c3
              replace x0r := x0r.below hb1
              replace x1r := x1r.below hb1
              replace hFr := hFr.below hb1 (Nat.le_refl _)
              replace hRr := hRr.below hb1 (Nat.le_refl _)
              replace hb := hb.trans (hb1.mono hb.size)
              clear hb1 hin
              have c0 := x0r.cell 0 rfl; have c1 := x0r.cell 1 rfl; have c2 := x0r.cell 2 rfl; have c3 := x0r.cell 3 rfl
              have d0 := x1r.cell 0 rfl; have d1 := x1r.cell 1 rfl
              go_wp2
              go_roundg g
              case measure => omega
              case rel => exact ⟨j + 1, g1, by omega, rfl, HG1, by rw [HS2.out], by rw [HT2.out]; congr 1; omega, hb⟩
end Go.Proofs.Ytmpihcencnkpbaa
