import Derived.Test.YthgjjlkdekfdbaaRA
import Derived.Test.YthgjjlkdekfdbaaM6
/-! SharesGoal. -/
namespace Go.Proofs.Ythgjjlkdekfdbaa
set_option linter.unusedSimpArgs false
set_option linter.unusedVariables false
open Go Go.RowKit


set_option maxRecDepth 100000 in
theorem isKnown_0 (w : World) : Calls Try.prog 42 #[.int .i64 0] w fun e w' => e = .returned (.bool true) ∧ w = w' := by
  go_enter Try.func42, Try.ntmps42
  go_wp2
  go_ret
  exact ⟨rfl, rfl⟩

set_option maxRecDepth 100000 in
theorem isKnown_3 (w : World) : Calls Try.prog 42 #[.int .i64 3] w fun e w' => e = .returned (.bool true) ∧ w = w' := by
  go_enter Try.func42, Try.ntmps42
  go_wp2
  go_ret
  exact ⟨rfl, rfl⟩

set_option maxRecDepth 100000 in
set_option maxHeartbeats 6000000 in
theorem Goal_bad (ac : Option Addr) (cc : Nat) (cs : List Cl) (L : Int) (go mo ta : Int) (w : World) (hS : ShIn w ac cc cs) (hbad : (shB cs L && cenB go && cenB mo && cenB (go + mo) && cenB ta) = false) : Calls Try.prog 10 #[.agg #[.slice ac cs.length cc, .int .i64 L], .int .i64 go, .agg #[.int .i64 mo, .int .i64 ta]] w fun e w' => e = .returned (.bool true) ∧ Below w.heap.size w w' := by
  obtain ⟨W, hW, hb, _, x0, x1⟩ := boxes2 w #[.slice ac cs.length cc, .int .i64 L] 24 #[.int .i64 mo, .int .i64 ta] 60
  have hS1 := hS.below hb (Nat.le_refl _)
  have h0 := isShare_any ac cc cs L W hS1.l hS1.cl
  have h1 := fun V => IsCents_any go V
  have h2 := fun V => IsCents_any mo V
  have h3 := fun V => IsCents_any (go + mo) V
  have h4 := fun V => IsCents_any ta V
  have hwk := fun V => works_any V
  have hew : cenB go = true → cenB mo = true → IntKind.i64.wrap (go + mo) = go + mo := fun a b => by
    rw [cenB_iff] at a b
    exact IntWalk.i64_in _ (by omega)
  clear hS hS1
  generalize shB cs L = r at *
  generalize cenB go = a at *
  generalize cenB mo = b at *
  generalize cenB (go + mo) = c at *
  generalize cenB ta = d at *
  have c0 := x0.cell 0 rfl; have c1 := x0.cell 1 rfl
  have d0 := x1.cell 0 rfl; have d1 := x1.cell 1 rfl
  go_enter Try.func10, Try.ntmps10
  cases r
  · clear hbad hew
    go_wp2_with fail
    refine (h0).mono ?_
    rintro e Vc1 ⟨rfl, hb1⟩
    clear c0 c1
    clear d0 d1
    replace x0 := x0.below hb1
    replace x1 := x1.below hb1
    replace hb := hb.trans (hb1.mono hb.size)
    clear hb1
    have c0 := x0.cell 0 rfl; have c1 := x0.cell 1 rfl
    have d0 := x1.cell 0 rfl; have d1 := x1.cell 1 rfl
    go_wp2_with fail
    refine (hwk _).mono ?_
    rintro e Vw ⟨rfl, hbw9⟩
    clear c0 c1
    clear d0 d1
    replace hb := hb.trans (hbw9.mono hb.size)
    go_wp2
    go_ret
    exact ⟨rfl, hb⟩
  · cases a
    · clear hbad hew
      go_wp2_with fail
      refine (h0).mono ?_
      rintro e Vc3 ⟨rfl, hb1⟩
      clear c0 c1
      clear d0 d1
      replace x0 := x0.below hb1
      replace x1 := x1.below hb1
      replace hb := hb.trans (hb1.mono hb.size)
      clear hb1
      have c0 := x0.cell 0 rfl; have c1 := x0.cell 1 rfl
      have d0 := x1.cell 0 rfl; have d1 := x1.cell 1 rfl
      go_wp2_with fail
      refine (h1 _).mono ?_
      rintro e Vc4 ⟨rfl, rfl⟩
      go_wp2_with fail
      refine (hwk _).mono ?_
      rintro e Vw ⟨rfl, hbw9⟩
      clear c0 c1
      clear d0 d1
      replace hb := hb.trans (hbw9.mono hb.size)
      go_wp2
      go_ret
      exact ⟨rfl, hb⟩
    · cases b
      · clear hbad hew
        go_wp2_with fail
        refine (h0).mono ?_
        rintro e Vc6 ⟨rfl, hb1⟩
        clear c0 c1
        clear d0 d1
        replace x0 := x0.below hb1
        replace x1 := x1.below hb1
        replace hb := hb.trans (hb1.mono hb.size)
        clear hb1
        have c0 := x0.cell 0 rfl; have c1 := x0.cell 1 rfl
        have d0 := x1.cell 0 rfl; have d1 := x1.cell 1 rfl
        go_wp2_with fail
        refine (h1 _).mono ?_
        rintro e Vc7 ⟨rfl, rfl⟩
        go_wp2_with fail
        refine (h2 _).mono ?_
        rintro e Vc8 ⟨rfl, rfl⟩
        go_wp2_with fail
        refine (hwk _).mono ?_
        rintro e Vw ⟨rfl, hbw9⟩
        clear c0 c1
        clear d0 d1
        replace hb := hb.trans (hbw9.mono hb.size)
        go_wp2
        go_ret
        exact ⟨rfl, hb⟩
      · have ew := hew rfl rfl
        clear hew
        cases c
        · clear hbad
          go_wp2_with fail
          refine (h0).mono ?_
          rintro e Vc10 ⟨rfl, hb1⟩
          clear c0 c1
          clear d0 d1
          replace x0 := x0.below hb1
          replace x1 := x1.below hb1
          replace hb := hb.trans (hb1.mono hb.size)
          clear hb1
          have c0 := x0.cell 0 rfl; have c1 := x0.cell 1 rfl
          have d0 := x1.cell 0 rfl; have d1 := x1.cell 1 rfl
          go_wp2_with fail
          refine (h1 _).mono ?_
          rintro e Vc11 ⟨rfl, rfl⟩
          go_wp2_with fail
          refine (h2 _).mono ?_
          rintro e Vc12 ⟨rfl, rfl⟩
          go_wp2_with fail
          refine (h3 _).mono ?_
          rintro e Vc13 ⟨rfl, rfl⟩
          go_wp2_with fail
          refine (hwk _).mono ?_
          rintro e Vw ⟨rfl, hbw9⟩
          clear c0 c1
          clear d0 d1
          replace hb := hb.trans (hbw9.mono hb.size)
          go_wp2
          go_ret
          exact ⟨rfl, hb⟩
        · obtain rfl : d = false := by simpa using hbad
          clear hbad
          go_wp2_with fail
          refine (h0).mono ?_
          rintro e Vc15 ⟨rfl, hb1⟩
          clear c0 c1
          clear d0 d1
          replace x0 := x0.below hb1
          replace x1 := x1.below hb1
          replace hb := hb.trans (hb1.mono hb.size)
          clear hb1
          have c0 := x0.cell 0 rfl; have c1 := x0.cell 1 rfl
          have d0 := x1.cell 0 rfl; have d1 := x1.cell 1 rfl
          go_wp2_with fail
          refine (h1 _).mono ?_
          rintro e Vc16 ⟨rfl, rfl⟩
          go_wp2_with fail
          refine (h2 _).mono ?_
          rintro e Vc17 ⟨rfl, rfl⟩
          go_wp2_with fail
          refine (h3 _).mono ?_
          rintro e Vc18 ⟨rfl, rfl⟩
          go_wp2_with fail
          refine (h4 _).mono ?_
          rintro e Vc19 ⟨rfl, rfl⟩
          go_wp2_with fail
          refine (hwk _).mono ?_
          rintro e Vw ⟨rfl, hbw9⟩
          clear c0 c1
          clear d0 d1
          replace hb := hb.trans (hbw9.mono hb.size)
          go_wp2
          go_ret
          exact ⟨rfl, hb⟩
set_option maxRecDepth 100000 in
set_option maxHeartbeats 6000000 in
theorem Goal_ok (ac : Option Addr) (cc : Nat) (cs : List Cl) (L : Int) (go mo ta : Int) (w : World) (hX : Clz w ac cs) (hs : shB cs L = true) (h1' : cenB go = true) (h2' : cenB mo = true) (h3' : cenB (go + mo) = true) (h4' : cenB ta = true) : Calls Try.prog 10 #[.agg #[.slice ac cs.length cc, .int .i64 L], .int .i64 go, .agg #[.int .i64 mo, .int .i64 ta]] w fun e w' => e = .returned (.bool true) ∧ Below w.heap.size w w' := by
  obtain ⟨W, hW, hb, _, x0, x1⟩ := boxes2 w #[.slice ac cs.length cc, .int .i64 L] 24 #[.int .i64 mo, .int .i64 ta] 60
  have hle := hX.len
  have h0 := isShare_any ac cc cs L W (by omega) (fun _ => hX.below hb (Nat.le_refl _))
  rw [hs] at h0
  have h1 := fun V => IsCents_any go V
  have h2 := fun V => IsCents_any mo V
  have h3 := fun V => IsCents_any (go + mo) V
  have h4 := fun V => IsCents_any ta V
  rw [h1'] at h1; rw [h2'] at h2; rw [h3'] at h3; rw [h4'] at h4
  have hwk := fun V => works_any V
  have hea := fun (V : World) hh => Enough_ok ac cc cs L go V hh hs h1' _ rfl
  have heb := fun (V : World) hh => Enough_ok ac cc cs L (go + mo) V hh hs h3' _ rfl
  obtain ⟨y, hy⟩ : ∃ y, y = settledW L cs ta := ⟨_, rfl⟩
  have hwa := fun (V : World) hh => Week_ok ac cc cs L ta V hh hs h4' y hy
  have hcen : ∀ k : Nat, k < 10000 → cenB (k : Int) = true := fun k hk => by rw [cenB_iff]; omega
  have hwn := fun (k : Nat) (hk : k < 10000) (V : World) hh => Week_ok ac cc cs L (k : Int) V hh hs (hcen k hk) _ rfl
  have hca := en_cases L cs go
  have hcb := en_cases L cs (go + mo)
  rw [cenB_iff] at h1' h2' h3' h4'
  have ew : IntKind.i64.wrap (go + mo) = go + mo := IntWalk.i64_in _ (by omega)
  have hk0 := fun V => isKnown_0 V
  have hk3 := fun V => isKnown_3 V
  have hic := fun (k : Nat) (hk : k < 10000) (V : World) => (hcen k hk) ▸ IsCents_any (k : Int) V
  obtain ⟨tn, rfl⟩ := Int.eq_ofNat_of_zero_le h4'.1
  have ht4 : tn < 10000 := by omega
  have hm0 := h2'.1
  have hX1 := hX.below hb (Nat.le_refl _)
  obtain ⟨nn, hnn⟩ : ∃ nn, nn = cs.length := ⟨_, rfl⟩
  rw [← hnn] at h0 hea heb hwa hwn x0 hW ⊢
  clear hs h1' h2' h3' h4' hX hle hnn hcen
  have c0 := x0.cell 0 rfl; have c1 := x0.cell 1 rfl
  have d0 := x1.cell 0 rfl; have d1 := x1.cell 1 rfl
  rcases hca with ⟨k, hk, e1, g1, g2⟩ | ⟨e1, g1⟩
  · have hwk1 := hwn k hk
    have hic1 := hic k hk
    obtain ⟨z, hz⟩ : ∃ z, z = settledW L cs k := ⟨_, rfl⟩
    rw [← hz] at hwk1 g1
    have hkI : (k : Int) < 10000 := by omega
    have hor : (k : Int) ≤ (tn : Int) ∨ y.ow < go := by
      rcases Nat.lt_or_ge tn k with h | h
      · right; rw [hy]; exact g2 tn h
      · left; omega
    rw [e1] at hea
    rcases hcb with ⟨m, hm, e2, f1, f2⟩ | ⟨e2, f1⟩
    · have hkm : (k : Int) ≤ (m : Int) := by
        rcases Nat.lt_or_ge m k with h | h
        · have := g2 m h; omega
        · omega
      rw [e2] at heb
      clear e1 e2 f1 f2 g2 hwn hic hk3 hy hz hk hm ht4 hm0
      go_enter Try.func10, Try.ntmps10
      go_wp2_with fail
      refine (h0).mono ?_
      rintro e Vc21 ⟨rfl, hb1⟩
      clear c0 c1
      clear d0 d1
      replace x0 := x0.below hb1
      replace x1 := x1.below hb1
      replace hX1 := hX1.below hb1 (Nat.le_refl _)
      replace hb := hb.trans (hb1.mono hb.size)
      clear hb1 h0 hW
      have c0 := x0.cell 0 rfl; have c1 := x0.cell 1 rfl
      have d0 := x1.cell 0 rfl; have d1 := x1.cell 1 rfl
      go_wp2_with fail
      refine (h1 _).mono ?_
      rintro e Vc22 ⟨rfl, rfl⟩
      clear h1
      go_wp2_with fail
      refine (h2 _).mono ?_
      rintro e Vc23 ⟨rfl, rfl⟩
      clear h2
      go_wp2_with fail
      refine (h3 _).mono ?_
      rintro e Vc24 ⟨rfl, rfl⟩
      clear h3
      go_wp2_with fail
      refine (h4 _).mono ?_
      rintro e Vc25 ⟨rfl, rfl⟩
      clear h4
      go_wp2_with fail
      refine (hea _ hX1).mono ?_
      rintro e Vc26 ⟨rfl, hb1⟩
      clear c0 c1
      clear d0 d1
      replace x0 := x0.below hb1
      replace x1 := x1.below hb1
      replace hX1 := hX1.below hb1 (Nat.le_refl _)
      replace hb := hb.trans (hb1.mono hb.size)
      clear hb1 hea
      have c0 := x0.cell 0 rfl; have c1 := x0.cell 1 rfl
      have d0 := x1.cell 0 rfl; have d1 := x1.cell 1 rfl
      go_wp2_with fail
      refine (heb _ hX1).mono ?_
      rintro e Vc27 ⟨rfl, hb1⟩
      clear c0 c1
      clear d0 d1
      replace x0 := x0.below hb1
      replace x1 := x1.below hb1
      replace hX1 := hX1.below hb1 (Nat.le_refl _)
      replace hb := hb.trans (hb1.mono hb.size)
      clear hb1 heb
      have c0 := x0.cell 0 rfl; have c1 := x0.cell 1 rfl
      have d0 := x1.cell 0 rfl; have d1 := x1.cell 1 rfl
      go_wp2_with fail
      refine (hwa _ hX1).mono ?_
      rintro e Vc28 ⟨rfl, hb1⟩
      clear c0 c1
      clear d0 d1
      replace x0 := x0.below hb1
      replace x1 := x1.below hb1
      replace hX1 := hX1.below hb1 (Nat.le_refl _)
      replace hb := hb.trans (hb1.mono hb.size)
      clear hb1 hwa
      have c0 := x0.cell 0 rfl; have c1 := x0.cell 1 rfl
      have d0 := x1.cell 0 rfl; have d1 := x1.cell 1 rfl
      have hba := below_one (w := Vc28) (.cells #[.int .i64 y.op, .int .i64 y.ow, .int .i64 y.rp] 33)
      have HXa := hid (And.intro (x0.below hba) (And.intro (x1.below hba) (And.intro (hX1.below hba (Nat.le_refl _)) (And.intro (hb.trans (hba.mono hb.size)) (Bx.new Vc28 #[.int .i64 y.op, .int .i64 y.ow, .int .i64 y.rp] 33)))))
      clear hba hb x0 x1 hX1
      go_upto_region 6 with fail
      clear c0 c1
      clear d0 d1
      obtain ⟨x0, x1, hX1, hb, x2⟩ := HXa.out
      clear HXa
      generalize Vc28.heap.size = sa_x2 at *
      generalize World.alloc _ _ = Va29 at *
      have c0 := x0.cell 0 rfl; have c1 := x0.cell 1 rfl
      have d0 := x1.cell 0 rfl; have d1 := x1.cell 1 rfl
      have k0 := x2.cell 0 rfl; have k1 := x2.cell 1 rfl; have k2 := x2.cell 2 rfl
      go_wp2_with fail
      refine (hk0 _).mono ?_
      rintro e Vc30 ⟨rfl, rfl⟩
      go_wp2_with fail
      refine (hk0 _).mono ?_
      rintro e Vc31 ⟨rfl, rfl⟩
      go_wp2_with fail
      refine (hic1 _).mono ?_
      rintro e Vc32 ⟨rfl, rfl⟩
      clear hic1
      go_wp2_with fail
      refine (hwk1 _ hX1).mono ?_
      rintro e Vc33 ⟨rfl, hb1⟩
      clear k0 k1 k2
      clear c0 c1
      clear d0 d1
      replace x0 := x0.below hb1
      replace x1 := x1.below hb1
      replace x2 := x2.below hb1
      replace hX1 := hX1.below hb1 (Nat.le_refl _)
      replace hb := hb.trans (hb1.mono hb.size)
      clear hb1 hwk1
      have c0 := x0.cell 0 rfl; have c1 := x0.cell 1 rfl
      have d0 := x1.cell 0 rfl; have d1 := x1.cell 1 rfl
      have k0 := x2.cell 0 rfl; have k1 := x2.cell 1 rfl; have k2 := x2.cell 2 rfl
      have hba := below_one (w := Vc33) (.cells #[.int .i64 z.op, .int .i64 z.ow, .int .i64 z.rp] 33)
      have HXa := hid (And.intro (x0.below hba) (And.intro (x1.below hba) (And.intro (x2.below hba) (And.intro (hX1.below hba (Nat.le_refl _)) (And.intro (hb.trans (hba.mono hb.size)) (Bx.new Vc33 #[.int .i64 z.op, .int .i64 z.ow, .int .i64 z.rp] 33))))))
      clear hba hb x0 x1 x2 hX1
      go_upto_region 13 with fail
      clear k0 k1 k2
      clear c0 c1
      clear d0 d1
      obtain ⟨x0, x1, x2, hX1, hb, x3⟩ := HXa.out
      clear HXa
      generalize Vc33.heap.size = sa_x3 at *
      generalize World.alloc _ _ = Va34 at *
      have k0 := x2.cell 0 rfl; have k1 := x2.cell 1 rfl; have k2 := x2.cell 2 rfl
      have c0 := x0.cell 0 rfl; have c1 := x0.cell 1 rfl
      have d0 := x1.cell 0 rfl; have d1 := x1.cell 1 rfl
      have m0 := x3.cell 0 rfl; have m1 := x3.cell 1 rfl; have m2 := x3.cell 2 rfl
      rcases Int.lt_or_le (tn : Int) (k : Int) with hlt | hlt
      · have hyl : y.ow < go := by omega
        clear hor
        go_wp2_with fail
        refine (hwk _).mono ?_
        rintro e Vw ⟨rfl, hbw9⟩
        clear k0 k1 k2
        clear c0 c1
        clear d0 d1
        clear m0 m1 m2
        replace hb := hb.trans (hbw9.mono hb.size)
        go_wp2
        go_ret
        exact ⟨rfl, hb⟩
      · clear hor
        go_wp2_with fail
        refine (hwk _).mono ?_
        rintro e Vw ⟨rfl, hbw9⟩
        clear k0 k1 k2
        clear c0 c1
        clear d0 d1
        clear m0 m1 m2
        replace hb := hb.trans (hbw9.mono hb.size)
        go_wp2
        go_ret
        exact ⟨rfl, hb⟩
    · rw [e2] at heb
      clear e1 e2 f1 g2 hwn hic hy hz hk ht4 hm0
      go_enter Try.func10, Try.ntmps10
      go_wp2_with fail
      refine (h0).mono ?_
      rintro e Vc37 ⟨rfl, hb1⟩
      clear c0 c1
      clear d0 d1
      replace x0 := x0.below hb1
      replace x1 := x1.below hb1
      replace hX1 := hX1.below hb1 (Nat.le_refl _)
      replace hb := hb.trans (hb1.mono hb.size)
      clear hb1 h0 hW
      have c0 := x0.cell 0 rfl; have c1 := x0.cell 1 rfl
      have d0 := x1.cell 0 rfl; have d1 := x1.cell 1 rfl
      go_wp2_with fail
      refine (h1 _).mono ?_
      rintro e Vc38 ⟨rfl, rfl⟩
      clear h1
      go_wp2_with fail
      refine (h2 _).mono ?_
      rintro e Vc39 ⟨rfl, rfl⟩
      clear h2
      go_wp2_with fail
      refine (h3 _).mono ?_
      rintro e Vc40 ⟨rfl, rfl⟩
      clear h3
      go_wp2_with fail
      refine (h4 _).mono ?_
      rintro e Vc41 ⟨rfl, rfl⟩
      clear h4
      go_wp2_with fail
      refine (hea _ hX1).mono ?_
      rintro e Vc42 ⟨rfl, hb1⟩
      clear c0 c1
      clear d0 d1
      replace x0 := x0.below hb1
      replace x1 := x1.below hb1
      replace hX1 := hX1.below hb1 (Nat.le_refl _)
      replace hb := hb.trans (hb1.mono hb.size)
      clear hb1 hea
      have c0 := x0.cell 0 rfl; have c1 := x0.cell 1 rfl
      have d0 := x1.cell 0 rfl; have d1 := x1.cell 1 rfl
      go_wp2_with fail
      refine (heb _ hX1).mono ?_
      rintro e Vc43 ⟨rfl, hb1⟩
      clear c0 c1
      clear d0 d1
      replace x0 := x0.below hb1
      replace x1 := x1.below hb1
      replace hX1 := hX1.below hb1 (Nat.le_refl _)
      replace hb := hb.trans (hb1.mono hb.size)
      clear hb1 heb
      have c0 := x0.cell 0 rfl; have c1 := x0.cell 1 rfl
      have d0 := x1.cell 0 rfl; have d1 := x1.cell 1 rfl
      go_wp2_with fail
      refine (hwa _ hX1).mono ?_
      rintro e Vc44 ⟨rfl, hb1⟩
      clear c0 c1
      clear d0 d1
      replace x0 := x0.below hb1
      replace x1 := x1.below hb1
      replace hX1 := hX1.below hb1 (Nat.le_refl _)
      replace hb := hb.trans (hb1.mono hb.size)
      clear hb1 hwa
      have c0 := x0.cell 0 rfl; have c1 := x0.cell 1 rfl
      have d0 := x1.cell 0 rfl; have d1 := x1.cell 1 rfl
      have hba := below_one (w := Vc44) (.cells #[.int .i64 y.op, .int .i64 y.ow, .int .i64 y.rp] 33)
      have HXa := hid (And.intro (x0.below hba) (And.intro (x1.below hba) (And.intro (hX1.below hba (Nat.le_refl _)) (And.intro (hb.trans (hba.mono hb.size)) (Bx.new Vc44 #[.int .i64 y.op, .int .i64 y.ow, .int .i64 y.rp] 33)))))
      clear hba hb x0 x1 hX1
      go_upto_region 6 with fail
      clear c0 c1
      clear d0 d1
      obtain ⟨x0, x1, hX1, hb, x2⟩ := HXa.out
      clear HXa
      generalize Vc44.heap.size = sa_x2 at *
      generalize World.alloc _ _ = Va45 at *
      have c0 := x0.cell 0 rfl; have c1 := x0.cell 1 rfl
      have d0 := x1.cell 0 rfl; have d1 := x1.cell 1 rfl
      have k0 := x2.cell 0 rfl; have k1 := x2.cell 1 rfl; have k2 := x2.cell 2 rfl
      go_wp2_with fail
      refine (hk0 _).mono ?_
      rintro e Vc46 ⟨rfl, rfl⟩
      go_wp2_with fail
      refine (hk3 _).mono ?_
      rintro e Vc47 ⟨rfl, rfl⟩
      go_wp2_with fail
      refine (hic1 _).mono ?_
      rintro e Vc48 ⟨rfl, rfl⟩
      clear hic1
      go_wp2_with fail
      refine (hwk1 _ hX1).mono ?_
      rintro e Vc49 ⟨rfl, hb1⟩
      clear k0 k1 k2
      clear c0 c1
      clear d0 d1
      replace x0 := x0.below hb1
      replace x1 := x1.below hb1
      replace x2 := x2.below hb1
      replace hX1 := hX1.below hb1 (Nat.le_refl _)
      replace hb := hb.trans (hb1.mono hb.size)
      clear hb1 hwk1
      have c0 := x0.cell 0 rfl; have c1 := x0.cell 1 rfl
      have d0 := x1.cell 0 rfl; have d1 := x1.cell 1 rfl
      have k0 := x2.cell 0 rfl; have k1 := x2.cell 1 rfl; have k2 := x2.cell 2 rfl
      have hba := below_one (w := Vc49) (.cells #[.int .i64 z.op, .int .i64 z.ow, .int .i64 z.rp] 33)
      have HXa := hid (And.intro (x0.below hba) (And.intro (x1.below hba) (And.intro (x2.below hba) (And.intro (hX1.below hba (Nat.le_refl _)) (And.intro (hb.trans (hba.mono hb.size)) (Bx.new Vc49 #[.int .i64 z.op, .int .i64 z.ow, .int .i64 z.rp] 33))))))
      clear hba hb x0 x1 x2 hX1
      go_upto_region 13 with fail
      clear k0 k1 k2
      clear c0 c1
      clear d0 d1
      obtain ⟨x0, x1, x2, hX1, hb, x3⟩ := HXa.out
      clear HXa
      generalize Vc49.heap.size = sa_x3 at *
      generalize World.alloc _ _ = Va50 at *
      have k0 := x2.cell 0 rfl; have k1 := x2.cell 1 rfl; have k2 := x2.cell 2 rfl
      have c0 := x0.cell 0 rfl; have c1 := x0.cell 1 rfl
      have d0 := x1.cell 0 rfl; have d1 := x1.cell 1 rfl
      have m0 := x3.cell 0 rfl; have m1 := x3.cell 1 rfl; have m2 := x3.cell 2 rfl
      rcases Int.lt_or_le (tn : Int) (k : Int) with hlt | hlt
      · have hyl : y.ow < go := by omega
        clear hor
        go_wp2_with fail
        refine (hwk _).mono ?_
        rintro e Vw ⟨rfl, hbw9⟩
        clear k0 k1 k2
        clear c0 c1
        clear d0 d1
        clear m0 m1 m2
        replace hb := hb.trans (hbw9.mono hb.size)
        go_wp2
        go_ret
        exact ⟨rfl, hb⟩
      · clear hor
        go_wp2_with fail
        refine (hwk _).mono ?_
        rintro e Vw ⟨rfl, hbw9⟩
        clear k0 k1 k2
        clear c0 c1
        clear d0 d1
        clear m0 m1 m2
        replace hb := hb.trans (hbw9.mono hb.size)
        go_wp2
        go_ret
        exact ⟨rfl, hb⟩
  · rcases hcb with ⟨m, hm, e2, f1, f2⟩ | ⟨e2, f1⟩
    · exact absurd (g1 m hm) (by omega)
    · have hyl : y.ow < go := by rw [hy]; exact g1 tn ht4
      rw [e1] at hea
      rw [e2] at heb
      clear e1 e2 f1 g1 hwn hic hk0 hy ht4 hm0
      go_enter Try.func10, Try.ntmps10
      go_wp2_with fail
      refine (h0).mono ?_
      rintro e Vc53 ⟨rfl, hb1⟩
      clear c0 c1
      clear d0 d1
      replace x0 := x0.below hb1
      replace x1 := x1.below hb1
      replace hX1 := hX1.below hb1 (Nat.le_refl _)
      replace hb := hb.trans (hb1.mono hb.size)
      clear hb1 h0 hW
      have c0 := x0.cell 0 rfl; have c1 := x0.cell 1 rfl
      have d0 := x1.cell 0 rfl; have d1 := x1.cell 1 rfl
      go_wp2_with fail
      refine (h1 _).mono ?_
      rintro e Vc54 ⟨rfl, rfl⟩
      clear h1
      go_wp2_with fail
      refine (h2 _).mono ?_
      rintro e Vc55 ⟨rfl, rfl⟩
      clear h2
      go_wp2_with fail
      refine (h3 _).mono ?_
      rintro e Vc56 ⟨rfl, rfl⟩
      clear h3
      go_wp2_with fail
      refine (h4 _).mono ?_
      rintro e Vc57 ⟨rfl, rfl⟩
      clear h4
      go_wp2_with fail
      refine (hea _ hX1).mono ?_
      rintro e Vc58 ⟨rfl, hb1⟩
      clear c0 c1
      clear d0 d1
      replace x0 := x0.below hb1
      replace x1 := x1.below hb1
      replace hX1 := hX1.below hb1 (Nat.le_refl _)
      replace hb := hb.trans (hb1.mono hb.size)
      clear hb1 hea
      have c0 := x0.cell 0 rfl; have c1 := x0.cell 1 rfl
      have d0 := x1.cell 0 rfl; have d1 := x1.cell 1 rfl
      go_wp2_with fail
      refine (heb _ hX1).mono ?_
      rintro e Vc59 ⟨rfl, hb1⟩
      clear c0 c1
      clear d0 d1
      replace x0 := x0.below hb1
      replace x1 := x1.below hb1
      replace hX1 := hX1.below hb1 (Nat.le_refl _)
      replace hb := hb.trans (hb1.mono hb.size)
      clear hb1 heb
      have c0 := x0.cell 0 rfl; have c1 := x0.cell 1 rfl
      have d0 := x1.cell 0 rfl; have d1 := x1.cell 1 rfl
      go_wp2_with fail
      refine (hwa _ hX1).mono ?_
      rintro e Vc60 ⟨rfl, hb1⟩
      clear c0 c1
      clear d0 d1
      replace x0 := x0.below hb1
      replace x1 := x1.below hb1
      replace hX1 := hX1.below hb1 (Nat.le_refl _)
      replace hb := hb.trans (hb1.mono hb.size)
      clear hb1 hwa
      have c0 := x0.cell 0 rfl; have c1 := x0.cell 1 rfl
      have d0 := x1.cell 0 rfl; have d1 := x1.cell 1 rfl
      have hba := below_one (w := Vc60) (.cells #[.int .i64 y.op, .int .i64 y.ow, .int .i64 y.rp] 33)
      have HXa := hid (And.intro (x0.below hba) (And.intro (x1.below hba) (And.intro (hX1.below hba (Nat.le_refl _)) (And.intro (hb.trans (hba.mono hb.size)) (Bx.new Vc60 #[.int .i64 y.op, .int .i64 y.ow, .int .i64 y.rp] 33)))))
      clear hba hb x0 x1 hX1
      go_upto_region 6 with fail
      clear c0 c1
      clear d0 d1
      obtain ⟨x0, x1, hX1, hb, x2⟩ := HXa.out
      clear HXa
      generalize Vc60.heap.size = sa_x2 at *
      generalize World.alloc _ _ = Va61 at *
      have c0 := x0.cell 0 rfl; have c1 := x0.cell 1 rfl
      have d0 := x1.cell 0 rfl; have d1 := x1.cell 1 rfl
      have k0 := x2.cell 0 rfl; have k1 := x2.cell 1 rfl; have k2 := x2.cell 2 rfl
      go_wp2_with fail
      refine (hk3 _).mono ?_
      rintro e Vc62 ⟨rfl, rfl⟩
      go_wp2_with fail
      refine (hk3 _).mono ?_
      rintro e Vc63 ⟨rfl, rfl⟩
      go_wp2_with fail
      refine (hwk _).mono ?_
      rintro e Vw ⟨rfl, hbw9⟩
      clear k0 k1 k2
      clear c0 c1
      clear d0 d1
      replace hb := hb.trans (hbw9.mono hb.size)
      go_wp2
      go_ret
      exact ⟨rfl, hb⟩
theorem sharesGoal_any (ac : Option Addr) (cc : Nat) (cs : List Cl) (L : Int) (go mo ta : Int) (w : World) (hS : ShIn w ac cc cs) : Calls Try.prog 10 #[.agg #[.slice ac cs.length cc, .int .i64 L], .int .i64 go, .agg #[.int .i64 mo, .int .i64 ta]] w fun e w' => e = .returned (.bool true) ∧ Below w.heap.size w w' := by
  cases h : (shB cs L && cenB go && cenB mo && cenB (go + mo) && cenB ta)
  · exact Goal_bad ac cc cs L go mo ta w hS h
  · simp only [Bool.and_eq_true] at h
    exact Goal_ok ac cc cs L go mo ta w (hS.cl (by have := (shB_ok h.1.1.1.1).1; omega)) h.1.1.1.1 h.1.1.1.2 h.1.1.2 h.1.2 h.2
end Go.Proofs.Ythgjjlkdekfdbaa
