import Derived.Test.YthgjjlkdekfdbaaRA
import Derived.Test.YthgjjlkdekfdbaaT32
import Derived.Test.YthgjjlkdekfdbaaT33
/-! SharesWeeks. -/
namespace Go.Proofs.Ythgjjlkdekfdbaa
set_option linter.unusedSimpArgs false
set_option linter.unusedVariables false
open Go Go.RowKit

set_option maxRecDepth 100000 in
set_option maxHeartbeats 6000000 in
theorem Weeks_far (ac : Option Addr) (cc : Nat) (cs : List Cl) (L : Int) (at' : Option Addr) (ct : Nat) (ts : List Int) (w : World) (hl : cs.length ≤ 9223372036854775807) (hT : Ints w at' ts) (hbad : 40 < cs.length ∨ 40 < ts.length) : Calls Try.prog 4 #[.agg #[.slice ac cs.length cc, .int .i64 L], .slice at' ts.length ct] w fun e w' => e = .returned (.bool true) ∧ Below w.heap.size w w' := by
  obtain ⟨W, hW, hb, _, x0⟩ := boxes1 w #[.slice ac cs.length cc, .int .i64 L] 24
  have h0 := far_any ac cc cs.length L hl W
  have hwk := fun V => works_any V
  have hlt := hT.len
  obtain ⟨m, hm⟩ : ∃ m, m = ts.length := ⟨_, rfl⟩
  rw [← hm] at hbad hlt ⊢
  clear hT hm
  have c0 := x0.cell 0 rfl; have c1 := x0.cell 1 rfl
  go_enter Try.func4, Try.ntmps4
  by_cases h40 : 40 < cs.length
  · rw [decide_eq_true h40] at h0
    clear hl h40 hbad
    go_wp2_with fail
    refine (h0).mono ?_
    rintro e Vc1 ⟨rfl, hb1⟩
    clear c0 c1
    replace x0 := x0.below hb1
    replace hb := hb.trans (hb1.mono hb.size)
    clear hb1
    have c0 := x0.cell 0 rfl; have c1 := x0.cell 1 rfl
    go_wp2_with fail
    refine (hwk _).mono ?_
    rintro e Vw ⟨rfl, hbw9⟩
    clear c0 c1
    replace hb := hb.trans (hbw9.mono hb.size)
    go_wp2
    go_ret
    exact ⟨rfl, hb⟩
  · rw [decide_eq_false h40] at h0
    have hmI : (40 : Int) < (m : Int) := by omega
    clear hl h40 hbad
    go_wp2_with fail
    refine (h0).mono ?_
    rintro e Vc3 ⟨rfl, hb1⟩
    clear c0 c1
    replace x0 := x0.below hb1
    replace hb := hb.trans (hb1.mono hb.size)
    clear hb1
    have c0 := x0.cell 0 rfl; have c1 := x0.cell 1 rfl
    go_wp2_with fail
    refine (hwk _).mono ?_
    rintro e Vw ⟨rfl, hbw9⟩
    clear c0 c1
    replace hb := hb.trans (hbw9.mono hb.size)
    go_wp2
    go_ret
    exact ⟨rfl, hb⟩
set_option maxRecDepth 100000 in
set_option maxHeartbeats 8000000 in
theorem Weeks_near (ac : Option Addr) (cc : Nat) (cs : List Cl) (L : Int) (at' : Option Addr) (ct : Nat) (ts : List Int) (w : World) (hX : Clz w ac cs) (hT : Ints w at' ts) (h40 : cs.length ≤ 40) (h41 : ts.length ≤ 40) : Calls Try.prog 4 #[.agg #[.slice ac cs.length cc, .int .i64 L], .slice at' ts.length ct] w fun e w' => e = .returned (.bool true) ∧ Below w.heap.size w w' := by
  obtain ⟨j0, hj0, jz0, jz1, jz2⟩ := info_parts info3i
  obtain ⟨W, hW, hb, _, x0⟩ := boxes1 w #[.slice ac cs.length cc, .int .i64 L] 24
  have h0 := far_any ac cc cs.length L (by omega) W
  rw [decide_eq_false (by omega)] at h0
  have hwk := fun V => works_any V
  have hcp := fun V hh => Copy_any ac cc cs L V hh
  have hw1 := Weeks_P cs L ts
  have hw2 := refWeeks_P cs L ts
  unfold WeeksP at hw1 hw2
  generalize wkLs cs L ts = us at *
  generalize wkOs cs L ts = lo at *
  generalize wkE cs L ts = er at *
  have hsi := fun (a b : Option Addr) (ca cb : Nat) V h1 h2 => SameInts_eq a b ca cb ts V h1 h2
  have hsp := fun (a b : Option Addr) (ca cb : Nat) V h1 h2 => sameSplits_eq a b ca cb us V h1 h2
  have hsm := fun (a b : Option Addr) (ca cb : Nat) V h1 h2 => same_eq a b ca cb cs L V h1 h2
  have n1 : (lo == lo) = true := by simp
  have n2 : (er == er) = true := by simp
  have hX1 := hX.below hb (Nat.le_refl _)
  have hT1 := hT.below hb (Nat.le_refl _)
  have HR := hid hT.2.1
  clear hX hT
  obtain ⟨nn, hnn⟩ : ∃ nn, nn = cs.length := ⟨_, rfl⟩
  rw [← hnn] at h0 hcp hw1 hw2 hsm x0 hW h40 ⊢
  obtain ⟨nu, hnu⟩ : ∃ nu, nu = us.length := ⟨_, rfl⟩
  rw [← hnu] at hw1 hw2 hsp
  obtain ⟨m, hm⟩ : ∃ m, m = ts.length := ⟨_, rfl⟩
  rw [← hm] at hw1 hw2 hsi h41 ⊢
  have HM := hid hm
  have hmI : (m : Int) ≤ 40 := by omega
  clear hnn hnu hm
  have c0 := x0.cell 0 rfl; have c1 := x0.cell 1 rfl
  go_enter Try.func4, Try.ntmps4
  go_wp2_with fail
  refine (h0).mono ?_
  rintro e Vc5 ⟨rfl, hb1⟩
  clear c0 c1
  replace x0 := x0.below hb1
  replace hX1 := hX1.below hb1 (Nat.le_refl _)
  replace hT1 := hT1.below hb1 (Nat.le_refl _)
  replace hb := hb.trans (hb1.mono hb.size)
  clear hb1 h0 hW
  have c0 := x0.cell 0 rfl; have c1 := x0.cell 1 rfl
  go_wp2_with fail
  refine (hcp _ hX1).mono ?_
  rintro e Vc6 ⟨a5, c5, rfl, hC, hcap, hb1⟩
  clear c0 c1
  replace x0 := x0.below hb1
  replace hX1 := hX1.below hb1 (Nat.le_refl _)
  replace hT1 := hT1.below hb1 (Nat.le_refl _)
  replace hb := hb.trans (hb1.mono hb.size)
  clear hb1 hcp
  have c0 := x0.cell 0 rfl; have c1 := x0.cell 1 rfl
  have hA := own_lit0 Vc6 3 1
  have hbA := below_one (w := Vc6) (.cells #[] 3)
  have hcl := (hT1.below hbA (Nat.le_refl _)).cls
  have hml : (ts.map (Value.int .i64)).length = m * 1 := by rw [List.length_map, HM.out, Nat.mul_one]
  go_upto_region 4 with (at_builtin; refine wpList_app rfl _ _ 41 rfl Vc6.heap.size 3 j0 (.int .i64 0) 1 8 under41 hj0 jz0 jz1 jz2 rfl (by decide) _ 0 [] rfl hA at' m ct (ts.map (Value.int .i64)) rfl hml hcl (ints_one ts) (by unfold maxLen; omega) (by omega) (by simp) ?_
                         intro v1 W1 hown1 hg1
                         have hbg := hbA.grown hg1 (by simp) (own_ge hA)
                         rw [Nat.zero_add, List.nil_append, HM.out] at hown1
                         obtain ⟨a6, c6, rfl, hT6⟩ := Ints.of_own hown1 (by rw [← HM.out]; omega) HR.out
                         rw [← HM.out]
                         have hba := below_one (w := W1) (.cells #[.slice a5 nn c5, .int .i64 L] 24)
                         have hbh := hbg.trans (hba.mono hbg.size)
                         have HXa := hid (And.intro (x0.below hbh) (And.intro (hX1.below hbh (Nat.le_refl _)) (And.intro (hT1.below hbh (Nat.le_refl _)) (And.intro (hC.below hbh (Nat.le_refl _)) (And.intro (hT6.below hba (Nat.le_refl _)) (And.intro (hb.trans (hbh.mono hb.size)) (Bx.new W1 #[.slice a5 nn c5, .int .i64 L] 24)))))))
                         clear hA hbA hcl hml hown1 hg1 hbg hba hbh x0 hX1 hT1 hC hT6 hb c0 c1)
  obtain ⟨x0, hX1, hT1, hC, hT6, hb, x5⟩ := HXa.out
  clear HXa
  generalize W1.heap.size = s5 at *
  generalize World.alloc _ _ = V5 at *
  have c0 := x0.cell 0 rfl; have c1 := x0.cell 1 rfl
  have k0 := x5.cell 0 rfl; have k1 := x5.cell 1 rfl
  go_wp2_with fail
  refine (hw1 a5 c5 a6 c6 _ hC hT6).mono ?_
  rintro e Vc7 ⟨a7, c7, rfl, hS7, _, hb1⟩
  clear k0 k1
  clear c0 c1
  replace x0 := x0.below hb1
  replace x5 := x5.below hb1
  replace hX1 := hX1.below hb1 (Nat.le_refl _)
  replace hT1 := hT1.below hb1 (Nat.le_refl _)
  replace hC := hC.below hb1 (Nat.le_refl _)
  replace hT6 := hT6.below hb1 (Nat.le_refl _)
  replace hb := hb.trans (hb1.mono hb.size)
  clear hb1 hw1
  have c0 := x0.cell 0 rfl; have c1 := x0.cell 1 rfl
  have k0 := x5.cell 0 rfl; have k1 := x5.cell 1 rfl
  go_wp2_with fail
  refine (hw2 ac cc at' ct _ hX1 hT1).mono ?_
  rintro e Vc8 ⟨a8, c8, rfl, hS8, _, hb1⟩
  clear k0 k1
  clear c0 c1
  replace x0 := x0.below hb1
  replace x5 := x5.below hb1
  replace hX1 := hX1.below hb1 (Nat.le_refl _)
  replace hT1 := hT1.below hb1 (Nat.le_refl _)
  replace hC := hC.below hb1 (Nat.le_refl _)
  replace hT6 := hT6.below hb1 (Nat.le_refl _)
  replace hS7 := hS7.below hb1 (Nat.le_refl _)
  replace hb := hb.trans (hb1.mono hb.size)
  clear hb1 hw2
  have c0 := x0.cell 0 rfl; have c1 := x0.cell 1 rfl
  have k0 := x5.cell 0 rfl; have k1 := x5.cell 1 rfl
  go_wp2_with fail
  refine (hsp a7 a8 c7 c8 _ hS7 hS8).mono ?_
  rintro e Vc9 ⟨rfl, hb1⟩
  clear k0 k1
  clear c0 c1
  replace x0 := x0.below hb1
  replace x5 := x5.below hb1
  replace hX1 := hX1.below hb1 (Nat.le_refl _)
  replace hT1 := hT1.below hb1 (Nat.le_refl _)
  replace hC := hC.below hb1 (Nat.le_refl _)
  replace hT6 := hT6.below hb1 (Nat.le_refl _)
  replace hS7 := hS7.below hb1 (Nat.le_refl _)
  replace hS8 := hS8.below hb1 (Nat.le_refl _)
  replace hb := hb.trans (hb1.mono hb.size)
  clear hb1 hsp
  have c0 := x0.cell 0 rfl; have c1 := x0.cell 1 rfl
  have k0 := x5.cell 0 rfl; have k1 := x5.cell 1 rfl
  go_wp2_with fail
  refine (hsm a5 ac c5 cc _ hC hX1).mono ?_
  rintro e Vc10 ⟨rfl, hb1⟩
  clear k0 k1
  clear c0 c1
  replace x0 := x0.below hb1
  replace x5 := x5.below hb1
  replace hX1 := hX1.below hb1 (Nat.le_refl _)
  replace hT1 := hT1.below hb1 (Nat.le_refl _)
  replace hC := hC.below hb1 (Nat.le_refl _)
  replace hT6 := hT6.below hb1 (Nat.le_refl _)
  replace hS7 := hS7.below hb1 (Nat.le_refl _)
  replace hS8 := hS8.below hb1 (Nat.le_refl _)
  replace hb := hb.trans (hb1.mono hb.size)
  clear hb1 hsm
  have c0 := x0.cell 0 rfl; have c1 := x0.cell 1 rfl
  have k0 := x5.cell 0 rfl; have k1 := x5.cell 1 rfl
  go_wp2_with fail
  refine (hsi a6 at' c6 ct _ hT6 hT1).mono ?_
  rintro e Vc11 ⟨rfl, hb1⟩
  clear k0 k1
  clear c0 c1
  replace x0 := x0.below hb1
  replace x5 := x5.below hb1
  replace hX1 := hX1.below hb1 (Nat.le_refl _)
  replace hT1 := hT1.below hb1 (Nat.le_refl _)
  replace hC := hC.below hb1 (Nat.le_refl _)
  replace hT6 := hT6.below hb1 (Nat.le_refl _)
  replace hS7 := hS7.below hb1 (Nat.le_refl _)
  replace hS8 := hS8.below hb1 (Nat.le_refl _)
  replace hb := hb.trans (hb1.mono hb.size)
  clear hb1 hsi
  have c0 := x0.cell 0 rfl; have c1 := x0.cell 1 rfl
  have k0 := x5.cell 0 rfl; have k1 := x5.cell 1 rfl
  go_wp2_with fail
  refine (hwk _).mono ?_
  rintro e Vw ⟨rfl, hbw9⟩
  clear k0 k1
  clear c0 c1
  replace hb := hb.trans (hbw9.mono hb.size)
  go_wp2
  go_ret
  exact ⟨rfl, hb⟩
theorem sharesWeeks_any (ac : Option Addr) (cc : Nat) (cs : List Cl) (L : Int) (at' : Option Addr) (ct : Nat) (ts : List Int) (w : World) (hS : ShIn w ac cc cs) (hT : Ints w at' ts) : Calls Try.prog 4 #[.agg #[.slice ac cs.length cc, .int .i64 L], .slice at' ts.length ct] w fun e w' => e = .returned (.bool true) ∧ Below w.heap.size w w' := by
  rcases Nat.lt_or_ge 40 cs.length with h | h
  · exact Weeks_far ac cc cs L at' ct ts w hS.l hT (.inl h)
  · rcases Nat.lt_or_ge 40 ts.length with h' | h'
    · exact Weeks_far ac cc cs L at' ct ts w hS.l hT (.inr h')
    · exact Weeks_near ac cc cs L at' ct ts w (hS.cl (by omega)) hT h h'
end Go.Proofs.Ythgjjlkdekfdbaa
