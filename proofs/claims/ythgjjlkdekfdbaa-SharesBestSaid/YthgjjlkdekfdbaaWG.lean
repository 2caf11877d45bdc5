import Derived.Test.YthgjjlkdekfdbaaRA
import Derived.Test.YthgjjlkdekfdbaaT27
/-! SharesEnough. -/
namespace Go.Proofs.Ythgjjlkdekfdbaa
set_option linter.unusedSimpArgs false
set_option linter.unusedVariables false
open Go Go.RowKit

theorem ask_nz1 {cs : List Cl} {L : Int} {o : Bool} (h : (shB cs L && o) = false) : askE cs L o ≠ 0 := fun hh => by
  obtain ⟨h1, h2⟩ := askE_zero hh
  rw [h1, h2] at h; cases h

theorem enough_pair (cs : List Cl) (L t : Int) : ∃ a x : Int, (∀ (ac : Option Addr) (cc : Nat) (V : World), Clz V ac cs → Calls Try.prog 36 #[.agg #[.slice ac cs.length cc, .int .i64 L], .int .i64 t] V fun e w' => e = .returned (.tuple #[.int .i64 a, .int .i64 x]) ∧ Below V.heap.size V w') ∧
    (∀ (ac : Option Addr) (cc : Nat) (V : World), Clz V ac cs → Calls Try.prog 37 #[.agg #[.slice ac cs.length cc, .int .i64 L], .int .i64 t] V fun e w' => e = .returned (.tuple #[.int .i64 a, .int .i64 x]) ∧ Below V.heap.size V w') := by
  cases h : (shB cs L && cenB t)
  · exact ⟨0, _, fun ac cc V hh => Enough_bad ac cc cs L t V hh _ rfl (ask_nz1 h), fun ac cc V hh => refEnough_bad ac cc cs L t V hh _ rfl (ask_nz1 h)⟩
  · simp only [Bool.and_eq_true] at h
    exact ⟨_, _, fun ac cc V hh => Enough_ok ac cc cs L t V hh h.1 h.2 _ rfl, fun ac cc V hh => refEnough_ok ac cc cs L t V hh h.1 h.2 _ rfl⟩

theorem repaid_pair (cs : List Cl) (L t : Int) : ∃ a x : Int, (∀ (ac : Option Addr) (cc : Nat) (V : World), Clz V ac cs → Calls Try.prog 34 #[.agg #[.slice ac cs.length cc, .int .i64 L], .int .i64 t] V fun e w' => e = .returned (.tuple #[.int .i64 a, .int .i64 x]) ∧ Below V.heap.size V w') ∧
    (∀ (ac : Option Addr) (cc : Nat) (V : World), Clz V ac cs → Calls Try.prog 35 #[.agg #[.slice ac cs.length cc, .int .i64 L], .int .i64 t] V fun e w' => e = .returned (.tuple #[.int .i64 a, .int .i64 x]) ∧ Below V.heap.size V w') := by
  cases h : (shB cs L && cenB t)
  · exact ⟨0, _, fun ac cc V hh => Repaid_bad ac cc cs L t V hh _ rfl (ask_nz1 h), fun ac cc V hh => refRepaid_bad ac cc cs L t V hh _ rfl (ask_nz1 h)⟩
  · simp only [Bool.and_eq_true] at h
    exact ⟨_, _, fun ac cc V hh => Repaid_ok ac cc cs L t V hh h.1 h.2 _ rfl, fun ac cc V hh => refRepaid_ok ac cc cs L t V hh h.1 h.2 _ rfl⟩

set_option maxRecDepth 100000 in
set_option maxHeartbeats 6000000 in
theorem Enough_far (ac : Option Addr) (cc : Nat) (cs : List Cl) (L : Int) (t : Int) (w : World) (hl : cs.length ≤ 9223372036854775807) (h40 : 40 < cs.length) : Calls Try.prog 6 #[.agg #[.slice ac cs.length cc, .int .i64 L], .int .i64 t] w fun e w' => e = .returned (.bool true) ∧ Below w.heap.size w w' := by
  obtain ⟨W, hW, hb, _, x0⟩ := boxes1 w #[.slice ac cs.length cc, .int .i64 L] 24
  have h0 := far_any ac cc cs.length L hl W
  rw [decide_eq_true h40] at h0
  have hwk := fun V => works_any V
  clear hl h40
  have c0 := x0.cell 0 rfl; have c1 := x0.cell 1 rfl
  go_enter Try.func6, Try.ntmps6
  go_wp2_with fail
  refine (h0).mono ?_
  rintro e Vc1 ⟨rfl, hb1⟩
  clear c0 c1
  replace x0 := x0.below hb1
  replace hb := hb.trans (hb1.mono hb.size)
  clear hb1
  have c0 := x0.cell 0 rfl; have c1 := x0.cell 1 rfl
  go_wp2_with fail
  refine (hwk _).mono ?_
  rintro e Vw ⟨rfl, hbw9⟩
  clear c0 c1
  replace hb := hb.trans (hbw9.mono hb.size)
  go_wp2
  go_ret
  exact ⟨rfl, hb⟩
set_option maxRecDepth 100000 in
set_option maxHeartbeats 8000000 in
theorem Enough_near (ac : Option Addr) (cc : Nat) (cs : List Cl) (L : Int) (t : Int) (w : World) (hX : Clz w ac cs) (h40 : cs.length ≤ 40) : Calls Try.prog 6 #[.agg #[.slice ac cs.length cc, .int .i64 L], .int .i64 t] w fun e w' => e = .returned (.bool true) ∧ Below w.heap.size w w' := by
  obtain ⟨W, hW, hb, _, x0⟩ := boxes1 w #[.slice ac cs.length cc, .int .i64 L] 24
  have h0 := far_any ac cc cs.length L (by omega) W
  rw [decide_eq_false (by omega)] at h0
  have hwk := fun V => works_any V
  have hcp := fun V hh => Copy_any ac cc cs L V hh
  obtain ⟨wa, we, hw1, hw2⟩ := enough_pair cs L t
  have hsm := fun (a b : Option Addr) (ca cb : Nat) V h1 h2 => same_eq a b ca cb cs L V h1 h2
  have n1 : (wa == wa) = true := by simp
  have n2 : (we == we) = true := by simp
  have hX1 := hX.below hb (Nat.le_refl _)
  clear hX
  obtain ⟨nn, hnn⟩ : ∃ nn, nn = cs.length := ⟨_, rfl⟩
  rw [← hnn] at h0 hcp hw1 hw2 hsm x0 hW h40 ⊢
  clear hnn
  have c0 := x0.cell 0 rfl; have c1 := x0.cell 1 rfl
  go_enter Try.func6, Try.ntmps6
  go_wp2_with fail
  refine (h0).mono ?_
  rintro e Vc3 ⟨rfl, hb1⟩
  clear c0 c1
  replace x0 := x0.below hb1
  replace hX1 := hX1.below hb1 (Nat.le_refl _)
  replace hb := hb.trans (hb1.mono hb.size)
  clear hb1 h0 hW
  have c0 := x0.cell 0 rfl; have c1 := x0.cell 1 rfl
  go_wp2_with fail
  refine (hcp _ hX1).mono ?_
  rintro e Vc4 ⟨a5, c5, rfl, hC, hcap, hb1⟩
  clear c0 c1
  replace x0 := x0.below hb1
  replace hX1 := hX1.below hb1 (Nat.le_refl _)
  replace hb := hb.trans (hb1.mono hb.size)
  clear hb1 hcp
  have c0 := x0.cell 0 rfl; have c1 := x0.cell 1 rfl
  have hba := below_one (w := Vc4) (.cells #[.slice a5 nn c5, .int .i64 L] 24)
  have HXa := hid (And.intro (x0.below hba) (And.intro (hX1.below hba (Nat.le_refl _)) (And.intro (hC.below hba (Nat.le_refl _)) (And.intro (hb.trans (hba.mono hb.size)) (Bx.new Vc4 #[.slice a5 nn c5, .int .i64 L] 24)))))
  clear hba hb x0 hX1 hC
  go_upto_region 4 with fail
  clear c0 c1
  obtain ⟨x0, hX1, hC, hb, x5⟩ := HXa.out
  clear HXa
  generalize Vc4.heap.size = sa_x5 at *
  generalize World.alloc _ _ = Va_x5 at *
  have c0 := x0.cell 0 rfl; have c1 := x0.cell 1 rfl
  have k0 := x5.cell 0 rfl; have k1 := x5.cell 1 rfl
  go_wp2_with fail
  refine (hw1 a5 c5 _ hC).mono ?_
  rintro e Vc6 ⟨rfl, hb1⟩
  clear c0 c1
  clear k0 k1
  replace x0 := x0.below hb1
  replace x5 := x5.below hb1
  replace hX1 := hX1.below hb1 (Nat.le_refl _)
  replace hC := hC.below hb1 (Nat.le_refl _)
  replace hb := hb.trans (hb1.mono hb.size)
  clear hb1 hw1
  have c0 := x0.cell 0 rfl; have c1 := x0.cell 1 rfl
  have k0 := x5.cell 0 rfl; have k1 := x5.cell 1 rfl
  go_wp2_with fail
  refine (hw2 ac cc _ hX1).mono ?_
  rintro e Vc7 ⟨rfl, hb1⟩
  clear c0 c1
  clear k0 k1
  replace x0 := x0.below hb1
  replace x5 := x5.below hb1
  replace hX1 := hX1.below hb1 (Nat.le_refl _)
  replace hC := hC.below hb1 (Nat.le_refl _)
  replace hb := hb.trans (hb1.mono hb.size)
  clear hb1 hw2
  have c0 := x0.cell 0 rfl; have c1 := x0.cell 1 rfl
  have k0 := x5.cell 0 rfl; have k1 := x5.cell 1 rfl
  go_wp2_with fail
  refine (hsm a5 ac c5 cc _ hC hX1).mono ?_
  rintro e Vc8 ⟨rfl, hb1⟩
  clear c0 c1
  clear k0 k1
  replace x0 := x0.below hb1
  replace x5 := x5.below hb1
  replace hX1 := hX1.below hb1 (Nat.le_refl _)
  replace hC := hC.below hb1 (Nat.le_refl _)
  replace hb := hb.trans (hb1.mono hb.size)
  clear hb1 hsm
  have c0 := x0.cell 0 rfl; have c1 := x0.cell 1 rfl
  have k0 := x5.cell 0 rfl; have k1 := x5.cell 1 rfl
  go_wp2_with fail
  refine (hwk _).mono ?_
  rintro e Vw ⟨rfl, hbw9⟩
  clear c0 c1
  clear k0 k1
  replace hb := hb.trans (hbw9.mono hb.size)
  go_wp2
  go_ret
  exact ⟨rfl, hb⟩
theorem sharesEnough_any (ac : Option Addr) (cc : Nat) (cs : List Cl) (L : Int) (t : Int) (w : World) (hS : ShIn w ac cc cs) : Calls Try.prog 6 #[.agg #[.slice ac cs.length cc, .int .i64 L], .int .i64 t] w fun e w' => e = .returned (.bool true) ∧ Below w.heap.size w w' := by
  rcases Nat.lt_or_ge 40 cs.length with h | h
  · exact Enough_far ac cc cs L t w hS.l h
  · exact Enough_near ac cc cs L t w (hS.cl (by omega)) h
end Go.Proofs.Ythgjjlkdekfdbaa
