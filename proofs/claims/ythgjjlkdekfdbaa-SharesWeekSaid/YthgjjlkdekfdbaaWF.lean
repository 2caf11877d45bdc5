import Derived.Test.YthgjjlkdekfdbaaRA
import Derived.Test.YthgjjlkdekfdbaaT26
/-! SharesWeek. -/
namespace Go.Proofs.Ythgjjlkdekfdbaa
set_option linter.unusedSimpArgs false
set_option linter.unusedVariables false
open Go Go.RowKit

theorem check_pair (cs : List Cl) (L : Int) : ∃ x : Int, (∀ (ac : Option Addr) (cc : Nat) (V : World), Clz V ac cs → Calls Try.prog 17 #[.agg #[.slice ac cs.length cc, .int .i64 L]] V fun e w' => e = .returned (.int .i64 x) ∧ Below V.heap.size V w') ∧
    (∀ (ac : Option Addr) (cc : Nat) (V : World), Clz V ac cs → Calls Try.prog 18 #[.agg #[.slice ac cs.length cc, .int .i64 L]] V fun e w' => e = .returned (.int .i64 x) ∧ Below V.heap.size V w') :=
  ⟨cod (shB cs L), fun ac cc V h => (Check_any ac cc cs L V h).mono fun e w' hh => ⟨hh.1.trans (ret_int rfl), hh.2⟩, fun ac cc V h => refCheck_any ac cc cs L V h⟩
theorem ask_nz {cs : List Cl} {L : Int} {o : Bool} (h : (shB cs L && o) = false) : askE cs L o ≠ 0 := fun hh => by
  obtain ⟨h1, h2⟩ := askE_zero hh
  rw [h1, h2] at h; cases h
theorem week_pair (cs : List Cl) (L t : Int) : ∃ a b c x : Int, (∀ (ac : Option Addr) (cc : Nat) (V : World), Clz V ac cs → Calls Try.prog 19 #[.agg #[.slice ac cs.length cc, .int .i64 L], .int .i64 t] V fun e w' => e = .returned (.tuple #[.agg #[.int .i64 a, .int .i64 b, .int .i64 c], .int .i64 x]) ∧ Below V.heap.size V w') ∧
    (∀ (ac : Option Addr) (cc : Nat) (V : World), Clz V ac cs → Calls Try.prog 20 #[.agg #[.slice ac cs.length cc, .int .i64 L], .int .i64 t] V fun e w' => e = .returned (.tuple #[.agg #[.int .i64 a, .int .i64 b, .int .i64 c], .int .i64 x]) ∧ Below V.heap.size V w') := by
  cases h : (shB cs L && cenB t)
  · exact ⟨0, 0, 0, _, fun ac cc V hh => Week_bad ac cc cs L t V hh _ rfl (ask_nz h), fun ac cc V hh => refWeek_bad ac cc cs L t V hh _ rfl (ask_nz h)⟩
  · simp only [Bool.and_eq_true] at h
    exact ⟨_, _, _, 0, fun ac cc V hh => Week_ok ac cc cs L t V hh h.1 h.2 _ rfl, fun ac cc V hh => refWeek_ok ac cc cs L t V hh h.1 h.2 _ rfl⟩
theorem gift_pair (cs : List Cl) (L t g : Int) : ∃ a b c x : Int, (∀ (ac : Option Addr) (cc : Nat) (V : World), Clz V ac cs → Calls Try.prog 21 #[.agg #[.slice ac cs.length cc, .int .i64 L], .int .i64 t, .int .i64 g] V fun e w' => e = .returned (.tuple #[.agg #[.int .i64 a, .int .i64 b, .int .i64 c], .int .i64 x]) ∧ Below V.heap.size V w') ∧
    (∀ (ac : Option Addr) (cc : Nat) (V : World), Clz V ac cs → Calls Try.prog 22 #[.agg #[.slice ac cs.length cc, .int .i64 L], .int .i64 t, .int .i64 g] V fun e w' => e = .returned (.tuple #[.agg #[.int .i64 a, .int .i64 b, .int .i64 c], .int .i64 x]) ∧ Below V.heap.size V w') := by
  cases h : (shB cs L && (cenB t && cenB g))
  · exact ⟨0, 0, 0, _, fun ac cc V hh => Gift_bad ac cc cs L t g V hh _ rfl (ask_nz h), fun ac cc V hh => refGift_bad ac cc cs L t g V hh _ rfl (ask_nz h)⟩
  · simp only [Bool.and_eq_true] at h
    exact ⟨_, _, _, 0, fun ac cc V hh => Gift_ok ac cc cs L t g V hh h.1 h.2.1 h.2.2 _ rfl, fun ac cc V hh => refGift_ok ac cc cs L t g V hh h.1 h.2.1 h.2.2 _ rfl⟩
theorem gives_pair (cs : List Cl) (L t n : Int) : ∃ a x : Int, (∀ (ac : Option Addr) (cc : Nat) (V : World), cs.length ≤ cc → Clz V ac cs → Calls Try.prog 23 #[.agg #[.slice ac cs.length cc, .int .i64 L], .int .i64 t, .int .i64 n] V fun e w' => e = .returned (.tuple #[.int .i64 a, .int .i64 x]) ∧ Below V.heap.size V w') ∧
    (∀ (ac : Option Addr) (cc : Nat) (V : World), Clz V ac cs → Calls Try.prog 24 #[.agg #[.slice ac cs.length cc, .int .i64 L], .int .i64 t, .int .i64 n] V fun e w' => e = .returned (.tuple #[.int .i64 a, .int .i64 x]) ∧ Below V.heap.size V w') := by
  cases h : (shB cs L && (cenB t && hasB cs n))
  · exact ⟨0, _, fun ac cc V _ hh => Gives_bad ac cc cs L t n V hh _ rfl (ask_nz h), fun ac cc V hh => refGives_bad ac cc cs L t n V hh _ rfl (ask_nz h)⟩
  · simp only [Bool.and_eq_true] at h
    have hh := inI_iff.1 h.2.2
    obtain ⟨j, rfl⟩ := Int.eq_ofNat_of_zero_le hh.1
    exact ⟨_, 0, fun ac cc V hc hv => Gives_ok ac cc cs L t j V hv h.1 h.2.1 (by omega) hc _ rfl, fun ac cc V hv => refGives_ok ac cc cs L t j V hv h.1 h.2.1 (by omega) _ rfl⟩
theorem without_pair (cs : List Cl) (L t n : Int) : ∃ a x : Int, (∀ (ac : Option Addr) (cc : Nat) (V : World), cs.length ≤ cc → Clz V ac cs → Calls Try.prog 25 #[.agg #[.slice ac cs.length cc, .int .i64 L], .int .i64 t, .int .i64 n] V fun e w' => e = .returned (.tuple #[.int .i64 a, .int .i64 x]) ∧ Below V.heap.size V w') ∧
    (∀ (ac : Option Addr) (cc : Nat) (V : World), Clz V ac cs → Calls Try.prog 26 #[.agg #[.slice ac cs.length cc, .int .i64 L], .int .i64 t, .int .i64 n] V fun e w' => e = .returned (.tuple #[.int .i64 a, .int .i64 x]) ∧ Below V.heap.size V w') := by
  cases h : (shB cs L && (cenB t && hasB cs n))
  · exact ⟨0, _, fun ac cc V _ hh => Without_bad ac cc cs L t n V hh _ rfl (ask_nz h), fun ac cc V hh => refWithout_bad ac cc cs L t n V hh _ rfl (ask_nz h)⟩
  · simp only [Bool.and_eq_true] at h
    have hh := inI_iff.1 h.2.2
    obtain ⟨j, rfl⟩ := Int.eq_ofNat_of_zero_le hh.1
    exact ⟨_, 0, fun ac cc V hc hv => Without_ok ac cc cs L t j V hv h.1 h.2.1 (by omega) hc _ rfl, fun ac cc V hv => refWithout_ok ac cc cs L t j V hv h.1 h.2.1 (by omega) _ rfl⟩

set_option maxRecDepth 100000 in
set_option maxHeartbeats 6000000 in
theorem Week_far (ac : Option Addr) (cc : Nat) (cs : List Cl) (L : Int) (t gi cl : Int) (w : World) (hl : cs.length ≤ 9223372036854775807) (h40 : 40 < cs.length) : Calls Try.prog 3 #[.agg #[.slice ac cs.length cc, .int .i64 L], .agg #[.int .i64 t, .int .i64 gi, .int .i64 cl]] w fun e w' => e = .returned (.bool true) ∧ Below w.heap.size w w' := by
  obtain ⟨W, hW, hb, _, x0, x1⟩ := boxes2 w #[.slice ac cs.length cc, .int .i64 L] 24 #[.int .i64 t, .int .i64 gi, .int .i64 cl] 26
  have h0 := far_any ac cc cs.length L hl W
  rw [decide_eq_true h40] at h0
  have hwk := fun V => works_any V
  clear hl h40
  have c0 := x0.cell 0 rfl; have c1 := x0.cell 1 rfl
  have d0 := x1.cell 0 rfl; have d1 := x1.cell 1 rfl; have d2 := x1.cell 2 rfl
  go_enter Try.func3, Try.ntmps3
  go_wp2_with fail
  refine (h0).mono ?_
  rintro e Vc1 ⟨rfl, hb1⟩
  clear d0 d1 d2
  clear c0 c1
  replace x0 := x0.below hb1
  replace x1 := x1.below hb1
  replace hb := hb.trans (hb1.mono hb.size)
  clear hb1
  have c0 := x0.cell 0 rfl; have c1 := x0.cell 1 rfl
  have d0 := x1.cell 0 rfl; have d1 := x1.cell 1 rfl; have d2 := x1.cell 2 rfl
  go_wp2_with fail
  refine (hwk _).mono ?_
  rintro e Vw ⟨rfl, hbw9⟩
  clear d0 d1 d2
  clear c0 c1
  replace hb := hb.trans (hbw9.mono hb.size)
  go_wp2
  go_ret
  exact ⟨rfl, hb⟩
set_option maxRecDepth 100000 in
set_option maxHeartbeats 8000000 in
theorem Week_near (ac : Option Addr) (cc : Nat) (cs : List Cl) (L : Int) (t gi cl : Int) (w : World) (hX : Clz w ac cs) (h40 : cs.length ≤ 40) : Calls Try.prog 3 #[.agg #[.slice ac cs.length cc, .int .i64 L], .agg #[.int .i64 t, .int .i64 gi, .int .i64 cl]] w fun e w' => e = .returned (.bool true) ∧ Below w.heap.size w w' := by
  obtain ⟨W, hW, hb, _, x0, x1⟩ := boxes2 w #[.slice ac cs.length cc, .int .i64 L] 24 #[.int .i64 t, .int .i64 gi, .int .i64 cl] 26
  have h0 := far_any ac cc cs.length L (by omega) W
  rw [decide_eq_false (by omega)] at h0
  have hwk := fun V => works_any V
  have hcp := fun V hh => Copy_any ac cc cs L V hh
  obtain ⟨ex, hk1, hk2⟩ := check_pair cs L
  obtain ⟨wa, wb, wc, we, hw1, hw2⟩ := week_pair cs L t
  obtain ⟨ga, gb, gc, ge, hg1, hg2⟩ := gift_pair cs L t gi
  obtain ⟨va, ve, hv1, hv2⟩ := gives_pair cs L t cl
  obtain ⟨ua, ue, hu1, hu2⟩ := without_pair cs L t cl
  have hsm := fun (a b : Option Addr) (ca cb : Nat) V h1 h2 => same_eq a b ca cb cs L V h1 h2
  have n1 : (ex != ex) = false := by simp
  have n2 : (we != we) = false := by simp
  have n3 : (ge != ge) = false := by simp
  have n4 : (ve == ve) = true := by simp
  have n5 : (ue == ue) = true := by simp
  have n6 : (va == va) = true := by simp
  have n7 : (ua == ua) = true := by simp
  have hX1 := hX.below hb (Nat.le_refl _)
  clear hX
  obtain ⟨nn, hnn⟩ : ∃ nn, nn = cs.length := ⟨_, rfl⟩
  rw [← hnn] at h0 hcp hk1 hk2 hw1 hw2 hg1 hg2 hv1 hv2 hu1 hu2 hsm x0 hW h40 ⊢
  clear hnn
  have c0 := x0.cell 0 rfl; have c1 := x0.cell 1 rfl
  have d0 := x1.cell 0 rfl; have d1 := x1.cell 1 rfl; have d2 := x1.cell 2 rfl
  go_enter Try.func3, Try.ntmps3
  go_wp2_with fail
  refine (h0).mono ?_
  rintro e Vc3 ⟨rfl, hb1⟩
  clear d0 d1 d2
  clear c0 c1
  replace x0 := x0.below hb1
  replace x1 := x1.below hb1
  replace hX1 := hX1.below hb1 (Nat.le_refl _)
  replace hb := hb.trans (hb1.mono hb.size)
  clear hb1 h0 hW
  have c0 := x0.cell 0 rfl; have c1 := x0.cell 1 rfl
  have d0 := x1.cell 0 rfl; have d1 := x1.cell 1 rfl; have d2 := x1.cell 2 rfl
  go_wp2_with fail
  refine (hcp _ hX1).mono ?_
  rintro e Vc4 ⟨a5, c5, rfl, hC, hcap, hb1⟩
  clear d0 d1 d2
  clear c0 c1
  replace x0 := x0.below hb1
  replace x1 := x1.below hb1
  replace hX1 := hX1.below hb1 (Nat.le_refl _)
  replace hb := hb.trans (hb1.mono hb.size)
  clear hb1 hcp
  have c0 := x0.cell 0 rfl; have c1 := x0.cell 1 rfl
  have d0 := x1.cell 0 rfl; have d1 := x1.cell 1 rfl; have d2 := x1.cell 2 rfl
  have hba := below_one (w := Vc4) (.cells #[.slice a5 nn c5, .int .i64 L] 24)
  have HXa := hid (And.intro (x0.below hba) (And.intro (x1.below hba) (And.intro (hX1.below hba (Nat.le_refl _)) (And.intro (hC.below hba (Nat.le_refl _)) (And.intro (hb.trans (hba.mono hb.size)) (Bx.new Vc4 #[.slice a5 nn c5, .int .i64 L] 24))))))
  clear hba hb x0 x1 hX1 hC
  go_upto_region 4 with fail
  clear d0 d1 d2
  clear c0 c1
  obtain ⟨x0, x1, hX1, hC, hb, x5⟩ := HXa.out
  clear HXa
  generalize Vc4.heap.size = sa_x5 at *
  generalize World.alloc _ _ = Va_x5 at *
  have d0 := x1.cell 0 rfl; have d1 := x1.cell 1 rfl; have d2 := x1.cell 2 rfl
  have c0 := x0.cell 0 rfl; have c1 := x0.cell 1 rfl
  clear c0 c1 d0 d1 d2
  obtain ⟨Vq, hVq⟩ : ∃ V, V = Va_x5 := ⟨_, rfl⟩
  rw [← hVq] at x0 x1 x5 hX1 hC hb ⊢
  clear hVq
  have y0 := x0.ext 0 rfl; have y1 := x0.ext 1 rfl
  have z0 := x5.ext 0 rfl; have z1 := x5.ext 1 rfl
  have hk1' := fun (q : Ext Vq) => hk1 a5 c5 q.w (hC.below q.below (Nat.le_refl _))
  have hk2' := fun (q : Ext Vq) => hk2 ac cc q.w (hX1.below q.below (Nat.le_refl _))
  clear hk1 hk2
  refine wp_region_ext_lit (by kernel_rfl) (by kernel_rfl) ?_
  repeat (quiet_step (first | (go_at_call 17; exact quiet_ext (hk1' _)) | (go_at_call 18; exact quiet_ext (hk2' _))))
  refine wpQuiet_nil ?_
  intro _ hw'
  obtain ⟨tt, rfl⟩ := hw'
  have hbt := tt.below
  clear y0 y1 z0 z1 hk1' hk2' 
  replace x0 := x0.below hbt
  replace x1 := x1.below hbt
  replace x5 := x5.below hbt
  replace hX1 := hX1.below hbt (Nat.le_refl _)
  replace hC := hC.below hbt (Nat.le_refl _)
  replace hb := hb.trans (hbt.mono hb.size)
  clear hbt
  generalize tt.w = Vt at *
  have k0 := x5.cell 0 rfl; have k1 := x5.cell 1 rfl
  have d0 := x1.cell 0 rfl; have d1 := x1.cell 1 rfl; have d2 := x1.cell 2 rfl
  go_wp2_with fail
  refine (hw1 a5 c5 _ hC).mono ?_
  rintro e Vc6 ⟨rfl, hb1⟩
  clear k0 k1
  clear d0 d1 d2
  replace x0 := x0.below hb1
  replace x1 := x1.below hb1
  replace x5 := x5.below hb1
  replace hX1 := hX1.below hb1 (Nat.le_refl _)
  replace hC := hC.below hb1 (Nat.le_refl _)
  replace hb := hb.trans (hb1.mono hb.size)
  clear hb1 hw1
  have d0 := x1.cell 0 rfl; have d1 := x1.cell 1 rfl; have d2 := x1.cell 2 rfl
  have k0 := x5.cell 0 rfl; have k1 := x5.cell 1 rfl
  have hba := below_one (w := Vc6) (.cells #[.int .i64 wa, .int .i64 wb, .int .i64 wc] 33)
  have HXa := hid (And.intro (x0.below hba) (And.intro (x1.below hba) (And.intro (x5.below hba) (And.intro (hX1.below hba (Nat.le_refl _)) (And.intro (hC.below hba (Nat.le_refl _)) (And.intro (hb.trans (hba.mono hb.size)) (Bx.new Vc6 #[.int .i64 wa, .int .i64 wb, .int .i64 wc] 33)))))))
  clear hba hb x0 x1 x5 hX1 hC
  go_upto_region 7 with fail
  clear k0 k1
  clear d0 d1 d2
  obtain ⟨x0, x1, x5, hX1, hC, hb, x6⟩ := HXa.out
  clear HXa
  generalize Vc6.heap.size = sa_x6 at *
  generalize World.alloc _ _ = Va_x6 at *
  have k0 := x5.cell 0 rfl; have k1 := x5.cell 1 rfl
  have d0 := x1.cell 0 rfl; have d1 := x1.cell 1 rfl; have d2 := x1.cell 2 rfl
  have c0 := x0.cell 0 rfl; have c1 := x0.cell 1 rfl
  go_wp2_with fail
  refine (hw2 ac cc _ hX1).mono ?_
  rintro e Vc8 ⟨rfl, hb1⟩
  clear k0 k1
  clear c0 c1
  clear d0 d1 d2
  replace x0 := x0.below hb1
  replace x1 := x1.below hb1
  replace x5 := x5.below hb1
  replace x6 := x6.below hb1
  replace hX1 := hX1.below hb1 (Nat.le_refl _)
  replace hC := hC.below hb1 (Nat.le_refl _)
  replace hb := hb.trans (hb1.mono hb.size)
  clear hb1 hw2
  have c0 := x0.cell 0 rfl; have c1 := x0.cell 1 rfl
  have d0 := x1.cell 0 rfl; have d1 := x1.cell 1 rfl; have d2 := x1.cell 2 rfl
  have k0 := x5.cell 0 rfl; have k1 := x5.cell 1 rfl
  have hba := below_one (w := Vc8) (.cells #[.int .i64 wa, .int .i64 wb, .int .i64 wc] 33)
  have HXa := hid (And.intro (x0.below hba) (And.intro (x1.below hba) (And.intro (x5.below hba) (And.intro (x6.below hba) (And.intro (hX1.below hba (Nat.le_refl _)) (And.intro (hC.below hba (Nat.le_refl _)) (And.intro (hb.trans (hba.mono hb.size)) (Bx.new Vc8 #[.int .i64 wa, .int .i64 wb, .int .i64 wc] 33))))))))
  clear hba hb x0 x1 x5 x6 hX1 hC
  go_upto_region 8 with fail
  clear k0 k1
  clear c0 c1
  clear d0 d1 d2
  obtain ⟨x0, x1, x5, x6, hX1, hC, hb, x8⟩ := HXa.out
  clear HXa
  generalize Vc8.heap.size = sa_x8 at *
  generalize World.alloc _ _ = Va_x8 at *
  have k0 := x5.cell 0 rfl; have k1 := x5.cell 1 rfl
  have c0 := x0.cell 0 rfl; have c1 := x0.cell 1 rfl
  have d0 := x1.cell 0 rfl; have d1 := x1.cell 1 rfl; have d2 := x1.cell 2 rfl
  go_wp2_with fail
  refine (hg1 a5 c5 _ hC).mono ?_
  rintro e Vc10 ⟨rfl, hb1⟩
  clear k0 k1
  clear c0 c1
  clear d0 d1 d2
  replace x0 := x0.below hb1
  replace x1 := x1.below hb1
  replace x5 := x5.below hb1
  replace x6 := x6.below hb1
  replace x8 := x8.below hb1
  replace hX1 := hX1.below hb1 (Nat.le_refl _)
  replace hC := hC.below hb1 (Nat.le_refl _)
  replace hb := hb.trans (hb1.mono hb.size)
  clear hb1 hg1
  have c0 := x0.cell 0 rfl; have c1 := x0.cell 1 rfl
  have d0 := x1.cell 0 rfl; have d1 := x1.cell 1 rfl; have d2 := x1.cell 2 rfl
  have k0 := x5.cell 0 rfl; have k1 := x5.cell 1 rfl
  have hba := below_one (w := Vc10) (.cells #[.int .i64 ga, .int .i64 gb, .int .i64 gc] 33)
  have HXa := hid (And.intro (x0.below hba) (And.intro (x1.below hba) (And.intro (x5.below hba) (And.intro (x6.below hba) (And.intro (x8.below hba) (And.intro (hX1.below hba (Nat.le_refl _)) (And.intro (hC.below hba (Nat.le_refl _)) (And.intro (hb.trans (hba.mono hb.size)) (Bx.new Vc10 #[.int .i64 ga, .int .i64 gb, .int .i64 gc] 33)))))))))
  clear hba hb x0 x1 x5 x6 x8 hX1 hC
  go_upto_region 9 with fail
  clear k0 k1
  clear c0 c1
  clear d0 d1 d2
  obtain ⟨x0, x1, x5, x6, x8, hX1, hC, hb, x10⟩ := HXa.out
  clear HXa
  generalize Vc10.heap.size = sa_x10 at *
  generalize World.alloc _ _ = Va_x10 at *
  have k0 := x5.cell 0 rfl; have k1 := x5.cell 1 rfl
  have c0 := x0.cell 0 rfl; have c1 := x0.cell 1 rfl
  have d0 := x1.cell 0 rfl; have d1 := x1.cell 1 rfl; have d2 := x1.cell 2 rfl
  go_wp2_with fail
  refine (hg2 ac cc _ hX1).mono ?_
  rintro e Vc12 ⟨rfl, hb1⟩
  clear k0 k1
  clear c0 c1
  clear d0 d1 d2
  replace x0 := x0.below hb1
  replace x1 := x1.below hb1
  replace x5 := x5.below hb1
  replace x6 := x6.below hb1
  replace x8 := x8.below hb1
  replace x10 := x10.below hb1
  replace hX1 := hX1.below hb1 (Nat.le_refl _)
  replace hC := hC.below hb1 (Nat.le_refl _)
  replace hb := hb.trans (hb1.mono hb.size)
  clear hb1 hg2
  have c0 := x0.cell 0 rfl; have c1 := x0.cell 1 rfl
  have d0 := x1.cell 0 rfl; have d1 := x1.cell 1 rfl; have d2 := x1.cell 2 rfl
  have k0 := x5.cell 0 rfl; have k1 := x5.cell 1 rfl
  have hba := below_one (w := Vc12) (.cells #[.int .i64 ga, .int .i64 gb, .int .i64 gc] 33)
  have HXa := hid (And.intro (x0.below hba) (And.intro (x1.below hba) (And.intro (x5.below hba) (And.intro (x6.below hba) (And.intro (x8.below hba) (And.intro (x10.below hba) (And.intro (hX1.below hba (Nat.le_refl _)) (And.intro (hC.below hba (Nat.le_refl _)) (And.intro (hb.trans (hba.mono hb.size)) (Bx.new Vc12 #[.int .i64 ga, .int .i64 gb, .int .i64 gc] 33))))))))))
  clear hba hb x0 x1 x5 x6 x8 x10 hX1 hC
  go_upto_region 10 with fail
  clear k0 k1
  clear c0 c1
  clear d0 d1 d2
  obtain ⟨x0, x1, x5, x6, x8, x10, hX1, hC, hb, x12⟩ := HXa.out
  clear HXa
  generalize Vc12.heap.size = sa_x12 at *
  generalize World.alloc _ _ = Va_x12 at *
  have k0 := x5.cell 0 rfl; have k1 := x5.cell 1 rfl
  have c0 := x0.cell 0 rfl; have c1 := x0.cell 1 rfl
  have d0 := x1.cell 0 rfl; have d1 := x1.cell 1 rfl; have d2 := x1.cell 2 rfl
  have p0 := x6.cell 0 rfl; have p1 := x6.cell 1 rfl; have p2 := x6.cell 2 rfl
  have q0 := x8.cell 0 rfl; have q1 := x8.cell 1 rfl; have q2 := x8.cell 2 rfl
  have r0 := x10.cell 0 rfl; have r1 := x10.cell 1 rfl; have r2 := x10.cell 2 rfl
  have s0 := x12.cell 0 rfl; have s1 := x12.cell 1 rfl; have s2 := x12.cell 2 rfl
  go_upto_region 12 with fail
  clear p0 p1 p2
  clear x6
  clear q0 q1 q2
  clear x8
  clear r0 r1 r2
  clear x10
  clear s0 s1 s2
  clear x12
  go_wp2_with fail
  refine (hv1 a5 c5 _ hcap hC).mono ?_
  rintro e Vc14 ⟨rfl, hb1⟩
  clear c0 c1
  clear d0 d1 d2
  clear k0 k1
  replace x0 := x0.below hb1
  replace x1 := x1.below hb1
  replace x5 := x5.below hb1
  replace hX1 := hX1.below hb1 (Nat.le_refl _)
  replace hC := hC.below hb1 (Nat.le_refl _)
  replace hb := hb.trans (hb1.mono hb.size)
  clear hb1 hv1
  have c0 := x0.cell 0 rfl; have c1 := x0.cell 1 rfl
  have d0 := x1.cell 0 rfl; have d1 := x1.cell 1 rfl; have d2 := x1.cell 2 rfl
  have k0 := x5.cell 0 rfl; have k1 := x5.cell 1 rfl
  go_wp2_with fail
  refine (hv2 ac cc _ hX1).mono ?_
  rintro e Vc15 ⟨rfl, hb1⟩
  clear c0 c1
  clear d0 d1 d2
  clear k0 k1
  replace x0 := x0.below hb1
  replace x1 := x1.below hb1
  replace x5 := x5.below hb1
  replace hX1 := hX1.below hb1 (Nat.le_refl _)
  replace hC := hC.below hb1 (Nat.le_refl _)
  replace hb := hb.trans (hb1.mono hb.size)
  clear hb1 hv2
  have c0 := x0.cell 0 rfl; have c1 := x0.cell 1 rfl
  have d0 := x1.cell 0 rfl; have d1 := x1.cell 1 rfl; have d2 := x1.cell 2 rfl
  have k0 := x5.cell 0 rfl; have k1 := x5.cell 1 rfl
  go_wp2_with fail
  refine (hu1 a5 c5 _ hcap hC).mono ?_
  rintro e Vc16 ⟨rfl, hb1⟩
  clear c0 c1
  clear d0 d1 d2
  clear k0 k1
  replace x0 := x0.below hb1
  replace x1 := x1.below hb1
  replace x5 := x5.below hb1
  replace hX1 := hX1.below hb1 (Nat.le_refl _)
  replace hC := hC.below hb1 (Nat.le_refl _)
  replace hb := hb.trans (hb1.mono hb.size)
  clear hb1 hu1
  have c0 := x0.cell 0 rfl; have c1 := x0.cell 1 rfl
  have d0 := x1.cell 0 rfl; have d1 := x1.cell 1 rfl; have d2 := x1.cell 2 rfl
  have k0 := x5.cell 0 rfl; have k1 := x5.cell 1 rfl
  go_wp2_with fail
  refine (hu2 ac cc _ hX1).mono ?_
  rintro e Vc17 ⟨rfl, hb1⟩
  clear c0 c1
  clear d0 d1 d2
  clear k0 k1
  replace x0 := x0.below hb1
  replace x1 := x1.below hb1
  replace x5 := x5.below hb1
  replace hX1 := hX1.below hb1 (Nat.le_refl _)
  replace hC := hC.below hb1 (Nat.le_refl _)
  replace hb := hb.trans (hb1.mono hb.size)
  clear hb1 hu2
  have c0 := x0.cell 0 rfl; have c1 := x0.cell 1 rfl
  have d0 := x1.cell 0 rfl; have d1 := x1.cell 1 rfl; have d2 := x1.cell 2 rfl
  have k0 := x5.cell 0 rfl; have k1 := x5.cell 1 rfl
  go_wp2_with fail
  refine (hsm a5 ac c5 cc _ hC hX1).mono ?_
  rintro e Vc18 ⟨rfl, hb1⟩
  clear c0 c1
  clear d0 d1 d2
  clear k0 k1
  replace x0 := x0.below hb1
  replace x1 := x1.below hb1
  replace x5 := x5.below hb1
  replace hX1 := hX1.below hb1 (Nat.le_refl _)
  replace hC := hC.below hb1 (Nat.le_refl _)
  replace hb := hb.trans (hb1.mono hb.size)
  clear hb1 hsm
  have c0 := x0.cell 0 rfl; have c1 := x0.cell 1 rfl
  have d0 := x1.cell 0 rfl; have d1 := x1.cell 1 rfl; have d2 := x1.cell 2 rfl
  have k0 := x5.cell 0 rfl; have k1 := x5.cell 1 rfl
  go_wp2_with fail
  refine (hwk _).mono ?_
  rintro e Vw ⟨rfl, hbw9⟩
  clear c0 c1
  clear d0 d1 d2
  clear k0 k1
  replace hb := hb.trans (hbw9.mono hb.size)
  go_wp2
  go_ret
  exact ⟨rfl, hb⟩
theorem sharesWeek_any (ac : Option Addr) (cc : Nat) (cs : List Cl) (L : Int) (t gi cl : Int) (w : World) (hS : ShIn w ac cc cs) : Calls Try.prog 3 #[.agg #[.slice ac cs.length cc, .int .i64 L], .agg #[.int .i64 t, .int .i64 gi, .int .i64 cl]] w fun e w' => e = .returned (.bool true) ∧ Below w.heap.size w w' := by
  rcases Nat.lt_or_ge 40 cs.length with h | h
  · exact Week_far ac cc cs L t gi cl w hS.l h
  · exact Week_near ac cc cs L t gi cl w (hS.cl (by omega)) h
end Go.Proofs.Ythgjjlkdekfdbaa
