import Derived.Test.YthgjjlkdekfdbaaRA
import Derived.Test.YthgjjlkdekfdbaaT22
/-! SharesOrder. -/
namespace Go.Proofs.Ythgjjlkdekfdbaa
set_option linter.unusedSimpArgs false
set_option linter.unusedVariables false
open Go Go.RowKit

theorem ordC_sh {cs : List Cl} {L : Int} {os : List Int} (hs : shB cs L = true) (ho : isO cs.length os = true) : shB (ordC cs os) L = true := by
  have hr := isO_rng ho
  have hl := (isO_iff.1 ho).2
  unfold shB at hs ⊢
  simp only [Bool.and_eq_true, decide_eq_true_eq, List.all_eq_true] at hs ⊢
  refine ⟨⟨by simp only [ordC, List.length_map]; omega, fun x hx => ?_⟩, hs.2⟩
  simp only [ordC, List.mem_map] at hx
  obtain ⟨i, hi, rfl⟩ := hx
  have := hr i hi
  rw [List.getD_eq_getElem?_getD, List.getElem?_eq_getElem (show i.toNat < cs.length by omega)]
  exact hs.1.2 _ (by simp)

set_option maxRecDepth 100000 in
set_option maxHeartbeats 6000000 in
theorem Order_bad (ac : Option Addr) (cc : Nat) (cs : List Cl) (L : Int) (t : Int) (ao : Option Addr) (co : Nat) (os : List Int) (w : World) (hS : ShIn w ac cc cs) (hO : Ints w ao os) (hbad : (shB cs L && cenB t && decide (os.length ≤ 40) && isO cs.length os) = false) : Calls Try.prog 11 #[.agg #[.slice ac cs.length cc, .int .i64 L], .int .i64 t, .slice ao os.length co] w fun e w' => e = .returned (.bool true) ∧ Below w.heap.size w w' := by
  obtain ⟨W, hW, hb, _, x0⟩ := boxes1 w #[.slice ac cs.length cc, .int .i64 L] 24
  have hS1 := hS.below hb (Nat.le_refl _)
  have h0 := isShare_any ac cc cs L W hS1.l hS1.cl
  have h1 := fun V => IsCents_any t V
  have h2 := fun hl V hh => IsOrder_any ac cc cs L ao co os V hl hh
  have h5 : shB cs L = true → cs.length ≤ 1000 := fun h => by have := (shB_ok h).1; omega
  have hwk := fun V => works_any V
  have hO1 := hO.below hb (Nat.le_refl _)
  have lo := hO.len
  clear hS hS1 hO
  generalize isO cs.length os = d at *
  generalize shB cs L = r at *
  generalize cenB t = a at *
  obtain ⟨m, hm⟩ : ∃ m, m = os.length := ⟨_, rfl⟩
  rw [← hm] at hbad h2 lo ⊢
  clear hm
  have c0 := x0.cell 0 rfl; have c1 := x0.cell 1 rfl
  go_enter Try.func11, Try.ntmps11
  cases r
  · clear hbad h2 h5
    go_wp2_with fail
    refine (h0).mono ?_
    rintro e Vc1 ⟨rfl, hb1⟩
    clear c0 c1
    replace x0 := x0.below hb1
    replace hO1 := hO1.below hb1 (Nat.le_refl _)
    replace hb := hb.trans (hb1.mono hb.size)
    clear hb1
    have c0 := x0.cell 0 rfl; have c1 := x0.cell 1 rfl
    go_wp2_with fail
    refine (hwk _).mono ?_
    rintro e Vw ⟨rfl, hbw9⟩
    clear c0 c1
    replace hb := hb.trans (hbw9.mono hb.size)
    go_wp2
    go_ret
    exact ⟨rfl, hb⟩
  · cases a
    · clear hbad h2 h5
      go_wp2_with fail
      refine (h0).mono ?_
      rintro e Vc3 ⟨rfl, hb1⟩
      clear c0 c1
      replace x0 := x0.below hb1
      replace hO1 := hO1.below hb1 (Nat.le_refl _)
      replace hb := hb.trans (hb1.mono hb.size)
      clear hb1
      have c0 := x0.cell 0 rfl; have c1 := x0.cell 1 rfl
      go_wp2_with fail
      refine (h1 _).mono ?_
      rintro e Vc4 ⟨rfl, rfl⟩
      go_wp2_with fail
      refine (hwk _).mono ?_
      rintro e Vw ⟨rfl, hbw9⟩
      clear c0 c1
      replace hb := hb.trans (hbw9.mono hb.size)
      go_wp2
      go_ret
      exact ⟨rfl, hb⟩
    · have h2' := h2 (h5 rfl)
      by_cases h40 : m ≤ 40
      · have h40I : (m : Int) ≤ 40 := by omega
        obtain rfl : d = false := by simpa [h40] using hbad
        clear hbad h2 h5 h40
        go_wp2_with fail
        refine (h0).mono ?_
        rintro e Vc6 ⟨rfl, hb1⟩
        clear c0 c1
        replace x0 := x0.below hb1
        replace hO1 := hO1.below hb1 (Nat.le_refl _)
        replace hb := hb.trans (hb1.mono hb.size)
        clear hb1
        have c0 := x0.cell 0 rfl; have c1 := x0.cell 1 rfl
        go_wp2_with fail
        refine (h1 _).mono ?_
        rintro e Vc7 ⟨rfl, rfl⟩
        go_wp2_with fail
        refine (h2' _ hO1).mono ?_
        rintro e Vc8 ⟨rfl, hb1⟩
        clear c0 c1
        replace x0 := x0.below hb1
        replace hO1 := hO1.below hb1 (Nat.le_refl _)
        replace hb := hb.trans (hb1.mono hb.size)
        clear hb1
        have c0 := x0.cell 0 rfl; have c1 := x0.cell 1 rfl
        go_wp2_with fail
        refine (hwk _).mono ?_
        rintro e Vw ⟨rfl, hbw9⟩
        clear c0 c1
        replace hb := hb.trans (hbw9.mono hb.size)
        go_wp2
        go_ret
        exact ⟨rfl, hb⟩
      · have h40I : (40 : Int) < (m : Int) := by omega
        clear hbad h2 h2' h5 h40
        go_wp2_with fail
        refine (h0).mono ?_
        rintro e Vc10 ⟨rfl, hb1⟩
        clear c0 c1
        replace x0 := x0.below hb1
        replace hO1 := hO1.below hb1 (Nat.le_refl _)
        replace hb := hb.trans (hb1.mono hb.size)
        clear hb1
        have c0 := x0.cell 0 rfl; have c1 := x0.cell 1 rfl
        go_wp2_with fail
        refine (h1 _).mono ?_
        rintro e Vc11 ⟨rfl, rfl⟩
        go_wp2_with fail
        refine (hwk _).mono ?_
        rintro e Vw ⟨rfl, hbw9⟩
        clear c0 c1
        replace hb := hb.trans (hbw9.mono hb.size)
        go_wp2
        go_ret
        exact ⟨rfl, hb⟩
set_option maxRecDepth 100000 in
set_option maxHeartbeats 6000000 in
theorem Order_ok (ac : Option Addr) (cc : Nat) (cs : List Cl) (L : Int) (t : Int) (ao : Option Addr) (co : Nat) (os : List Int) (w : World) (hX : Clz w ac cs) (hO : Ints w ao os) (hs : shB cs L = true) (ht : cenB t = true) (hi : isO cs.length os = true) : Calls Try.prog 11 #[.agg #[.slice ac cs.length cc, .int .i64 L], .int .i64 t, .slice ao os.length co] w fun e w' => e = .returned (.bool true) ∧ Below w.heap.size w w' := by
  obtain ⟨W, hW, hb, _, x0⟩ := boxes1 w #[.slice ac cs.length cc, .int .i64 L] 24
  have hle := hX.len
  have h0 := isShare_any ac cc cs L W (by omega) (fun _ => hX.below hb (Nat.le_refl _))
  rw [hs] at h0
  have h1 := fun V => IsCents_any t V
  rw [ht] at h1
  have h2 := fun V hh => IsOrder_any ac cc cs L ao co os V hle hh
  rw [hi] at h2
  have hwk := fun V => works_any V
  have ho := Ok.of hs ht
  have h5 := (shB_ok hs).1
  obtain ⟨hbi, hbf⟩ := bestO_facts h5 ho
  obtain ⟨bo, hbo⟩ : ∃ bo, bo = bestO L cs t := ⟨_, rfl⟩
  rw [← hbo] at hbi hbf
  obtain ⟨f1, f2⟩ := hbf os hi
  have hbe := fun (V : World) hh => Best_ok ac cc cs L t V hh hs ht bo hbo
  have h3 := fun (a : Option Addr) (c : Nat) V hh => IsOrder_any ac cc cs L a c bo V hle hh
  rw [hbi] at h3
  have hlo := (isO_iff.1 hi).2
  have hlb := (isO_iff.1 hbi).2
  have hoo := fun V hh hh2 => refOrdered_any ac cc cs L ao co os (by omega) (isO_rng hi) V hh hh2
  have hob := fun (a : Option Addr) (c : Nat) V hh hh2 => refOrdered_any ac cc cs L a c bo (by omega) (isO_rng hbi) V hh hh2
  obtain ⟨u, hu⟩ : ∃ u, u = settledW L (ordC cs os) t := ⟨_, rfl⟩
  obtain ⟨v, hv⟩ : ∃ v, v = settledW L (ordC cs bo) t := ⟨_, rfl⟩
  have hwa := fun (a : Option Addr) (c : Nat) V hh => Week_ok a c (ordC cs os) L t V hh (ordC_sh hs hi) ht u hu
  have hwb := fun (a : Option Addr) (c : Nat) V hh => Week_ok a c (ordC cs bo) L t V hh (ordC_sh hs hbi) ht v hv
  have hle1 : u.ow ≤ v.ow := by rw [hu, hv]; exact f1
  have hlex : u.ow = v.ow → os = bo ∨ lexlt bo os := fun e => f2 (by rw [hu, hv] at e; exact e)
  have hX1 := hX.below hb (Nat.le_refl _)
  have hO1 := hO.below hb (Nat.le_refl _)
  obtain ⟨q1, hq1⟩ : ∃ q, q = (ordC cs os).length := ⟨_, rfl⟩
  obtain ⟨q2, hq2⟩ : ∃ q, q = (ordC cs bo).length := ⟨_, rfl⟩
  rw [← hq1] at hoo hwa
  rw [← hq2] at hob hwb
  rw [hlo] at h2 hoo ⊢
  rw [hlb] at hbe h3 hob
  have HLB := hid hlb; have HLO := hid hlo
  obtain ⟨nn, hnn⟩ : ∃ nn, nn = cs.length := ⟨_, rfl⟩
  rw [← hnn] at h0 h2 hbe h3 hoo hob x0 hW h5 HLB HLO ⊢
  have h5I : (nn : Int) ≤ 5 := by omega
  clear hs ht hi hX hO hle ho hbi hbf f1 f2 hbo hlo hlb hu hv hq1 hq2 hnn
  have c0 := x0.cell 0 rfl; have c1 := x0.cell 1 rfl
  go_enter Try.func11, Try.ntmps11
  go_wp2_with fail
  refine (h0).mono ?_
  rintro e Vc13 ⟨rfl, hb1⟩
  clear c0 c1
  replace x0 := x0.below hb1
  replace hX1 := hX1.below hb1 (Nat.le_refl _)
  replace hO1 := hO1.below hb1 (Nat.le_refl _)
  replace hb := hb.trans (hb1.mono hb.size)
  clear hb1 h0 hW
  have c0 := x0.cell 0 rfl; have c1 := x0.cell 1 rfl
  go_wp2_with fail
  refine (h1 _).mono ?_
  rintro e Vc14 ⟨rfl, rfl⟩
  clear h1
  go_wp2_with fail
  refine (h2 _ hO1).mono ?_
  rintro e Vc15 ⟨rfl, hb1⟩
  clear c0 c1
  replace x0 := x0.below hb1
  replace hX1 := hX1.below hb1 (Nat.le_refl _)
  replace hO1 := hO1.below hb1 (Nat.le_refl _)
  replace hb := hb.trans (hb1.mono hb.size)
  clear hb1 h2
  have c0 := x0.cell 0 rfl; have c1 := x0.cell 1 rfl
  go_wp2_with fail
  refine (hbe _ hX1).mono ?_
  rintro e Vc16 ⟨ab, cb, rfl, hBo, hb1⟩
  clear c0 c1
  replace x0 := x0.below hb1
  replace hX1 := hX1.below hb1 (Nat.le_refl _)
  replace hO1 := hO1.below hb1 (Nat.le_refl _)
  replace hb := hb.trans (hb1.mono hb.size)
  clear hb1 hbe
  have c0 := x0.cell 0 rfl; have c1 := x0.cell 1 rfl
  go_wp2_with fail
  refine (h3 ab cb _ hBo).mono ?_
  rintro e Vc17 ⟨rfl, hb1⟩
  clear c0 c1
  replace x0 := x0.below hb1
  replace hX1 := hX1.below hb1 (Nat.le_refl _)
  replace hO1 := hO1.below hb1 (Nat.le_refl _)
  replace hBo := hBo.below hb1 (Nat.le_refl _)
  replace hb := hb.trans (hb1.mono hb.size)
  clear hb1 h3
  have c0 := x0.cell 0 rfl; have c1 := x0.cell 1 rfl
  go_wp2_with fail
  refine (hoo _ hX1 hO1).mono ?_
  rintro e Vc18 ⟨a9, c9, rfl, hX9, hb1⟩
  clear c0 c1
  replace x0 := x0.below hb1
  replace hX1 := hX1.below hb1 (Nat.le_refl _)
  replace hO1 := hO1.below hb1 (Nat.le_refl _)
  replace hBo := hBo.below hb1 (Nat.le_refl _)
  replace hb := hb.trans (hb1.mono hb.size)
  clear hb1 hoo
  have c0 := x0.cell 0 rfl; have c1 := x0.cell 1 rfl
  go_wp2_with fail
  refine (hwa a9 c9 _ hX9).mono ?_
  rintro e Vc19 ⟨rfl, hb1⟩
  clear c0 c1
  replace x0 := x0.below hb1
  replace hX1 := hX1.below hb1 (Nat.le_refl _)
  replace hO1 := hO1.below hb1 (Nat.le_refl _)
  replace hBo := hBo.below hb1 (Nat.le_refl _)
  replace hX9 := hX9.below hb1 (Nat.le_refl _)
  replace hb := hb.trans (hb1.mono hb.size)
  clear hb1 hwa hX9
  have c0 := x0.cell 0 rfl; have c1 := x0.cell 1 rfl
  have hba := below_one (w := Vc19) (.cells #[.int .i64 u.op, .int .i64 u.ow, .int .i64 u.rp] 33)
  have HXa := hid (And.intro (x0.below hba) (And.intro (hX1.below hba (Nat.le_refl _)) (And.intro (hO1.below hba (Nat.le_refl _)) (And.intro (hBo.below hba (Nat.le_refl _)) (And.intro (hb.trans (hba.mono hb.size)) (Bx.new Vc19 #[.int .i64 u.op, .int .i64 u.ow, .int .i64 u.rp] 33))))))
  clear hba hb x0 hX1 hO1 hBo
  go_upto_region 7 with fail
  clear c0 c1
  obtain ⟨x0, hX1, hO1, hBo, hb, x1⟩ := HXa.out
  clear HXa
  generalize Vc19.heap.size = sa_x1 at *
  generalize World.alloc _ _ = Va_x1 at *
  have c0 := x0.cell 0 rfl; have c1 := x0.cell 1 rfl
  go_wp2_with fail
  refine (hob ab cb _ hX1 hBo).mono ?_
  rintro e Vc21 ⟨a8, c8, rfl, hX8, hb1⟩
  clear c0 c1
  replace x0 := x0.below hb1
  replace x1 := x1.below hb1
  replace hX1 := hX1.below hb1 (Nat.le_refl _)
  replace hO1 := hO1.below hb1 (Nat.le_refl _)
  replace hBo := hBo.below hb1 (Nat.le_refl _)
  replace hb := hb.trans (hb1.mono hb.size)
  clear hb1 hob hX1
  have c0 := x0.cell 0 rfl; have c1 := x0.cell 1 rfl
  go_wp2_with fail
  refine (hwb a8 c8 _ hX8).mono ?_
  rintro e Vc22 ⟨rfl, hb1⟩
  clear c0 c1
  replace x0 := x0.below hb1
  replace x1 := x1.below hb1
  replace hO1 := hO1.below hb1 (Nat.le_refl _)
  replace hBo := hBo.below hb1 (Nat.le_refl _)
  replace hX8 := hX8.below hb1 (Nat.le_refl _)
  replace hb := hb.trans (hb1.mono hb.size)
  clear hb1 hwb hX8
  have c0 := x0.cell 0 rfl; have c1 := x0.cell 1 rfl
  have hba := below_one (w := Vc22) (.cells #[.int .i64 v.op, .int .i64 v.ow, .int .i64 v.rp] 33)
  have HXa := hid (And.intro (x0.below hba) (And.intro (x1.below hba) (And.intro (hO1.below hba (Nat.le_refl _)) (And.intro (hBo.below hba (Nat.le_refl _)) (And.intro (hb.trans (hba.mono hb.size)) (Bx.new Vc22 #[.int .i64 v.op, .int .i64 v.ow, .int .i64 v.rp] 33))))))
  clear hba hb x0 x1 hO1 hBo
  go_upto_region 8 with fail
  clear c0 c1
  obtain ⟨x0, x1, hO1, hBo, hb, x2⟩ := HXa.out
  clear HXa
  generalize Vc22.heap.size = sa_x2 at *
  generalize World.alloc _ _ = Va_x2 at *
  have c0 := x0.cell 0 rfl; have c1 := x0.cell 1 rfl
  have d0 := x1.cell 0 rfl; have d1 := x1.cell 1 rfl; have d2 := x1.cell 2 rfl
  have m0 := x2.cell 0 rfl; have m1 := x2.cell 1 rfl; have m2 := x2.cell 2 rfl
  go_wp2
  clear c0 c1 d0 d1 d2 m0 m1 m2 x0
  obtain ⟨Vn, hVn⟩ : ∃ V, V = Va_x2 := ⟨_, rfl⟩
  rw [← hVn] at x1 x2 hO1 hBo hb ⊢
  clear hVn
  go_loopw [13] (fun v13 wr => ∃ k : Nat, k ≤ nn ∧ v13 = .int .i64 (k : Int) ∧ Hid (bo.take k = os.take k) ∧ Below Vn.heap.size Vn wr) (fun v13 _ => nn - (intOf v13).toNat)
  case atStart => exact ⟨0, Nat.zero_le _, rfl, hid rfl, Below.refl _ _⟩
  case round =>
    obtain ⟨k, hk, rfl, HK, hb1⟩ := hrel
    replace x1 := x1.below hb1; replace x2 := x2.below hb1
    replace hb := hb.trans (hb1.mono hb.size)
    have hOr := hO1.below hb1 (Nat.le_refl _)
    have hBr := hBo.below hb1 (Nat.le_refl _)
    have d0 := x1.cell 0 rfl; have d1 := x1.cell 1 rfl; have d2 := x1.cell 2 rfl
    have m0 := x2.cell 0 rfl; have m1 := x2.cell 1 rfl; have m2 := x2.cell 2 rfl
    by_cases hlt : k < nn
    · have hkI : (k : Int) < nn := by omega
      have hk0 : (0 : Int) ≤ (k : Int) := by omega
      by_cases heq : u.ow = v.ow
      · have hE : (u.ow == v.ow) = true := by simp [heq]
        obtain ⟨b1, o1, x, rfl, _, hc1, _, _, hg1, _⟩ := hBr.at (k := k) (by rw [HLB.out]; exact hlt)
        obtain ⟨b2, o2, y, rfl, _, hc2, _, _, hg2, _⟩ := hOr.at (k := k) (by rw [HLO.out]; exact hlt)
        have hxy := fun hne => lex_at (hlex heq) HK.out hg1.out hg2.out hne
        have htk : bo.take (k + 1) = bo.take k ++ [x] := by rw [List.take_add_one, hg1.out]; rfl
        have htk2 : os.take (k + 1) = os.take k ++ [y] := by rw [List.take_add_one, hg2.out]; rfl
        have u1 := Ext.cell hc1
        have u2 := Ext.cell hc2
        clear hlex heq hg1 hg2 hc1 hc2
        by_cases hne : x = y
        · have hxx : (x != y) = false := by simp [hne]
          have HK2 := hid (show bo.take (k + 1) = os.take (k + 1) by rw [htk, htk2, HK.out, hne])
          clear hne hxy htk htk2 HK
          go_upto_region 13 with fail
          refine wp_region_ext_lit (by kernel_rfl) (by kernel_rfl) ?_
          repeat (quiet_step (fail))
          refine wpQuiet_nil ?_
          intro _ hw'
          obtain ⟨tt, rfl⟩ := hw'
          have hb2 := hb1.trans (tt.below.mono hb1.size)
          clear d0 d1 d2 m0 m1 m2
          go_wp2
          go_roundw
          case rel => exact ⟨k + 1, by omega, by simp, HK2, hb2⟩
          case measure => simp [intOf]; omega
        · have hxx : (x != y) = true := by simp [hne]
          have hl := hxy hne
          clear hne hxy htk htk2 HK
          go_upto_region 13 with fail
          refine wp_region_ext_lit (by kernel_rfl) (by kernel_rfl) ?_
          repeat (quiet_step (fail))
          refine wpQuiet_nil ?_
          intro _ hw'
          obtain ⟨tt, rfl⟩ := hw'
          have hb2 := tt.below
          have p1 := u1 tt
          have p2 := u2 tt
          clear u1 u2 d0 d1 d2 m0 m1 m2
          have u1 := Ext.cell p1
          have u2 := Ext.cell p2
          clear p1 p2
          replace hb := hb.trans (hb2.mono hb.size)
          clear hb2
          have hw2 := fun (V : World) => works_any V
          generalize tt.w = Vt at *
          go_upto_region 14 with fail
          refine wp_region_ext_lit (by kernel_rfl) (by kernel_rfl) ?_
          repeat (quiet_step (first | (go_at_call 15; exact quiet_ext (hw2 _))))
          refine wpQuiet_nil ?_
          intro _ hw'
          obtain ⟨t2, rfl⟩ := hw'
          replace hb := hb.trans (t2.below.mono hb.size)
          go_wp2
          go_ret
          exact ⟨rfl, hb⟩
      · have hE : (u.ow == v.ow) = false := by simp [heq]
        clear heq hlex hOr hBr HK
        go_wp2_with fail
        refine (hwk _).mono ?_
        rintro e Vw ⟨rfl, hbw9⟩
        replace hb := hb.trans (hbw9.mono hb.size)
        clear d0 d1 d2 m0 m1 m2
        go_wp2
        go_ret
        exact ⟨rfl, hb⟩
    · have hkI : ¬ (k : Int) < nn := by omega
      clear hlex hOr hBr HK
      go_wp2_with fail
      refine (hwk _).mono ?_
      rintro e Vw ⟨rfl, hbw9⟩
      replace hb := hb.trans (hbw9.mono hb.size)
      clear d0 d1 d2 m0 m1 m2
      go_wp2
      go_ret
      exact ⟨rfl, hb⟩
theorem sharesOrder_any (ac : Option Addr) (cc : Nat) (cs : List Cl) (L : Int) (t : Int) (ao : Option Addr) (co : Nat) (os : List Int) (w : World) (hS : ShIn w ac cc cs) (hO : Ints w ao os) : Calls Try.prog 11 #[.agg #[.slice ac cs.length cc, .int .i64 L], .int .i64 t, .slice ao os.length co] w fun e w' => e = .returned (.bool true) ∧ Below w.heap.size w w' := by
  cases h : (shB cs L && cenB t && decide (os.length ≤ 40) && isO cs.length os)
  · exact Order_bad ac cc cs L t ao co os w hS hO h
  · simp only [Bool.and_eq_true] at h
    exact Order_ok ac cc cs L t ao co os w (hS.cl (by have := (shB_ok h.1.1.1).1; omega)) hO h.1.1.1 h.1.1.2 h.2
end Go.Proofs.Ythgjjlkdekfdbaa
