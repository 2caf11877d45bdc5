import Derived.Test.YtipdohpbilabiaaN1
import Derived.Test.YtipdohpbilabiaaN2
import Derived.Test.YtipdohpbilabiaaM5
import Derived.Test.YtipdohpbilabiaaVL
import Derived.Test.YtipdohpbilabiaaVJ
/-! The theorem of the fair plan. -/
namespace Go.Proofs.Ytipdohpbilabiaa
set_option linter.unusedSimpArgs false
set_option linter.unusedVariables false
open Go Go.RowKit

set_option maxRecDepth 100000 in
set_option maxHeartbeats 4000000 in
theorem FairN_bad (ab ast ae ak : Option Addr) (cb cs ce ck : Nat) (X : Sw) (ap : Option Addr) (cp np : Nat) (w : World) (hrd0 : ∀ V, Below w.heap.size w V → Calls Try.prog 44 #[.agg #[.slice ab X.bs.length cb, .slice ast X.st.length cs, .slice ae X.er.length ce, .slice ak X.ks.length ck, .int .i64 X.ch]] V fun e w' => e = .returned (.bool false) ∧ Below V.heap.size V w') : Calls Try.prog 10 #[.agg #[.slice ab X.bs.length cb, .slice ast X.st.length cs, .slice ae X.er.length ce, .slice ak X.ks.length ck, .int .i64 X.ch], .slice ap np cp] w fun e w' => e = .returned (.bool true) ∧ Below w.heap.size w w' := by
  obtain ⟨W, hWW, hb, _, x0⟩ := boxes1 w #[.slice ab X.bs.length cb, .slice ast X.st.length cs, .slice ae X.er.length ce, .slice ak X.ks.length ck, .int .i64 X.ch] 26
  have hrd := hrd0
  have hW := works_any
  have c0 := x0.cell 0 rfl; have c1 := x0.cell 1 rfl; have c2 := x0.cell 2 rfl; have c3 := x0.cell 3 rfl; have c4 := x0.cell 4 rfl
  clear hrd0
  go_enter Try.func10, Try.ntmps10
  go_wp2_with fail
  refine (hrd _ hb).mono ?_
  rintro e V1 ⟨rfl, hb1⟩
  replace hb := hb.trans (hb1.mono hb.size)
  replace x0 := x0.below hb1
  clear c0 c1 c2 c3 c4 hb1 hrd
  have c0 := x0.cell 0 rfl; have c1 := x0.cell 1 rfl; have c2 := x0.cell 2 rfl; have c3 := x0.cell 3 rfl; have c4 := x0.cell 4 rfl
  go_wp2_with fail
  refine (hW _).mono ?_
  rintro e Vw ⟨rfl, hb1⟩
  replace hb := hb.trans (hb1.mono hb.size)
  go_wp2
  go_ret
  exact ⟨rfl, hb⟩

set_option maxRecDepth 100000 in
set_option maxHeartbeats 8000000 in
theorem swapsFair_none (ab ast ae ak : Option Addr) (cb cs ce ck : Nat) (X : Sw) (ap : Option Addr) (cp np : Nat) (w : World) (hX : Swp w ab ast ae ak X) (hr : rdB X = true) (h0 : X.bs.length = 0) : Calls Try.prog 10 #[.agg #[.slice ab X.bs.length cb, .slice ast X.st.length cs, .slice ae X.er.length ce, .slice ak X.ks.length ck, .int .i64 X.ch], .slice ap np cp] w fun e w' => e = .returned (.bool true) ∧ Below w.heap.size w w' := by
  have hv := (rdB_iff hr).1
  have hok := vB_iff hv
  obtain ⟨W, hWW, hb, _, x0⟩ := boxes1 w #[.slice ab X.bs.length cb, .slice ast X.st.length cs, .slice ae X.er.length ce, .slice ak X.ks.length ck, .int .i64 X.ch] 26
  have hgX := fun V (h : Below w.heap.size w V) => hX.below h (Nat.le_refl _)
  have hrd := fun V h => ready_any ab ast ae ak cb cs ce ck X V (hgX V h)
  rw [hr] at hrd
  have hW := works_any
  have hk3 := isKnown_any 3
  rw [show (decide ((3 : Int) = 0) || decide ((3 : Int) = 3)) = true from rfl] at hk3
  have hbe0 := earn_le (vz_ok hok) (bestP X.vz)
  have hbe : ∀ V, Swp V ab ast ae ak X → Calls Try.prog 27 #[.agg #[.slice ab X.bs.length cb, .slice ast X.st.length cs, .slice ae X.er.length ce, .slice ak X.ks.length ck, .int .i64 X.ch]] V fun e w' => e = .returned (.tuple #[.int .i64 (earn X.vz (bestP X.vz)), .int .i64 0]) ∧ Below V.heap.size V w' := fun V h => Best_ok ab ast ae ak cb cs ce ck X V h hv
  have hfa : ∀ V, Swp V ab ast ae ak X → Calls Try.prog 31 #[.agg #[.slice ab X.bs.length cb, .slice ast X.st.length cs, .slice ae X.er.length ce, .slice ak X.ks.length ck, .int .i64 X.ch]] V fun e w' => e = .returned (.tuple #[.int .i64 0, .int .i64 3]) ∧ Below V.heap.size V w' := fun V h => FairNone_ok ab ast ae ak cb cs ce ck X V h hv h0
  generalize earn X.vz (bestP X.vz) = be at *
  have hnl : ((X.bs.length : Int) == 0) = true := by rw [h0]; rfl
  have hbe1 := hbe0.1
  have hwm : IntKind.i64.wrap (0 * (X.bs.length : Int)) = 0 := by rw [Int.zero_mul]; rfl
  have c0 := x0.cell 0 rfl; have c1 := x0.cell 1 rfl; have c2 := x0.cell 2 rfl; have c3 := x0.cell 3 rfl; have c4 := x0.cell 4 rfl
  clear hX hok hv hr h0 hbe0
  go_enter Try.func10, Try.ntmps10
  go_wp2_with fail
  refine (hrd _ hb).mono ?_
  rintro e V1 ⟨rfl, hb1⟩
  replace hb := hb.trans (hb1.mono hb.size)
  replace x0 := x0.below hb1
  clear c0 c1 c2 c3 c4 hb1 hrd
  have c0 := x0.cell 0 rfl; have c1 := x0.cell 1 rfl; have c2 := x0.cell 2 rfl; have c3 := x0.cell 3 rfl; have c4 := x0.cell 4 rfl
  go_wp2_with fail
  refine (hfa _ (hgX _ hb)).mono ?_
  rintro e Vn ⟨rfl, hb1⟩
  replace hb := hb.trans (hb1.mono hb.size)
  replace x0 := x0.below hb1
  clear hb1 c0 c1 c2 c3 c4
  have c0 := x0.cell 0 rfl; have c1 := x0.cell 1 rfl; have c2 := x0.cell 2 rfl; have c3 := x0.cell 3 rfl; have c4 := x0.cell 4 rfl
  go_wp2_with fail
  refine (hbe _ (hgX _ hb)).mono ?_
  rintro e Vn ⟨rfl, hb1⟩
  replace hb := hb.trans (hb1.mono hb.size)
  replace x0 := x0.below hb1
  clear hb1 c0 c1 c2 c3 c4
  have c0 := x0.cell 0 rfl; have c1 := x0.cell 1 rfl; have c2 := x0.cell 2 rfl; have c3 := x0.cell 3 rfl; have c4 := x0.cell 4 rfl
  go_wp2_with fail
  refine (hk3 _).mono ?_
  rintro e Vm ⟨rfl, rfl⟩
  go_wp2_with fail
  refine (hW _).mono ?_
  rintro e Vw ⟨rfl, hb1⟩
  replace hb := hb.trans (hb1.mono hb.size)
  go_wp2
  go_ret
  exact ⟨rfl, hb⟩

set_option maxRecDepth 100000 in
set_option maxHeartbeats 8000000 in
theorem swapsFair_any (ab ast ae ak : Option Addr) (cb cs ce ck : Nat) (X : Sw) (ap : Option Addr) (cp : Nat) (P : List (List Int)) (w : World) (hX : Swp w ab ast ae ak X) (hP : Lss w ap P) (hr : rdB X = true) (h0 : 1 ≤ X.bs.length) : Calls Try.prog 10 #[.agg #[.slice ab X.bs.length cb, .slice ast X.st.length cs, .slice ae X.er.length ce, .slice ak X.ks.length ck, .int .i64 X.ch], .slice ap P.length cp] w fun e w' => e = .returned (.bool true) ∧ Below w.heap.size w w' := by
  have hv := (rdB_iff hr).1
  have hok := vB_iff hv
  obtain ⟨W, hWW, hb, _, x0⟩ := boxes1 w #[.slice ab X.bs.length cb, .slice ast X.st.length cs, .slice ae X.er.length ce, .slice ak X.ks.length ck, .int .i64 X.ch] 26
  have hgX := fun V (h : Below w.heap.size w V) => hX.below h (Nat.le_refl _)
  have hgP := fun V (h : Below w.heap.size w V) => hP.below h (Nat.le_refl _)
  have hrd := fun V h => ready_any ab ast ae ak cb cs ce ck X V (hgX V h)
  rw [hr] at hrd
  have hW := works_any
  have hk0 := isKnown_any 0
  rw [show (decide ((0 : Int) = 0) || decide ((0 : Int) = 3)) = true from rfl] at hk0
  have hbe0 := earn_le (vz_ok hok) (bestP X.vz)
  have hbe : ∀ V, Swp V ab ast ae ak X → Calls Try.prog 27 #[.agg #[.slice ab X.bs.length cb, .slice ast X.st.length cs, .slice ae X.er.length ce, .slice ak X.ks.length ck, .int .i64 X.ch]] V fun e w' => e = .returned (.tuple #[.int .i64 (earn X.vz (bestP X.vz)), .int .i64 0]) ∧ Below V.heap.size V w' := fun V h => Best_ok ab ast ae ak cb cs ce ck X V h hv
  have hfa : ∀ V, Swp V ab ast ae ak X → Calls Try.prog 31 #[.agg #[.slice ab X.bs.length cb, .slice ast X.st.length cs, .slice ae X.er.length ce, .slice ak X.ks.length ck, .int .i64 X.ch]] V fun e w' => e = .returned (.tuple #[.int .i64 (fairV X.vz), .int .i64 0]) ∧ Below V.heap.size V w' := fun V h => Fair_ok ab ast ae ak cb cs ce ck X V h hv h0
  obtain ⟨n0, n1⟩ := fair_law hok
  have hn2 : fairV X.vz ≤ earn X.vz (bestP X.vz) := by
    have : fairV X.vz * 1 ≤ fairV X.vz * (X.bs.length : Int) := Int.mul_le_mul_of_nonneg_left (by omega) n0
    omega
  have hn3 : 0 ≤ fairV X.vz * (X.bs.length : Int) := Int.mul_nonneg n0 (by omega)
  have hfb := fun h1 h2 => fair_box (P := P) hok h1 h2 h0
  have hfl := fun V h => farLists_any ap cp P V (hgP V h)
  have hip := fun V h => IsPlan_any ab ast ae ak cb cs ce ck X ap cp P V (hgX V h) (hgP V h)
  have hlp : plB X P = true → P.length = X.bs.length := fun h => (plB_title hok h).1
  have hdf := fun (h1 : plB X P = true) V h => DoesFit_any ab ast ae ak cb cs ce ck X hok ap cp P (hlp h1) V (hgX V h) (hgP V h)
  have hde := fun (h1 : plB X P = true) => dfB_fit hok h1
  have hcl := fun (h1 : plB X P = true) V h => CloneLists_any ap cp P V (hgP V h) (by have := hlp h1; have := hok.nb3; omega) (fun l hl => by
    obtain ⟨i, hi, rfl⟩ := mem_getD [] hl
    have h2 := (plB_parts h1).2 i hi
    have h3 := hlp h1
    have h4 := (hok.b3 i (by omega)).1
    omega)
  have hea := fun (h1 : plB X P = true) a2 c2 V h h2 => Earns_ok ab ast ae ak cb cs ce ck X a2 c2 P V (hgX V h) h2 hv h1
  have hel : (earL X.vz (planM P) X.bs.length).length = X.bs.length := earL_len _ _ _
  generalize fairV X.vz = fa at *
  generalize earn X.vz (bestP X.vz) = be at *
  obtain ⟨nm, hnm⟩ : ∃ nm, nm = fa * (X.bs.length : Int) := ⟨_, rfl⟩
  rw [← hnm] at n1 hn3
  have hwm : IntKind.i64.wrap (fa * (X.bs.length : Int)) = nm := by rw [← hnm]; exact IntWalk.i64_in _ (by omega)
  have hnl : ((X.bs.length : Int) == 0) = false := by rw [Bool.eq_false_iff]; intro h; have := eq_of_beq h; omega
  have c0 := x0.cell 0 rfl; have c1 := x0.cell 1 rfl; have c2 := x0.cell 2 rfl; have c3 := x0.cell 3 rfl; have c4 := x0.cell 4 rfl
  have hn3' : X.bs.length ≤ 3 := hok.nb3
  clear hX hv hr h0 hbe0 hnm
  cases hfl0 : farL P
  · cases hpl : plB X P
    · rw [hfl0] at hfl
      rw [hpl] at hip
      clear hcl hea hdf hde hfb hlp hok hP
      go_enter Try.func10, Try.ntmps10
      go_wp2_with fail
      refine (hrd _ hb).mono ?_
      rintro e V1 ⟨rfl, hb1⟩
      replace hb := hb.trans (hb1.mono hb.size)
      replace x0 := x0.below hb1
      clear c0 c1 c2 c3 c4 hb1 hrd
      have c0 := x0.cell 0 rfl; have c1 := x0.cell 1 rfl; have c2 := x0.cell 2 rfl; have c3 := x0.cell 3 rfl; have c4 := x0.cell 4 rfl
      go_wp2_with fail
      refine (hfa _ (hgX _ hb)).mono ?_
      rintro e Vn ⟨rfl, hb1⟩
      replace hb := hb.trans (hb1.mono hb.size)
      replace x0 := x0.below hb1
      clear hb1 c0 c1 c2 c3 c4
      have c0 := x0.cell 0 rfl; have c1 := x0.cell 1 rfl; have c2 := x0.cell 2 rfl; have c3 := x0.cell 3 rfl; have c4 := x0.cell 4 rfl
      go_wp2_with fail
      refine (hbe _ (hgX _ hb)).mono ?_
      rintro e Vn ⟨rfl, hb1⟩
      replace hb := hb.trans (hb1.mono hb.size)
      replace x0 := x0.below hb1
      clear hb1 c0 c1 c2 c3 c4
      have c0 := x0.cell 0 rfl; have c1 := x0.cell 1 rfl; have c2 := x0.cell 2 rfl; have c3 := x0.cell 3 rfl; have c4 := x0.cell 4 rfl
      go_wp2_with fail
      refine (hk0 _).mono ?_
      rintro e Vm ⟨rfl, rfl⟩
      go_wp2_with fail
      refine (hfl _ hb).mono ?_
      rintro e Vm ⟨rfl, rfl⟩
      go_wp2_with fail
      refine (hip _ hb).mono ?_
      rintro e Vn ⟨rfl, hb1⟩
      replace hb := hb.trans (hb1.mono hb.size)
      replace x0 := x0.below hb1
      clear hb1 c0 c1 c2 c3 c4
      have c0 := x0.cell 0 rfl; have c1 := x0.cell 1 rfl; have c2 := x0.cell 2 rfl; have c3 := x0.cell 3 rfl; have c4 := x0.cell 4 rfl
      go_wp2_with fail
      refine (hW _).mono ?_
      rintro e Vw ⟨rfl, hb1⟩
      replace hb := hb.trans (hb1.mono hb.size)
      go_wp2
      go_ret
      exact ⟨rfl, hb⟩
    · rw [hfl0] at hfl
      rw [hpl] at hip
      have hde1 := hde hpl
      have hdf1 := hdf hpl
      have hcl1 := hcl hpl
      have hea1 := hea hpl
      have hfb1 := hfb hpl
      clear hcl hea hdf hde hfb hok hP
      cases hd : fitA X.vz (planM P)
      · rw [hde1, hd] at hdf1
        clear hcl1 hea1 hfb1 hlp
        go_enter Try.func10, Try.ntmps10
        go_wp2_with fail
        refine (hrd _ hb).mono ?_
        rintro e V1 ⟨rfl, hb1⟩
        replace hb := hb.trans (hb1.mono hb.size)
        replace x0 := x0.below hb1
        clear c0 c1 c2 c3 c4 hb1 hrd
        have c0 := x0.cell 0 rfl; have c1 := x0.cell 1 rfl; have c2 := x0.cell 2 rfl; have c3 := x0.cell 3 rfl; have c4 := x0.cell 4 rfl
        go_wp2_with fail
        refine (hfa _ (hgX _ hb)).mono ?_
        rintro e Vn ⟨rfl, hb1⟩
        replace hb := hb.trans (hb1.mono hb.size)
        replace x0 := x0.below hb1
        clear hb1 c0 c1 c2 c3 c4
        have c0 := x0.cell 0 rfl; have c1 := x0.cell 1 rfl; have c2 := x0.cell 2 rfl; have c3 := x0.cell 3 rfl; have c4 := x0.cell 4 rfl
        go_wp2_with fail
        refine (hbe _ (hgX _ hb)).mono ?_
        rintro e Vn ⟨rfl, hb1⟩
        replace hb := hb.trans (hb1.mono hb.size)
        replace x0 := x0.below hb1
        clear hb1 c0 c1 c2 c3 c4
        have c0 := x0.cell 0 rfl; have c1 := x0.cell 1 rfl; have c2 := x0.cell 2 rfl; have c3 := x0.cell 3 rfl; have c4 := x0.cell 4 rfl
        go_wp2_with fail
        refine (hk0 _).mono ?_
        rintro e Vm ⟨rfl, rfl⟩
        go_wp2_with fail
        refine (hfl _ hb).mono ?_
        rintro e Vm ⟨rfl, rfl⟩
        go_wp2_with fail
        refine (hip _ hb).mono ?_
        rintro e Vn ⟨rfl, hb1⟩
        replace hb := hb.trans (hb1.mono hb.size)
        replace x0 := x0.below hb1
        clear hb1 c0 c1 c2 c3 c4
        have c0 := x0.cell 0 rfl; have c1 := x0.cell 1 rfl; have c2 := x0.cell 2 rfl; have c3 := x0.cell 3 rfl; have c4 := x0.cell 4 rfl
        go_wp2_with fail
        refine (hdf1 _ hb).mono ?_
        rintro e Vn ⟨rfl, hb1⟩
        replace hb := hb.trans (hb1.mono hb.size)
        replace x0 := x0.below hb1
        clear hb1 c0 c1 c2 c3 c4
        have c0 := x0.cell 0 rfl; have c1 := x0.cell 1 rfl; have c2 := x0.cell 2 rfl; have c3 := x0.cell 3 rfl; have c4 := x0.cell 4 rfl
        go_wp2_with fail
        refine (hW _).mono ?_
        rintro e Vw ⟨rfl, hb1⟩
        replace hb := hb.trans (hb1.mono hb.size)
        go_wp2
        go_ret
        exact ⟨rfl, hb⟩
      · rw [hde1, hd] at hdf1
        obtain ⟨j, hj, hjf⟩ := hfb1 hd
        clear hlp hfb1 hpl
        obtain ⟨en, hen⟩ : ∃ en, en = earn X.vz (planM P) := ⟨_, rfl⟩
        obtain ⟨el, hel0⟩ : ∃ el, el = earL X.vz (planM P) X.bs.length := ⟨_, rfl⟩
        rw [← hel0] at hel hjf
        rw [← hen, ← hel0] at hea1
        clear hde1 hd hen hel0
        go_enter Try.func10, Try.ntmps10
        go_wp2_with fail
        refine (hrd _ hb).mono ?_
        rintro e V1 ⟨rfl, hb1⟩
        replace hb := hb.trans (hb1.mono hb.size)
        replace x0 := x0.below hb1
        clear c0 c1 c2 c3 c4 hb1 hrd
        have c0 := x0.cell 0 rfl; have c1 := x0.cell 1 rfl; have c2 := x0.cell 2 rfl; have c3 := x0.cell 3 rfl; have c4 := x0.cell 4 rfl
        go_wp2_with fail
        refine (hfa _ (hgX _ hb)).mono ?_
        rintro e Vn ⟨rfl, hb1⟩
        replace hb := hb.trans (hb1.mono hb.size)
        replace x0 := x0.below hb1
        clear hb1 c0 c1 c2 c3 c4
        have c0 := x0.cell 0 rfl; have c1 := x0.cell 1 rfl; have c2 := x0.cell 2 rfl; have c3 := x0.cell 3 rfl; have c4 := x0.cell 4 rfl
        go_wp2_with fail
        refine (hbe _ (hgX _ hb)).mono ?_
        rintro e Vn ⟨rfl, hb1⟩
        replace hb := hb.trans (hb1.mono hb.size)
        replace x0 := x0.below hb1
        clear hb1 c0 c1 c2 c3 c4
        have c0 := x0.cell 0 rfl; have c1 := x0.cell 1 rfl; have c2 := x0.cell 2 rfl; have c3 := x0.cell 3 rfl; have c4 := x0.cell 4 rfl
        go_wp2_with fail
        refine (hk0 _).mono ?_
        rintro e Vm ⟨rfl, rfl⟩
        go_wp2_with fail
        refine (hfl _ hb).mono ?_
        rintro e Vm ⟨rfl, rfl⟩
        go_wp2_with fail
        refine (hip _ hb).mono ?_
        rintro e Vn ⟨rfl, hb1⟩
        replace hb := hb.trans (hb1.mono hb.size)
        replace x0 := x0.below hb1
        clear hb1 c0 c1 c2 c3 c4
        have c0 := x0.cell 0 rfl; have c1 := x0.cell 1 rfl; have c2 := x0.cell 2 rfl; have c3 := x0.cell 3 rfl; have c4 := x0.cell 4 rfl
        go_wp2_with fail
        refine (hdf1 _ hb).mono ?_
        rintro e Vn ⟨rfl, hb1⟩
        replace hb := hb.trans (hb1.mono hb.size)
        replace x0 := x0.below hb1
        clear hb1 c0 c1 c2 c3 c4
        have c0 := x0.cell 0 rfl; have c1 := x0.cell 1 rfl; have c2 := x0.cell 2 rfl; have c3 := x0.cell 3 rfl; have c4 := x0.cell 4 rfl
        clear hip hdf1 hfl hfa hbe hk0
        go_upto_region 9 with fail
        have hbd := (Below.refl Vn.heap.size Vn).drew
        have S0 := x0.below hbd
        replace hb := hb.trans (hbd.mono hb.size)
        clear hbd x0 c0 c1 c2 c3 c4
        refine wp_region_head 10 (fun w' => Bx w' w.heap.size #[.slice ab X.bs.length cb, .slice ast X.st.length cs, .slice ae X.er.length ce, .slice ak X.ks.length ck, .int .i64 X.ch] 26) (by kernel_rfl) rfl ?_
        generalize Vn.drew = Y0 at *
        refine HeadAt.take (i := 0) (.agg #[.slice ab X.bs.length cb, .slice ast X.st.length cs, .slice ae X.er.length ce, .slice ak X.ks.length ck, .int .i64 X.ch]) rfl (by kernel_rfl) (.inl ⟨rfl, fun w' z => ?_⟩) S0 ?_
        · (have z0 := z.cell 0 rfl; have z1 := z.cell 1 rfl; have z2 := z.cell 2 rfl; have z3 := z.cell 3 rfl; have z4 := z.cell 4 rfl; simp [go_sem, z0, z1, z2, z3, z4])
        refine HeadAt.take (i := 1) (.slice ap P.length cp) rfl (by kernel_rfl) (.inl ⟨rfl, fun _ _ => by simp [go_sem]⟩) S0 ?_
        (try simp only [Act.put, List.getElem_toArray, List.getElem_cons_succ, List.getElem_cons_zero, List.setIfInBounds_toArray, List.set_cons_succ, List.set_cons_zero])
        refine HeadAt.one (i := 2) rfl (by kernel_rfl) ?_
        generalize hK : Upto _ _ = K0
        (try simp only [Act.put, List.getElem_toArray, List.getElem_cons_succ, List.getElem_cons_zero, List.setIfInBounds_toArray, List.set_cons_succ, List.set_cons_zero])
        go_wp2_with fail
        refine (hcl1 _ hb).mono ?_
        rintro e V2 ⟨hb1, a2, c2, vs, rfl, hown, hrc⟩
        have hlss := hrc.lss hown (by have := hgP _ hb; exact this.1)
        replace S0 := S0.below hb1
        replace hb := hb.trans (hb1.mono hb.size)
        clear hb1 hown hrc hcl1
        go_wp2_with fail
        subst hK
        refine ⟨S0, ?_⟩
        (try simp only [Act.put, List.getElem_toArray, List.getElem_cons_succ, List.getElem_cons_zero, List.setIfInBounds_toArray, List.set_cons_succ, List.set_cons_zero])
        refine HeadAt.one (i := 3) rfl (by kernel_rfl) ?_
        generalize hK : Upto _ _ = K0
        (try simp only [Act.put, List.getElem_toArray, List.getElem_cons_succ, List.getElem_cons_zero, List.setIfInBounds_toArray, List.set_cons_succ, List.set_cons_zero])
        go_wp2_with fail
        refine (hea1 a2 c2 _ hb hlss).mono ?_
        rintro e V3 ⟨hb1, a3, rfl, hI⟩
        replace S0 := S0.below hb1
        replace hb := hb.trans (hb1.mono hb.size)
        clear hb1 hea1 hlss
        go_wp2_with fail
        subst hK
        refine ⟨S0, ?_⟩
        (try simp only [Act.put, List.getElem_toArray, List.getElem_cons_succ, List.getElem_cons_zero, List.setIfInBounds_toArray, List.set_cons_succ, List.set_cons_zero])
        refine HeadAt.take (i := 4) (.tuple #[.slice a3 X.bs.length X.bs.length, .int .i64 en, .int .i64 0]) rfl (by kernel_rfl) (.inl ⟨rfl, fun _ _ => by simp [go_sem]⟩) S0 ?_
        (try simp only [Act.put, List.getElem_toArray, List.getElem_cons_succ, List.getElem_cons_zero, List.setIfInBounds_toArray, List.set_cons_succ, List.set_cons_zero])
        refine HeadAt.take (i := 5) (.slice a3 X.bs.length X.bs.length) rfl (by kernel_rfl) (.inl ⟨rfl, fun _ _ => by simp [go_sem]⟩) S0 ?_
        (try simp only [Act.put, List.getElem_toArray, List.getElem_cons_succ, List.getElem_cons_zero, List.setIfInBounds_toArray, List.set_cons_succ, List.set_cons_zero])
        refine HeadAt.take (i := 6) (.int .i64 en) rfl (by kernel_rfl) (.inl ⟨rfl, fun _ _ => by simp [go_sem]⟩) S0 ?_
        (try simp only [Act.put, List.getElem_toArray, List.getElem_cons_succ, List.getElem_cons_zero, List.setIfInBounds_toArray, List.set_cons_succ, List.set_cons_zero])
        refine HeadAt.take (i := 7) (.int .i64 0) rfl (by kernel_rfl) (.inl ⟨rfl, fun _ _ => by simp [go_sem]⟩) S0 ?_
        (try simp only [Act.put, List.getElem_toArray, List.getElem_cons_succ, List.getElem_cons_zero, List.setIfInBounds_toArray, List.set_cons_succ, List.set_cons_zero])
        refine HeadAt.take (i := 8) (.slice a3 X.bs.length X.bs.length) rfl (by kernel_rfl) (.inl ⟨rfl, fun _ _ => by simp [go_sem]⟩) S0 ?_
        (try simp only [Act.put, List.getElem_toArray, List.getElem_cons_succ, List.getElem_cons_zero, List.setIfInBounds_toArray, List.set_cons_succ, List.set_cons_zero])
        refine HeadAt.take (i := 9) (.int .i64 en) rfl (by kernel_rfl) (.inl ⟨rfl, fun _ _ => by simp [go_sem]⟩) S0 ?_
        (try simp only [Act.put, List.getElem_toArray, List.getElem_cons_succ, List.getElem_cons_zero, List.setIfInBounds_toArray, List.set_cons_succ, List.set_cons_zero])
        refine HeadAt.done (by kernel_rfl) ?_
        (try simp only [Act.put, List.drop_succ_cons, List.drop_zero, List.getElem_toArray, List.getElem_cons_succ, List.getElem_cons_zero])
        go_wp2_with fail
        refine NoPanic.normal ?_
        have x0 := S0
        clear S0
        have c0 := x0.cell 0 rfl; have c1 := x0.cell 1 rfl; have c2 := x0.cell 2 rfl; have c3 := x0.cell 3 rfl; have c4 := x0.cell 4 rfl
        go_wp2
        clear x0 c0 c1 c2 c3 c4
        go_loopw [12] (fun v12 wr => ∃ k : Nat, k ≤ j ∧ v12 = .int .i64 (k : Int) ∧ wr = V3) (fun v12 _ => j - (intOf v12).toNat)
        case atStart => exact ⟨0, Nat.zero_le _, rfl, rfl⟩
        case round =>
          obtain ⟨k, hk, rfl, rfl⟩ := hrel
          have hkl : k < el.length := by omega
          obtain ⟨b, off, x, rfl, hbl, hc, hx1, hx2, hg, _⟩ := hI.at (k := k) hkl
          have hxd : el.getD k 0 = x := by rw [List.getD_eq_getElem?_getD, hg.out]; rfl
          have hkI : (k : Int) < (X.bs.length : Int) := by omega
          have hk0 : (0 : Int) ≤ (k : Int) := by omega
          have hk3 : (k : Int) < 3 := by omega
          by_cases hle : x ≤ fa
          · clear hI
            go_wp2_with fail
            refine (hW _).mono ?_
            rintro e Vw ⟨rfl, hb1⟩
            replace hb := hb.trans (hb1.mono hb.size)
            go_wp2
            go_ret
            exact ⟨rfl, hb⟩
          · have hne : k ≠ j := fun e => by rw [e] at hxd; omega
            have hlt : fa < x := by omega
            go_wp2
            go_roundw
            case rel => exact ⟨k + 1, by omega, by simp, trivial⟩
            case measure => simp [intOf]; omega
  · rw [hfl0] at hfl
    clear hcl hea hdf hde hfb hlp hok hP
    go_enter Try.func10, Try.ntmps10
    go_wp2_with fail
    refine (hrd _ hb).mono ?_
    rintro e V1 ⟨rfl, hb1⟩
    replace hb := hb.trans (hb1.mono hb.size)
    replace x0 := x0.below hb1
    clear c0 c1 c2 c3 c4 hb1 hrd
    have c0 := x0.cell 0 rfl; have c1 := x0.cell 1 rfl; have c2 := x0.cell 2 rfl; have c3 := x0.cell 3 rfl; have c4 := x0.cell 4 rfl
    go_wp2_with fail
    refine (hfa _ (hgX _ hb)).mono ?_
    rintro e Vn ⟨rfl, hb1⟩
    replace hb := hb.trans (hb1.mono hb.size)
    replace x0 := x0.below hb1
    clear hb1 c0 c1 c2 c3 c4
    have c0 := x0.cell 0 rfl; have c1 := x0.cell 1 rfl; have c2 := x0.cell 2 rfl; have c3 := x0.cell 3 rfl; have c4 := x0.cell 4 rfl
    go_wp2_with fail
    refine (hbe _ (hgX _ hb)).mono ?_
    rintro e Vn ⟨rfl, hb1⟩
    replace hb := hb.trans (hb1.mono hb.size)
    replace x0 := x0.below hb1
    clear hb1 c0 c1 c2 c3 c4
    have c0 := x0.cell 0 rfl; have c1 := x0.cell 1 rfl; have c2 := x0.cell 2 rfl; have c3 := x0.cell 3 rfl; have c4 := x0.cell 4 rfl
    go_wp2_with fail
    refine (hk0 _).mono ?_
    rintro e Vm ⟨rfl, rfl⟩
    go_wp2_with fail
    refine (hfl _ hb).mono ?_
    rintro e Vm ⟨rfl, rfl⟩
    go_wp2_with fail
    refine (hW _).mono ?_
    rintro e Vw ⟨rfl, hb1⟩
    replace hb := hb.trans (hb1.mono hb.size)
    go_wp2
    go_ret
    exact ⟨rfl, hb⟩
end Go.Proofs.Ytipdohpbilabiaa
