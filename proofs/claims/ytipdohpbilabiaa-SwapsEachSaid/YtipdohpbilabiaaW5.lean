import Derived.Test.YtipdohpbilabiaaN4
import Derived.Test.YtipdohpbilabiaaW1
/-! The theorem of each plan. -/
namespace Go.Proofs.Ytipdohpbilabiaa
set_option linter.unusedSimpArgs false
set_option linter.unusedVariables false
open Go Go.RowKit

set_option maxRecDepth 100000 in
set_option maxHeartbeats 4000000 in
theorem EachN_bad (ab ast ae ak : Option Addr) (cb cs ce ck : Nat) (X : Sw) (ap : Option Addr) (cp np : Nat) (w : World) (hrd0 : ∀ V, Below w.heap.size w V → Calls Try.prog 44 #[.agg #[.slice ab X.bs.length cb, .slice ast X.st.length cs, .slice ae X.er.length ce, .slice ak X.ks.length ck, .int .i64 X.ch]] V fun e w' => e = .returned (.bool false) ∧ Below V.heap.size V w') : Calls Try.prog 6 #[.agg #[.slice ab X.bs.length cb, .slice ast X.st.length cs, .slice ae X.er.length ce, .slice ak X.ks.length ck, .int .i64 X.ch], .slice ap np cp] w fun e w' => e = .returned (.bool true) ∧ Below w.heap.size w w' := by
  obtain ⟨W, hWW, hb, _, x0⟩ := boxes1 w #[.slice ab X.bs.length cb, .slice ast X.st.length cs, .slice ae X.er.length ce, .slice ak X.ks.length ck, .int .i64 X.ch] 26
  have hrd := hrd0
  have hW := works_any
  have c0 := x0.cell 0 rfl; have c1 := x0.cell 1 rfl; have c2 := x0.cell 2 rfl; have c3 := x0.cell 3 rfl; have c4 := x0.cell 4 rfl
  clear hrd0
  go_enter Try.func6, Try.ntmps6
  go_wp2_with fail
  refine (hrd _ hb).mono ?_
  rintro e V1 ⟨rfl, hb1⟩
  replace hb := hb.trans (hb1.mono hb.size)
  replace x0 := x0.below hb1
  clear c0 c1 c2 c3 c4 hb1 hrd
  have c0 := x0.cell 0 rfl; have c1 := x0.cell 1 rfl; have c2 := x0.cell 2 rfl; have c3 := x0.cell 3 rfl; have c4 := x0.cell 4 rfl
  go_wp2_with fail
  refine (hW _).mono ?_
  rintro e Vw ⟨rfl, hb1⟩
  replace hb := hb.trans (hb1.mono hb.size)
  go_wp2
  go_ret
  exact ⟨rfl, hb⟩

set_option maxRecDepth 100000 in
set_option maxHeartbeats 4000000 in
theorem Each_far (ab ast ae ak : Option Addr) (cb cs ce ck : Nat) (X : Sw) (ap : Option Addr) (cp : Nat) (P : List (List Int)) (w : World) (hX : Swp w ab ast ae ak X) (hP : Lss w ap P) (hr : rdB X = true) (h : farL P = true ∨ plB X P = false) : Calls Try.prog 6 #[.agg #[.slice ab X.bs.length cb, .slice ast X.st.length cs, .slice ae X.er.length ce, .slice ak X.ks.length ck, .int .i64 X.ch], .slice ap P.length cp] w fun e w' => e = .returned (.bool true) ∧ Below w.heap.size w w' := by
  have hv := (rdB_iff hr).1
  have hok := vB_iff hv
  obtain ⟨W, hWW, hb, _, x0⟩ := boxes1 w #[.slice ab X.bs.length cb, .slice ast X.st.length cs, .slice ae X.er.length ce, .slice ak X.ks.length ck, .int .i64 X.ch] 26
  have hgX := fun V (h : Below w.heap.size w V) => hX.below h (Nat.le_refl _)
  have hgP := fun V (h : Below w.heap.size w V) => hP.below h (Nat.le_refl _)
  have hrd := fun V h => ready_any ab ast ae ak cb cs ce ck X V (hgX V h)
  rw [hr] at hrd
  have hW := works_any
  have hfl := fun V h => farLists_any ap cp P V (hgP V h)
  have hip := fun V h => IsPlan_any ab ast ae ak cb cs ce ck X ap cp P V (hgX V h) (hgP V h)
  have c0 := x0.cell 0 rfl; have c1 := x0.cell 1 rfl; have c2 := x0.cell 2 rfl; have c3 := x0.cell 3 rfl; have c4 := x0.cell 4 rfl
  clear hX hv hr hok
  cases hfl0 : farL P
  · rcases h with h | h
    · rw [hfl0] at h; cases h
    rw [hfl0] at hfl
    rw [h] at hip
    go_enter Try.func6, Try.ntmps6
    go_wp2_with fail
    refine (hrd _ hb).mono ?_
    rintro e V1 ⟨rfl, hb1⟩
    replace hb := hb.trans (hb1.mono hb.size)
    replace x0 := x0.below hb1
    clear c0 c1 c2 c3 c4 hb1 hrd
    have c0 := x0.cell 0 rfl; have c1 := x0.cell 1 rfl; have c2 := x0.cell 2 rfl; have c3 := x0.cell 3 rfl; have c4 := x0.cell 4 rfl
    go_wp2_with fail
    refine (hfl _ hb).mono ?_
    rintro e Vm ⟨rfl, rfl⟩
    go_wp2_with fail
    refine (hip _ hb).mono ?_
    rintro e Vn ⟨rfl, hb1⟩
    replace hb := hb.trans (hb1.mono hb.size)
    replace x0 := x0.below hb1
    clear hb1 c0 c1 c2 c3 c4
    have c0 := x0.cell 0 rfl; have c1 := x0.cell 1 rfl; have c2 := x0.cell 2 rfl; have c3 := x0.cell 3 rfl; have c4 := x0.cell 4 rfl
    go_wp2_with fail
    refine (hW _).mono ?_
    rintro e Vw ⟨rfl, hb1⟩
    replace hb := hb.trans (hb1.mono hb.size)
    go_wp2
    go_ret
    exact ⟨rfl, hb⟩
  · rw [hfl0] at hfl
    go_enter Try.func6, Try.ntmps6
    go_wp2_with fail
    refine (hrd _ hb).mono ?_
    rintro e V1 ⟨rfl, hb1⟩
    replace hb := hb.trans (hb1.mono hb.size)
    replace x0 := x0.below hb1
    clear c0 c1 c2 c3 c4 hb1 hrd
    have c0 := x0.cell 0 rfl; have c1 := x0.cell 1 rfl; have c2 := x0.cell 2 rfl; have c3 := x0.cell 3 rfl; have c4 := x0.cell 4 rfl
    go_wp2_with fail
    refine (hfl _ hb).mono ?_
    rintro e Vm ⟨rfl, rfl⟩
    go_wp2_with fail
    refine (hW _).mono ?_
    rintro e Vw ⟨rfl, hb1⟩
    replace hb := hb.trans (hb1.mono hb.size)
    go_wp2
    go_ret
    exact ⟨rfl, hb⟩

set_option maxRecDepth 100000 in
set_option maxHeartbeats 8000000 in
theorem swapsEach_any (ab ast ae ak : Option Addr) (cb cs ce ck : Nat) (X : Sw) (ap : Option Addr) (cp : Nat) (P : List (List Int)) (w : World) (hX : Swp w ab ast ae ak X) (hP : Lss w ap P) (hr : rdB X = true) (hfl0 : farL P = false) (hpl : plB X P = true) : Calls Try.prog 6 #[.agg #[.slice ab X.bs.length cb, .slice ast X.st.length cs, .slice ae X.er.length ce, .slice ak X.ks.length ck, .int .i64 X.ch], .slice ap P.length cp] w fun e w' => e = .returned (.bool true) ∧ Below w.heap.size w w' := by
  have hv := (rdB_iff hr).1
  have hok := vB_iff hv
  obtain ⟨W, hWW, hb, _, x0⟩ := boxes1 w #[.slice ab X.bs.length cb, .slice ast X.st.length cs, .slice ae X.er.length ce, .slice ak X.ks.length ck, .int .i64 X.ch] 26
  have hgX := fun V (h : Below w.heap.size w V) => hX.below h (Nat.le_refl _)
  have hgP := fun V (h : Below w.heap.size w V) => hP.below h (Nat.le_refl _)
  have hrd := fun V h => ready_any ab ast ae ak cb cs ce ck X V (hgX V h)
  rw [hr] at hrd
  have hW := works_any
  have hfl := fun V h => farLists_any ap cp P V (hgP V h)
  have hip := fun V h => IsPlan_any ab ast ae ak cb cs ce ck X ap cp P V (hgX V h) (hgP V h)
  have hlp : P.length = X.bs.length := (plB_title hok hpl).1
  have hn3 := hok.nb3
  have hpp := plB_parts hpl
  have hbl : ∀ l ∈ X.bs, l.length ≤ 3 := fun l hl => by
    obtain ⟨i, hi, rfl⟩ := mem_getD [] hl
    exact (hok.b3 i hi).1
  have hpl3 : ∀ l ∈ P, l.length ≤ 3 := fun l hl => by
    obtain ⟨i, hi, rfl⟩ := mem_getD [] hl
    have h2 := hpp.2 i hi
    have h4 := (hok.b3 i (by omega)).1
    omega
  have hdf1 := fun V h => DoesFit_any ab ast ae ak cb cs ce ck X hok ap cp P hlp V (hgX V h) (hgP V h)
  rw [dfB_fit hok hpl] at hdf1
  have hcl1 := fun V h => CloneLists_any ap cp P V (hgP V h) (by omega) (fun l hl => by have := hpl3 l hl; omega)
  have hcl2 := fun V h => CloneLists_any ab cb X.bs V (hgX V h).1 (by omega) (fun l hl => by have := hbl l hl; omega)
  have hfi1 := fun a2 c2 V h h2 => Fits_ok ab ast ae ak cb cs ce ck X a2 c2 P V (hgX V h) h2 hv hpl
  have hfi2 := fun a2 c2 V h h2 => Fits_ok ab ast ae ak cb cs ce ck X a2 c2 X.bs V (hgX V h) h2 hv (plB_self hok)
  rw [now_fits hok] at hfi2
  have hmx1 : P.length ≤ 9223372036854775807 := by omega
  have hmx2 : X.bs.length ≤ 9223372036854775807 := by omega
  have hbe : ∀ V, Swp V ab ast ae ak X → Calls Try.prog 27 #[.agg #[.slice ab X.bs.length cb, .slice ast X.st.length cs, .slice ae X.er.length ce, .slice ak X.ks.length ck, .int .i64 X.ch]] V fun e w' => e = .returned (.tuple #[.int .i64 (earn X.vz (bestP X.vz)), .int .i64 0]) ∧ Below V.heap.size V w' := fun V h => Best_ok ab ast ae ak cb cs ce ck X V h hv
  obtain ⟨L, hL⟩ : ∃ L, L = keepL (alwP X.vz) := ⟨_, rfl⟩
  have hal : ∀ V, Swp V ab ast ae ak X → Calls Try.prog 29 #[.agg #[.slice ab X.bs.length cb, .slice ast X.st.length cs, .slice ae X.er.length ce, .slice ak X.ks.length ck, .int .i64 X.ch]] V fun e w' => Below V.heap.size V w' ∧ ∃ a c, e = .returned (.tuple #[.slice a L.length c, .int .i64 0]) ∧ Prs w' a L := fun V h => Always_ok ab ast ae ak cb cs ce ck X V h hv L hL
  have hL18 : L.length ≤ 18 := by rw [hL]; exact keepK_len _ 3
  have hL40 : (L.length : Int) ≤ 40 := by omega
  rw [hfl0] at hfl
  rw [hpl] at hip
  cases hd : fitA X.vz (planM P)
  · rw [hd] at hdf1 hfi1
    generalize earn X.vz (bestP X.vz) = be at *
    have c0 := x0.cell 0 rfl; have c1 := x0.cell 1 rfl; have c2 := x0.cell 2 rfl; have c3 := x0.cell 3 rfl; have c4 := x0.cell 4 rfl
    clear hX hv hr hok hL hlp hpp hbl hpl3 hd hpl hfl0
    go_enter Try.func6, Try.ntmps6
    go_wp2_with fail
    refine (hrd _ hb).mono ?_
    rintro e V1 ⟨rfl, hb1⟩
    replace hb := hb.trans (hb1.mono hb.size)
    replace x0 := x0.below hb1
    clear c0 c1 c2 c3 c4 hb1 hrd
    have c0 := x0.cell 0 rfl; have c1 := x0.cell 1 rfl; have c2 := x0.cell 2 rfl; have c3 := x0.cell 3 rfl; have c4 := x0.cell 4 rfl
    go_wp2_with fail
    refine (hfl _ hb).mono ?_
    rintro e Vm ⟨rfl, rfl⟩
    go_wp2_with fail
    refine (hip _ hb).mono ?_
    rintro e Vn ⟨rfl, hb1⟩
    replace hb := hb.trans (hb1.mono hb.size)
    replace x0 := x0.below hb1
    clear hb1 c0 c1 c2 c3 c4
    have c0 := x0.cell 0 rfl; have c1 := x0.cell 1 rfl; have c2 := x0.cell 2 rfl; have c3 := x0.cell 3 rfl; have c4 := x0.cell 4 rfl
    go_upto_region 3 with fail
    have hbd := (Below.refl Vn.heap.size Vn).drew
    have S0 := x0.below hbd
    replace hb := hb.trans (hbd.mono hb.size)
    clear hbd x0 c0 c1 c2 c3 c4
    refine wp_region_head 8 (fun w' => Bx w' w.heap.size #[.slice ab X.bs.length cb, .slice ast X.st.length cs, .slice ae X.er.length ce, .slice ak X.ks.length ck, .int .i64 X.ch] 26) (by kernel_rfl) rfl ?_
    generalize Vn.drew = Y0 at *
    refine HeadAt.take (i := 0) (.agg #[.slice ab X.bs.length cb, .slice ast X.st.length cs, .slice ae X.er.length ce, .slice ak X.ks.length ck, .int .i64 X.ch]) rfl (by kernel_rfl) (.inl ⟨rfl, fun w' z => ?_⟩) S0 ?_
    · (have z0 := z.cell 0 rfl; have z1 := z.cell 1 rfl; have z2 := z.cell 2 rfl; have z3 := z.cell 3 rfl; have z4 := z.cell 4 rfl; simp [go_sem, z0, z1, z2, z3, z4])
    refine HeadAt.take (i := 1) (.slice ap P.length cp) rfl (by kernel_rfl) (.inl ⟨rfl, fun _ _ => by simp [go_sem]⟩) S0 ?_
    (try simp only [Act.put, List.getElem_toArray, List.getElem_cons_succ, List.getElem_cons_zero, List.setIfInBounds_toArray, List.set_cons_succ, List.set_cons_zero])
    refine HeadAt.one (i := 2) rfl (by kernel_rfl) ?_
    generalize hK : Upto _ _ = K0
    (try simp only [Act.put, List.getElem_toArray, List.getElem_cons_succ, List.getElem_cons_zero, List.setIfInBounds_toArray, List.set_cons_succ, List.set_cons_zero])
    go_wp2_with fail
    refine (hcl1 _ hb).mono ?_
    rintro e V2 ⟨hb1, a2, c2, vs, rfl, hown, hrc⟩
    have hlss := hrc.lss hown (by assumption)
    replace S0 := S0.below hb1
    replace hb := hb.trans (hb1.mono hb.size)
    clear hb1 hown hrc
    go_wp2_with fail
    subst hK
    refine ⟨S0, ?_⟩
    (try simp only [Act.put, List.getElem_toArray, List.getElem_cons_succ, List.getElem_cons_zero, List.setIfInBounds_toArray, List.set_cons_succ, List.set_cons_zero])
    refine HeadAt.one (i := 3) rfl (by kernel_rfl) ?_
    generalize hK : Upto _ _ = K0
    (try simp only [Act.put, List.getElem_toArray, List.getElem_cons_succ, List.getElem_cons_zero, List.setIfInBounds_toArray, List.set_cons_succ, List.set_cons_zero])
    go_wp2_with fail
    refine (hfi1 a2 c2 _ hb hlss).mono ?_
    rintro e Vn ⟨rfl, hb1⟩
    replace S0 := S0.below hb1
    replace hb := hb.trans (hb1.mono hb.size)
    clear hb1 hlss
    go_wp2_with fail
    subst hK
    refine ⟨S0, ?_⟩
    (try simp only [Act.put, List.getElem_toArray, List.getElem_cons_succ, List.getElem_cons_zero, List.setIfInBounds_toArray, List.set_cons_succ, List.set_cons_zero])
    refine HeadAt.take (i := 4) (.tuple #[.bool false, .int .i64 0]) rfl (by kernel_rfl) (.inl ⟨rfl, fun _ _ => by simp [go_sem]⟩) S0 ?_
    (try simp only [Act.put, List.getElem_toArray, List.getElem_cons_succ, List.getElem_cons_zero, List.setIfInBounds_toArray, List.set_cons_succ, List.set_cons_zero])
    refine HeadAt.take (i := 5) (.bool false) rfl (by kernel_rfl) (.inl ⟨rfl, fun _ _ => by simp [go_sem]⟩) S0 ?_
    (try simp only [Act.put, List.getElem_toArray, List.getElem_cons_succ, List.getElem_cons_zero, List.setIfInBounds_toArray, List.set_cons_succ, List.set_cons_zero])
    refine HeadAt.take (i := 6) (.int .i64 0) rfl (by kernel_rfl) (.inl ⟨rfl, fun _ _ => by simp [go_sem]⟩) S0 ?_
    (try simp only [Act.put, List.getElem_toArray, List.getElem_cons_succ, List.getElem_cons_zero, List.setIfInBounds_toArray, List.set_cons_succ, List.set_cons_zero])
    refine HeadAt.take (i := 7) (.bool false) rfl (by kernel_rfl) (.inl ⟨rfl, fun _ _ => by simp [go_sem]⟩) S0 ?_
    (try simp only [Act.put, List.getElem_toArray, List.getElem_cons_succ, List.getElem_cons_zero, List.setIfInBounds_toArray, List.set_cons_succ, List.set_cons_zero])
    refine HeadAt.done (by kernel_rfl) ?_
    (try simp only [Act.put, List.drop_succ_cons, List.drop_zero, List.getElem_toArray, List.getElem_cons_succ, List.getElem_cons_zero])
    go_wp2_with fail
    refine NoPanic.normal ?_
    have x0 := S0
    clear S0
    have c0 := x0.cell 0 rfl; have c1 := x0.cell 1 rfl; have c2 := x0.cell 2 rfl; have c3 := x0.cell 3 rfl; have c4 := x0.cell 4 rfl
    go_upto_region 4 with fail
    have hbd := (Below.refl Vn.heap.size Vn).drew
    have S0 := x0.below hbd
    replace hb := hb.trans (hbd.mono hb.size)
    clear hbd x0 c0 c1 c2 c3 c4
    refine wp_region_head 9 (fun w' => Bx w' w.heap.size #[.slice ab X.bs.length cb, .slice ast X.st.length cs, .slice ae X.er.length ce, .slice ak X.ks.length ck, .int .i64 X.ch] 26) (by kernel_rfl) rfl ?_
    generalize Vn.drew = Y0 at *
    refine HeadAt.take (i := 0) (.agg #[.slice ab X.bs.length cb, .slice ast X.st.length cs, .slice ae X.er.length ce, .slice ak X.ks.length ck, .int .i64 X.ch]) rfl (by kernel_rfl) (.inl ⟨rfl, fun w' z => ?_⟩) S0 ?_
    · (have z0 := z.cell 0 rfl; have z1 := z.cell 1 rfl; have z2 := z.cell 2 rfl; have z3 := z.cell 3 rfl; have z4 := z.cell 4 rfl; simp [go_sem, z0, z1, z2, z3, z4])
    refine HeadAt.take (i := 1) (.pointer (some ⟨w.heap.size, 0, none⟩)) rfl (by kernel_rfl) (.inl ⟨rfl, fun _ _ => by simp [go_sem]⟩) S0 ?_
    (try simp only [Act.put, List.getElem_toArray, List.getElem_cons_succ, List.getElem_cons_zero, List.setIfInBounds_toArray, List.set_cons_succ, List.set_cons_zero])
    refine HeadAt.take (i := 2) (.slice ab X.bs.length cb) rfl (by kernel_rfl) (.inl ⟨rfl, fun w' z => ?_⟩) S0 ?_
    · (have z0 := z.cell 0 rfl; simp [go_sem, z0])
    (try simp only [Act.put, List.getElem_toArray, List.getElem_cons_succ, List.getElem_cons_zero, List.setIfInBounds_toArray, List.set_cons_succ, List.set_cons_zero])
    refine HeadAt.one (i := 3) rfl (by kernel_rfl) ?_
    generalize hK : Upto _ _ = K0
    (try simp only [Act.put, List.getElem_toArray, List.getElem_cons_succ, List.getElem_cons_zero, List.setIfInBounds_toArray, List.set_cons_succ, List.set_cons_zero])
    go_wp2_with fail
    refine (hcl2 _ hb).mono ?_
    rintro e V2 ⟨hb1, a2, c2, vs, rfl, hown, hrc⟩
    have hlss := hrc.lss hown (by assumption)
    replace S0 := S0.below hb1
    replace hb := hb.trans (hb1.mono hb.size)
    clear hb1 hown hrc
    go_wp2_with fail
    subst hK
    refine ⟨S0, ?_⟩
    (try simp only [Act.put, List.getElem_toArray, List.getElem_cons_succ, List.getElem_cons_zero, List.setIfInBounds_toArray, List.set_cons_succ, List.set_cons_zero])
    refine HeadAt.one (i := 4) rfl (by kernel_rfl) ?_
    generalize hK : Upto _ _ = K0
    (try simp only [Act.put, List.getElem_toArray, List.getElem_cons_succ, List.getElem_cons_zero, List.setIfInBounds_toArray, List.set_cons_succ, List.set_cons_zero])
    go_wp2_with fail
    refine (hfi2 a2 c2 _ hb hlss).mono ?_
    rintro e Vn ⟨rfl, hb1⟩
    replace S0 := S0.below hb1
    replace hb := hb.trans (hb1.mono hb.size)
    clear hb1 hlss
    go_wp2_with fail
    subst hK
    refine ⟨S0, ?_⟩
    (try simp only [Act.put, List.getElem_toArray, List.getElem_cons_succ, List.getElem_cons_zero, List.setIfInBounds_toArray, List.set_cons_succ, List.set_cons_zero])
    refine HeadAt.take (i := 5) (.tuple #[.bool true, .int .i64 0]) rfl (by kernel_rfl) (.inl ⟨rfl, fun _ _ => by simp [go_sem]⟩) S0 ?_
    (try simp only [Act.put, List.getElem_toArray, List.getElem_cons_succ, List.getElem_cons_zero, List.setIfInBounds_toArray, List.set_cons_succ, List.set_cons_zero])
    refine HeadAt.take (i := 6) (.bool true) rfl (by kernel_rfl) (.inl ⟨rfl, fun _ _ => by simp [go_sem]⟩) S0 ?_
    (try simp only [Act.put, List.getElem_toArray, List.getElem_cons_succ, List.getElem_cons_zero, List.setIfInBounds_toArray, List.set_cons_succ, List.set_cons_zero])
    refine HeadAt.take (i := 7) (.int .i64 0) rfl (by kernel_rfl) (.inl ⟨rfl, fun _ _ => by simp [go_sem]⟩) S0 ?_
    (try simp only [Act.put, List.getElem_toArray, List.getElem_cons_succ, List.getElem_cons_zero, List.setIfInBounds_toArray, List.set_cons_succ, List.set_cons_zero])
    refine HeadAt.take (i := 8) (.bool true) rfl (by kernel_rfl) (.inl ⟨rfl, fun _ _ => by simp [go_sem]⟩) S0 ?_
    (try simp only [Act.put, List.getElem_toArray, List.getElem_cons_succ, List.getElem_cons_zero, List.setIfInBounds_toArray, List.set_cons_succ, List.set_cons_zero])
    refine HeadAt.done (by kernel_rfl) ?_
    (try simp only [Act.put, List.drop_succ_cons, List.drop_zero, List.getElem_toArray, List.getElem_cons_succ, List.getElem_cons_zero])
    go_wp2_with fail
    refine NoPanic.normal ?_
    have x0 := S0
    clear S0
    have c0 := x0.cell 0 rfl; have c1 := x0.cell 1 rfl; have c2 := x0.cell 2 rfl; have c3 := x0.cell 3 rfl; have c4 := x0.cell 4 rfl
    go_wp2_with fail
    refine (hbe _ (hgX _ hb)).mono ?_
    rintro e Vn ⟨rfl, hb1⟩
    replace hb := hb.trans (hb1.mono hb.size)
    replace x0 := x0.below hb1
    clear hb1 c0 c1 c2 c3 c4
    have c0 := x0.cell 0 rfl; have c1 := x0.cell 1 rfl; have c2 := x0.cell 2 rfl; have c3 := x0.cell 3 rfl; have c4 := x0.cell 4 rfl
    go_wp2_with fail
    refine (hal _ (hgX _ hb)).mono ?_
    rintro e Vn ⟨hb1, a5, c5, rfl, hPr⟩
    replace hb := hb.trans (hb1.mono hb.size)
    replace x0 := x0.below hb1
    clear hb1 c0 c1 c2 c3 c4
    have c0 := x0.cell 0 rfl; have c1 := x0.cell 1 rfl; have c2 := x0.cell 2 rfl; have c3 := x0.cell 3 rfl; have c4 := x0.cell 4 rfl
    go_wp2_with fail
    refine (hdf1 _ hb).mono ?_
    rintro e Vn ⟨rfl, hb1⟩
    replace hb := hb.trans (hb1.mono hb.size)
    replace x0 := x0.below hb1
    replace hPr := hPr.below hb1 (Nat.le_refl _)
    clear hb1 c0 c1 c2 c3 c4
    have c0 := x0.cell 0 rfl; have c1 := x0.cell 1 rfl; have c2 := x0.cell 2 rfl; have c3 := x0.cell 3 rfl; have c4 := x0.cell 4 rfl
    clear hPr
    go_wp2_with fail
    refine (hW _).mono ?_
    rintro e Vw ⟨rfl, hb1⟩
    replace hb := hb.trans (hb1.mono hb.size)
    go_wp2
    go_ret
    exact ⟨rfl, hb⟩
  · rw [hd] at hdf1 hfi1
    have hin := fit_in hok hpl hd
    have hen0 := earn_le (vz_ok hok) (planM P)
    have hebe := earn_bestP hin
    obtain ⟨hf2, hfl1⟩ := few_le (goal := earn X.vz (planM P)) hin (Int.le_refl _)
    have hfn := (few_facts hok (earn X.vz (planM P))).2 hf2
    have hac0 := ac_ch hok hpl P.length (by omega)
    have hea0 := earn_ea hok hpl
    have hea : ∀ V, Below w.heap.size w V → Calls Try.prog 37 #[.agg #[.slice ab X.bs.length cb, .slice ast X.st.length cs, .slice ae X.er.length ce, .slice ak X.ks.length ck, .int .i64 X.ch], .slice ap P.length cp] V fun e w' => e = .returned (.int .i64 (earn X.vz (planM P))) ∧ Below V.heap.size V w' := fun V h => by
      have h1 := EarnsAll_any ab ast ae ak cb cs ce ck X hok ap cp P hlp (fun l hl => ⟨by have := hpl3 l hl; omega, (plB_title hok hpl).2 l hl⟩) V (hgX V h) (hgP V h)
      rw [hea0] at h1
      exact h1
    have hac := fun V (h : Below w.heap.size w V) => AllChanges_any ab ast ae ak cb cs ce ck X ap cp P hlp (by omega) (fun l hl => by have := hpl3 l hl; omega) V (hgX V h) (hgP V h)
    obtain ⟨ac, hac1⟩ : ∃ ac, ac = acF X P P.length := ⟨_, rfl⟩
    rw [← hac1] at hac hac0
    rcases hq1 : fewV X.vz (earn X.vz (planM P)) with ⟨fy, fo⟩
    rw [hq1] at hf2 hfl1 hfn
    have hf2' : fo = true := hf2
    subst hf2'
    have hfe : ∀ V, Swp V ab ast ae ak X → Calls Try.prog 38 #[.agg #[.slice ab X.bs.length cb, .slice ast X.st.length cs, .slice ae X.er.length ce, .slice ak X.ks.length ck, .int .i64 X.ch], .int .i64 (earn X.vz (planM P))] V fun e w' => e = .returned (.tuple #[.int .i64 fy, .int .i64 0]) ∧ Below V.heap.size V w' := fun V h => few_law ab ast ae ak cb cs ce ck X hv (earn X.vz (planM P)) hen0.1 (by omega) fy 0 (by rw [hq1]; rfl) (by rw [hq1]; rfl) V h
    have hfa : fy ≤ ac := by rw [hac0, hlp]; exact hfl1
    have hf0 : 0 ≤ fy := hfn
    have hlaw : earn X.vz (planM P) = earn X.vz (bestP X.vz) → ∀ x ∈ L, 0 ≤ x.1 ∧ x.1 < (P.length : Int) ∧ inL x.2 (P.getD x.1.toNat []) = true := fun h => by rw [hL]; exact each_law hpl hok hin h
    generalize earn X.vz (planM P) = en at *
    generalize earn X.vz (bestP X.vz) = be at *
    have HLP := hid hlp
    obtain ⟨n, hn⟩ : ∃ n, n = L.length := ⟨_, rfl⟩
    rw [← hn] at hal hL18 hL40
    have HN := hid hn
    clear hn
    have c0 := x0.cell 0 rfl; have c1 := x0.cell 1 rfl; have c2 := x0.cell 2 rfl; have c3 := x0.cell 3 rfl; have c4 := x0.cell 4 rfl
    clear hX hv hr hok hL hlp hpp hbl hpl3 hd hpl hfl0 hin hen0 hf2 hfl1 hfn hac0 hea0 hac1 hq1
    by_cases heq : en = be
    · subst heq
      replace hlaw := hlaw rfl
      go_enter Try.func6, Try.ntmps6
      go_wp2_with fail
      refine (hrd _ hb).mono ?_
      rintro e V1 ⟨rfl, hb1⟩
      replace hb := hb.trans (hb1.mono hb.size)
      replace x0 := x0.below hb1
      clear c0 c1 c2 c3 c4 hb1 hrd
      have c0 := x0.cell 0 rfl; have c1 := x0.cell 1 rfl; have c2 := x0.cell 2 rfl; have c3 := x0.cell 3 rfl; have c4 := x0.cell 4 rfl
      go_wp2_with fail
      refine (hfl _ hb).mono ?_
      rintro e Vm ⟨rfl, rfl⟩
      go_wp2_with fail
      refine (hip _ hb).mono ?_
      rintro e Vn ⟨rfl, hb1⟩
      replace hb := hb.trans (hb1.mono hb.size)
      replace x0 := x0.below hb1
      clear hb1 c0 c1 c2 c3 c4
      have c0 := x0.cell 0 rfl; have c1 := x0.cell 1 rfl; have c2 := x0.cell 2 rfl; have c3 := x0.cell 3 rfl; have c4 := x0.cell 4 rfl
      go_upto_region 3 with fail
      have hbd := (Below.refl Vn.heap.size Vn).drew
      have S0 := x0.below hbd
      replace hb := hb.trans (hbd.mono hb.size)
      clear hbd x0 c0 c1 c2 c3 c4
      refine wp_region_head 8 (fun w' => Bx w' w.heap.size #[.slice ab X.bs.length cb, .slice ast X.st.length cs, .slice ae X.er.length ce, .slice ak X.ks.length ck, .int .i64 X.ch] 26) (by kernel_rfl) rfl ?_
      generalize Vn.drew = Y0 at *
      refine HeadAt.take (i := 0) (.agg #[.slice ab X.bs.length cb, .slice ast X.st.length cs, .slice ae X.er.length ce, .slice ak X.ks.length ck, .int .i64 X.ch]) rfl (by kernel_rfl) (.inl ⟨rfl, fun w' z => ?_⟩) S0 ?_
      · (have z0 := z.cell 0 rfl; have z1 := z.cell 1 rfl; have z2 := z.cell 2 rfl; have z3 := z.cell 3 rfl; have z4 := z.cell 4 rfl; simp [go_sem, z0, z1, z2, z3, z4])
      refine HeadAt.take (i := 1) (.slice ap P.length cp) rfl (by kernel_rfl) (.inl ⟨rfl, fun _ _ => by simp [go_sem]⟩) S0 ?_
      (try simp only [Act.put, List.getElem_toArray, List.getElem_cons_succ, List.getElem_cons_zero, List.setIfInBounds_toArray, List.set_cons_succ, List.set_cons_zero])
      refine HeadAt.one (i := 2) rfl (by kernel_rfl) ?_
      generalize hK : Upto _ _ = K0
      (try simp only [Act.put, List.getElem_toArray, List.getElem_cons_succ, List.getElem_cons_zero, List.setIfInBounds_toArray, List.set_cons_succ, List.set_cons_zero])
      go_wp2_with fail
      refine (hcl1 _ hb).mono ?_
      rintro e V2 ⟨hb1, a2, c2, vs, rfl, hown, hrc⟩
      have hlss := hrc.lss hown (by assumption)
      replace S0 := S0.below hb1
      replace hb := hb.trans (hb1.mono hb.size)
      clear hb1 hown hrc
      go_wp2_with fail
      subst hK
      refine ⟨S0, ?_⟩
      (try simp only [Act.put, List.getElem_toArray, List.getElem_cons_succ, List.getElem_cons_zero, List.setIfInBounds_toArray, List.set_cons_succ, List.set_cons_zero])
      refine HeadAt.one (i := 3) rfl (by kernel_rfl) ?_
      generalize hK : Upto _ _ = K0
      (try simp only [Act.put, List.getElem_toArray, List.getElem_cons_succ, List.getElem_cons_zero, List.setIfInBounds_toArray, List.set_cons_succ, List.set_cons_zero])
      go_wp2_with fail
      refine (hfi1 a2 c2 _ hb hlss).mono ?_
      rintro e Vn ⟨rfl, hb1⟩
      replace S0 := S0.below hb1
      replace hb := hb.trans (hb1.mono hb.size)
      clear hb1 hlss
      go_wp2_with fail
      subst hK
      refine ⟨S0, ?_⟩
      (try simp only [Act.put, List.getElem_toArray, List.getElem_cons_succ, List.getElem_cons_zero, List.setIfInBounds_toArray, List.set_cons_succ, List.set_cons_zero])
      refine HeadAt.take (i := 4) (.tuple #[.bool true, .int .i64 0]) rfl (by kernel_rfl) (.inl ⟨rfl, fun _ _ => by simp [go_sem]⟩) S0 ?_
      (try simp only [Act.put, List.getElem_toArray, List.getElem_cons_succ, List.getElem_cons_zero, List.setIfInBounds_toArray, List.set_cons_succ, List.set_cons_zero])
      refine HeadAt.take (i := 5) (.bool true) rfl (by kernel_rfl) (.inl ⟨rfl, fun _ _ => by simp [go_sem]⟩) S0 ?_
      (try simp only [Act.put, List.getElem_toArray, List.getElem_cons_succ, List.getElem_cons_zero, List.setIfInBounds_toArray, List.set_cons_succ, List.set_cons_zero])
      refine HeadAt.take (i := 6) (.int .i64 0) rfl (by kernel_rfl) (.inl ⟨rfl, fun _ _ => by simp [go_sem]⟩) S0 ?_
      (try simp only [Act.put, List.getElem_toArray, List.getElem_cons_succ, List.getElem_cons_zero, List.setIfInBounds_toArray, List.set_cons_succ, List.set_cons_zero])
      refine HeadAt.take (i := 7) (.bool true) rfl (by kernel_rfl) (.inl ⟨rfl, fun _ _ => by simp [go_sem]⟩) S0 ?_
      (try simp only [Act.put, List.getElem_toArray, List.getElem_cons_succ, List.getElem_cons_zero, List.setIfInBounds_toArray, List.set_cons_succ, List.set_cons_zero])
      refine HeadAt.done (by kernel_rfl) ?_
      (try simp only [Act.put, List.drop_succ_cons, List.drop_zero, List.getElem_toArray, List.getElem_cons_succ, List.getElem_cons_zero])
      go_wp2_with fail
      refine NoPanic.normal ?_
      have x0 := S0
      clear S0
      have c0 := x0.cell 0 rfl; have c1 := x0.cell 1 rfl; have c2 := x0.cell 2 rfl; have c3 := x0.cell 3 rfl; have c4 := x0.cell 4 rfl
      go_upto_region 4 with fail
      have hbd := (Below.refl Vn.heap.size Vn).drew
      have S0 := x0.below hbd
      replace hb := hb.trans (hbd.mono hb.size)
      clear hbd x0 c0 c1 c2 c3 c4
      refine wp_region_head 9 (fun w' => Bx w' w.heap.size #[.slice ab X.bs.length cb, .slice ast X.st.length cs, .slice ae X.er.length ce, .slice ak X.ks.length ck, .int .i64 X.ch] 26) (by kernel_rfl) rfl ?_
      generalize Vn.drew = Y0 at *
      refine HeadAt.take (i := 0) (.agg #[.slice ab X.bs.length cb, .slice ast X.st.length cs, .slice ae X.er.length ce, .slice ak X.ks.length ck, .int .i64 X.ch]) rfl (by kernel_rfl) (.inl ⟨rfl, fun w' z => ?_⟩) S0 ?_
      · (have z0 := z.cell 0 rfl; have z1 := z.cell 1 rfl; have z2 := z.cell 2 rfl; have z3 := z.cell 3 rfl; have z4 := z.cell 4 rfl; simp [go_sem, z0, z1, z2, z3, z4])
      refine HeadAt.take (i := 1) (.pointer (some ⟨w.heap.size, 0, none⟩)) rfl (by kernel_rfl) (.inl ⟨rfl, fun _ _ => by simp [go_sem]⟩) S0 ?_
      (try simp only [Act.put, List.getElem_toArray, List.getElem_cons_succ, List.getElem_cons_zero, List.setIfInBounds_toArray, List.set_cons_succ, List.set_cons_zero])
      refine HeadAt.take (i := 2) (.slice ab X.bs.length cb) rfl (by kernel_rfl) (.inl ⟨rfl, fun w' z => ?_⟩) S0 ?_
      · (have z0 := z.cell 0 rfl; simp [go_sem, z0])
      (try simp only [Act.put, List.getElem_toArray, List.getElem_cons_succ, List.getElem_cons_zero, List.setIfInBounds_toArray, List.set_cons_succ, List.set_cons_zero])
      refine HeadAt.one (i := 3) rfl (by kernel_rfl) ?_
      generalize hK : Upto _ _ = K0
      (try simp only [Act.put, List.getElem_toArray, List.getElem_cons_succ, List.getElem_cons_zero, List.setIfInBounds_toArray, List.set_cons_succ, List.set_cons_zero])
      go_wp2_with fail
      refine (hcl2 _ hb).mono ?_
      rintro e V2 ⟨hb1, a2, c2, vs, rfl, hown, hrc⟩
      have hlss := hrc.lss hown (by assumption)
      replace S0 := S0.below hb1
      replace hb := hb.trans (hb1.mono hb.size)
      clear hb1 hown hrc
      go_wp2_with fail
      subst hK
      refine ⟨S0, ?_⟩
      (try simp only [Act.put, List.getElem_toArray, List.getElem_cons_succ, List.getElem_cons_zero, List.setIfInBounds_toArray, List.set_cons_succ, List.set_cons_zero])
      refine HeadAt.one (i := 4) rfl (by kernel_rfl) ?_
      generalize hK : Upto _ _ = K0
      (try simp only [Act.put, List.getElem_toArray, List.getElem_cons_succ, List.getElem_cons_zero, List.setIfInBounds_toArray, List.set_cons_succ, List.set_cons_zero])
      go_wp2_with fail
      refine (hfi2 a2 c2 _ hb hlss).mono ?_
      rintro e Vn ⟨rfl, hb1⟩
      replace S0 := S0.below hb1
      replace hb := hb.trans (hb1.mono hb.size)
      clear hb1 hlss
      go_wp2_with fail
      subst hK
      refine ⟨S0, ?_⟩
      (try simp only [Act.put, List.getElem_toArray, List.getElem_cons_succ, List.getElem_cons_zero, List.setIfInBounds_toArray, List.set_cons_succ, List.set_cons_zero])
      refine HeadAt.take (i := 5) (.tuple #[.bool true, .int .i64 0]) rfl (by kernel_rfl) (.inl ⟨rfl, fun _ _ => by simp [go_sem]⟩) S0 ?_
      (try simp only [Act.put, List.getElem_toArray, List.getElem_cons_succ, List.getElem_cons_zero, List.setIfInBounds_toArray, List.set_cons_succ, List.set_cons_zero])
      refine HeadAt.take (i := 6) (.bool true) rfl (by kernel_rfl) (.inl ⟨rfl, fun _ _ => by simp [go_sem]⟩) S0 ?_
      (try simp only [Act.put, List.getElem_toArray, List.getElem_cons_succ, List.getElem_cons_zero, List.setIfInBounds_toArray, List.set_cons_succ, List.set_cons_zero])
      refine HeadAt.take (i := 7) (.int .i64 0) rfl (by kernel_rfl) (.inl ⟨rfl, fun _ _ => by simp [go_sem]⟩) S0 ?_
      (try simp only [Act.put, List.getElem_toArray, List.getElem_cons_succ, List.getElem_cons_zero, List.setIfInBounds_toArray, List.set_cons_succ, List.set_cons_zero])
      refine HeadAt.take (i := 8) (.bool true) rfl (by kernel_rfl) (.inl ⟨rfl, fun _ _ => by simp [go_sem]⟩) S0 ?_
      (try simp only [Act.put, List.getElem_toArray, List.getElem_cons_succ, List.getElem_cons_zero, List.setIfInBounds_toArray, List.set_cons_succ, List.set_cons_zero])
      refine HeadAt.done (by kernel_rfl) ?_
      (try simp only [Act.put, List.drop_succ_cons, List.drop_zero, List.getElem_toArray, List.getElem_cons_succ, List.getElem_cons_zero])
      go_wp2_with fail
      refine NoPanic.normal ?_
      have x0 := S0
      clear S0
      have c0 := x0.cell 0 rfl; have c1 := x0.cell 1 rfl; have c2 := x0.cell 2 rfl; have c3 := x0.cell 3 rfl; have c4 := x0.cell 4 rfl
      go_wp2_with fail
      refine (hbe _ (hgX _ hb)).mono ?_
      rintro e Vn ⟨rfl, hb1⟩
      replace hb := hb.trans (hb1.mono hb.size)
      replace x0 := x0.below hb1
      clear hb1 c0 c1 c2 c3 c4
      have c0 := x0.cell 0 rfl; have c1 := x0.cell 1 rfl; have c2 := x0.cell 2 rfl; have c3 := x0.cell 3 rfl; have c4 := x0.cell 4 rfl
      go_wp2_with fail
      refine (hal _ (hgX _ hb)).mono ?_
      rintro e Vn ⟨hb1, a5, c5, rfl, hPr⟩
      replace hb := hb.trans (hb1.mono hb.size)
      replace x0 := x0.below hb1
      clear hb1 c0 c1 c2 c3 c4
      have c0 := x0.cell 0 rfl; have c1 := x0.cell 1 rfl; have c2 := x0.cell 2 rfl; have c3 := x0.cell 3 rfl; have c4 := x0.cell 4 rfl
      go_wp2_with fail
      refine (hdf1 _ hb).mono ?_
      rintro e Vn ⟨rfl, hb1⟩
      replace hb := hb.trans (hb1.mono hb.size)
      replace x0 := x0.below hb1
      replace hPr := hPr.below hb1 (Nat.le_refl _)
      clear hb1 c0 c1 c2 c3 c4
      have c0 := x0.cell 0 rfl; have c1 := x0.cell 1 rfl; have c2 := x0.cell 2 rfl; have c3 := x0.cell 3 rfl; have c4 := x0.cell 4 rfl
      go_wp2_with fail
      refine (hea _ hb).mono ?_
      rintro e Vn ⟨rfl, hb1⟩
      replace hb := hb.trans (hb1.mono hb.size)
      replace x0 := x0.below hb1
      replace hPr := hPr.below hb1 (Nat.le_refl _)
      clear hb1 c0 c1 c2 c3 c4
      have c0 := x0.cell 0 rfl; have c1 := x0.cell 1 rfl; have c2 := x0.cell 2 rfl; have c3 := x0.cell 3 rfl; have c4 := x0.cell 4 rfl
      go_wp2_with fail
      refine (hfe _ (hgX _ hb)).mono ?_
      rintro e Vn ⟨rfl, hb1⟩
      replace hb := hb.trans (hb1.mono hb.size)
      replace x0 := x0.below hb1
      replace hPr := hPr.below hb1 (Nat.le_refl _)
      clear hb1 c0 c1 c2 c3 c4
      have c0 := x0.cell 0 rfl; have c1 := x0.cell 1 rfl; have c2 := x0.cell 2 rfl; have c3 := x0.cell 3 rfl; have c4 := x0.cell 4 rfl
      go_wp2_with fail
      refine (hac _ hb).mono ?_
      rintro e Vn ⟨rfl, hb1⟩
      replace hb := hb.trans (hb1.mono hb.size)
      replace x0 := x0.below hb1
      replace hPr := hPr.below hb1 (Nat.le_refl _)
      clear hb1 c0 c1 c2 c3 c4
      have c0 := x0.cell 0 rfl; have c1 := x0.cell 1 rfl; have c2 := x0.cell 2 rfl; have c3 := x0.cell 3 rfl; have c4 := x0.cell 4 rfl
      clear hfl hip hdf1 hcl1 hcl2 hfi1 hfi2 hbe hal hea hfe hac hgX c0 c1 c2 c3 c4 x0
      go_wp2
      go_loopw [16] (fun v16 wr => ∃ k : Nat, k ≤ n ∧ v16 = .int .i64 (k : Int) ∧ Below Vn.heap.size Vn wr) (fun v16 _ => n - (intOf v16).toNat)
      case atStart => exact ⟨0, Nat.zero_le _, rfl, Below.refl _ _⟩
      case round =>
        obtain ⟨k, hk, rfl, hb1⟩ := hrel
        have hbr := hb.trans (hb1.mono hb.size)
        by_cases hlt : k < n
        · have hkl : k < L.length := by rw [← HN.out]; exact hlt
          obtain ⟨b, off, xb, xt, ha5, hbl, hc, hcd, hk1, hk2, hg, _⟩ := (hPr.below hb1 (Nat.le_refl _)).at (k := k) hkl
          subst ha5
          obtain ⟨q0, q1, q2⟩ := hlaw (xb, xt) (List.mem_of_getElem? hg.out)
          replace q0 : 0 ≤ xb := q0
          obtain ⟨j, rfl⟩ := Int.eq_ofNat_of_zero_le q0
          replace q1 : (j : Int) < (P.length : Int) := q1
          replace q2 : inL xt (P.getD j []) = true := q2
          obtain ⟨b2, off2, a2, c2, hap, hbl2, hc2, hI2⟩ := (hgP _ hbr).at (k := j) (by omega)
          subst hap
          have hin := fun (t : Ext wr) => In_any a2 c2 (P.getD j []) xt t.w (hI2.below t.below (Nat.le_refl _))
          rw [q2] at hin
          have hkI : (k : Int) < (n : Int) := by omega
          have hk0 : (0 : Int) ≤ (k : Int) := by omega
          have hk18 : (k : Int) < 18 := by omega
          have hj0 : (0 : Int) ≤ (j : Int) := by omega
          have hjd1 : decide ((j : Int) < 0) = false := decide_eq_false (by omega)
          have hjd2 : decide (P.length ≤ j) = false := decide_eq_false (by omega)
          obtain ⟨LL, hLL⟩ : ∃ LL, LL = P.getD j [] := ⟨_, rfl⟩
          rw [← hLL] at hin hc2
          have f1 := fun t => Ext.cell hc t
          have f2 := fun t => Ext.cell hcd t
          have f3 := fun t => Ext.cell hc2 t
          clear hlaw hg hPr hc hcd hc2 hI2 hLL q2 hkl hgP hb
          go_upto_region 18 with fail
          refine wp_region_ext_lit (by kernel_rfl) (by kernel_rfl) ?_
          repeat (quiet_step (first | (go_at_call 46; exact quiet_ext ((hin _).mono (fun e w' h => ⟨h.1, Below.of_eq h.2⟩)))))
          refine wpQuiet_nil ?_
          intro _ hw'
          obtain ⟨t, rfl⟩ := hw'
          have hb14 := hb1.trans (t.below.mono hb1.size)
          go_wp2
          go_roundw
          case rel => exact ⟨k + 1, by omega, by simp, hb14⟩
          case measure => simp [intOf]; omega
        · have hkI : ¬ (k : Int) < (n : Int) := by omega
          clear hlaw hb
          have hb := hbr
          go_wp2_with fail
          refine (hW _).mono ?_
          rintro e Vw ⟨rfl, hb1⟩
          replace hb := hb.trans (hb1.mono hb.size)
          go_wp2
          go_ret
          exact ⟨rfl, hb⟩
    · have heq' : (en == be) = false := by simpa using heq
      go_enter Try.func6, Try.ntmps6
      go_wp2_with fail
      refine (hrd _ hb).mono ?_
      rintro e V1 ⟨rfl, hb1⟩
      replace hb := hb.trans (hb1.mono hb.size)
      replace x0 := x0.below hb1
      clear c0 c1 c2 c3 c4 hb1 hrd
      have c0 := x0.cell 0 rfl; have c1 := x0.cell 1 rfl; have c2 := x0.cell 2 rfl; have c3 := x0.cell 3 rfl; have c4 := x0.cell 4 rfl
      go_wp2_with fail
      refine (hfl _ hb).mono ?_
      rintro e Vm ⟨rfl, rfl⟩
      go_wp2_with fail
      refine (hip _ hb).mono ?_
      rintro e Vn ⟨rfl, hb1⟩
      replace hb := hb.trans (hb1.mono hb.size)
      replace x0 := x0.below hb1
      clear hb1 c0 c1 c2 c3 c4
      have c0 := x0.cell 0 rfl; have c1 := x0.cell 1 rfl; have c2 := x0.cell 2 rfl; have c3 := x0.cell 3 rfl; have c4 := x0.cell 4 rfl
      go_upto_region 3 with fail
      have hbd := (Below.refl Vn.heap.size Vn).drew
      have S0 := x0.below hbd
      replace hb := hb.trans (hbd.mono hb.size)
      clear hbd x0 c0 c1 c2 c3 c4
      refine wp_region_head 8 (fun w' => Bx w' w.heap.size #[.slice ab X.bs.length cb, .slice ast X.st.length cs, .slice ae X.er.length ce, .slice ak X.ks.length ck, .int .i64 X.ch] 26) (by kernel_rfl) rfl ?_
      generalize Vn.drew = Y0 at *
      refine HeadAt.take (i := 0) (.agg #[.slice ab X.bs.length cb, .slice ast X.st.length cs, .slice ae X.er.length ce, .slice ak X.ks.length ck, .int .i64 X.ch]) rfl (by kernel_rfl) (.inl ⟨rfl, fun w' z => ?_⟩) S0 ?_
      · (have z0 := z.cell 0 rfl; have z1 := z.cell 1 rfl; have z2 := z.cell 2 rfl; have z3 := z.cell 3 rfl; have z4 := z.cell 4 rfl; simp [go_sem, z0, z1, z2, z3, z4])
      refine HeadAt.take (i := 1) (.slice ap P.length cp) rfl (by kernel_rfl) (.inl ⟨rfl, fun _ _ => by simp [go_sem]⟩) S0 ?_
      (try simp only [Act.put, List.getElem_toArray, List.getElem_cons_succ, List.getElem_cons_zero, List.setIfInBounds_toArray, List.set_cons_succ, List.set_cons_zero])
      refine HeadAt.one (i := 2) rfl (by kernel_rfl) ?_
      generalize hK : Upto _ _ = K0
      (try simp only [Act.put, List.getElem_toArray, List.getElem_cons_succ, List.getElem_cons_zero, List.setIfInBounds_toArray, List.set_cons_succ, List.set_cons_zero])
      go_wp2_with fail
      refine (hcl1 _ hb).mono ?_
      rintro e V2 ⟨hb1, a2, c2, vs, rfl, hown, hrc⟩
      have hlss := hrc.lss hown (by assumption)
      replace S0 := S0.below hb1
      replace hb := hb.trans (hb1.mono hb.size)
      clear hb1 hown hrc
      go_wp2_with fail
      subst hK
      refine ⟨S0, ?_⟩
      (try simp only [Act.put, List.getElem_toArray, List.getElem_cons_succ, List.getElem_cons_zero, List.setIfInBounds_toArray, List.set_cons_succ, List.set_cons_zero])
      refine HeadAt.one (i := 3) rfl (by kernel_rfl) ?_
      generalize hK : Upto _ _ = K0
      (try simp only [Act.put, List.getElem_toArray, List.getElem_cons_succ, List.getElem_cons_zero, List.setIfInBounds_toArray, List.set_cons_succ, List.set_cons_zero])
      go_wp2_with fail
      refine (hfi1 a2 c2 _ hb hlss).mono ?_
      rintro e Vn ⟨rfl, hb1⟩
      replace S0 := S0.below hb1
      replace hb := hb.trans (hb1.mono hb.size)
      clear hb1 hlss
      go_wp2_with fail
      subst hK
      refine ⟨S0, ?_⟩
      (try simp only [Act.put, List.getElem_toArray, List.getElem_cons_succ, List.getElem_cons_zero, List.setIfInBounds_toArray, List.set_cons_succ, List.set_cons_zero])
      refine HeadAt.take (i := 4) (.tuple #[.bool true, .int .i64 0]) rfl (by kernel_rfl) (.inl ⟨rfl, fun _ _ => by simp [go_sem]⟩) S0 ?_
      (try simp only [Act.put, List.getElem_toArray, List.getElem_cons_succ, List.getElem_cons_zero, List.setIfInBounds_toArray, List.set_cons_succ, List.set_cons_zero])
      refine HeadAt.take (i := 5) (.bool true) rfl (by kernel_rfl) (.inl ⟨rfl, fun _ _ => by simp [go_sem]⟩) S0 ?_
      (try simp only [Act.put, List.getElem_toArray, List.getElem_cons_succ, List.getElem_cons_zero, List.setIfInBounds_toArray, List.set_cons_succ, List.set_cons_zero])
      refine HeadAt.take (i := 6) (.int .i64 0) rfl (by kernel_rfl) (.inl ⟨rfl, fun _ _ => by simp [go_sem]⟩) S0 ?_
      (try simp only [Act.put, List.getElem_toArray, List.getElem_cons_succ, List.getElem_cons_zero, List.setIfInBounds_toArray, List.set_cons_succ, List.set_cons_zero])
      refine HeadAt.take (i := 7) (.bool true) rfl (by kernel_rfl) (.inl ⟨rfl, fun _ _ => by simp [go_sem]⟩) S0 ?_
      (try simp only [Act.put, List.getElem_toArray, List.getElem_cons_succ, List.getElem_cons_zero, List.setIfInBounds_toArray, List.set_cons_succ, List.set_cons_zero])
      refine HeadAt.done (by kernel_rfl) ?_
      (try simp only [Act.put, List.drop_succ_cons, List.drop_zero, List.getElem_toArray, List.getElem_cons_succ, List.getElem_cons_zero])
      go_wp2_with fail
      refine NoPanic.normal ?_
      have x0 := S0
      clear S0
      have c0 := x0.cell 0 rfl; have c1 := x0.cell 1 rfl; have c2 := x0.cell 2 rfl; have c3 := x0.cell 3 rfl; have c4 := x0.cell 4 rfl
      go_upto_region 4 with fail
      have hbd := (Below.refl Vn.heap.size Vn).drew
      have S0 := x0.below hbd
      replace hb := hb.trans (hbd.mono hb.size)
      clear hbd x0 c0 c1 c2 c3 c4
      refine wp_region_head 9 (fun w' => Bx w' w.heap.size #[.slice ab X.bs.length cb, .slice ast X.st.length cs, .slice ae X.er.length ce, .slice ak X.ks.length ck, .int .i64 X.ch] 26) (by kernel_rfl) rfl ?_
      generalize Vn.drew = Y0 at *
      refine HeadAt.take (i := 0) (.agg #[.slice ab X.bs.length cb, .slice ast X.st.length cs, .slice ae X.er.length ce, .slice ak X.ks.length ck, .int .i64 X.ch]) rfl (by kernel_rfl) (.inl ⟨rfl, fun w' z => ?_⟩) S0 ?_
      · (have z0 := z.cell 0 rfl; have z1 := z.cell 1 rfl; have z2 := z.cell 2 rfl; have z3 := z.cell 3 rfl; have z4 := z.cell 4 rfl; simp [go_sem, z0, z1, z2, z3, z4])
      refine HeadAt.take (i := 1) (.pointer (some ⟨w.heap.size, 0, none⟩)) rfl (by kernel_rfl) (.inl ⟨rfl, fun _ _ => by simp [go_sem]⟩) S0 ?_
      (try simp only [Act.put, List.getElem_toArray, List.getElem_cons_succ, List.getElem_cons_zero, List.setIfInBounds_toArray, List.set_cons_succ, List.set_cons_zero])
      refine HeadAt.take (i := 2) (.slice ab X.bs.length cb) rfl (by kernel_rfl) (.inl ⟨rfl, fun w' z => ?_⟩) S0 ?_
      · (have z0 := z.cell 0 rfl; simp [go_sem, z0])
      (try simp only [Act.put, List.getElem_toArray, List.getElem_cons_succ, List.getElem_cons_zero, List.setIfInBounds_toArray, List.set_cons_succ, List.set_cons_zero])
      refine HeadAt.one (i := 3) rfl (by kernel_rfl) ?_
      generalize hK : Upto _ _ = K0
      (try simp only [Act.put, List.getElem_toArray, List.getElem_cons_succ, List.getElem_cons_zero, List.setIfInBounds_toArray, List.set_cons_succ, List.set_cons_zero])
      go_wp2_with fail
      refine (hcl2 _ hb).mono ?_
      rintro e V2 ⟨hb1, a2, c2, vs, rfl, hown, hrc⟩
      have hlss := hrc.lss hown (by assumption)
      replace S0 := S0.below hb1
      replace hb := hb.trans (hb1.mono hb.size)
      clear hb1 hown hrc
      go_wp2_with fail
      subst hK
      refine ⟨S0, ?_⟩
      (try simp only [Act.put, List.getElem_toArray, List.getElem_cons_succ, List.getElem_cons_zero, List.setIfInBounds_toArray, List.set_cons_succ, List.set_cons_zero])
      refine HeadAt.one (i := 4) rfl (by kernel_rfl) ?_
      generalize hK : Upto _ _ = K0
      (try simp only [Act.put, List.getElem_toArray, List.getElem_cons_succ, List.getElem_cons_zero, List.setIfInBounds_toArray, List.set_cons_succ, List.set_cons_zero])
      go_wp2_with fail
      refine (hfi2 a2 c2 _ hb hlss).mono ?_
      rintro e Vn ⟨rfl, hb1⟩
      replace S0 := S0.below hb1
      replace hb := hb.trans (hb1.mono hb.size)
      clear hb1 hlss
      go_wp2_with fail
      subst hK
      refine ⟨S0, ?_⟩
      (try simp only [Act.put, List.getElem_toArray, List.getElem_cons_succ, List.getElem_cons_zero, List.setIfInBounds_toArray, List.set_cons_succ, List.set_cons_zero])
      refine HeadAt.take (i := 5) (.tuple #[.bool true, .int .i64 0]) rfl (by kernel_rfl) (.inl ⟨rfl, fun _ _ => by simp [go_sem]⟩) S0 ?_
      (try simp only [Act.put, List.getElem_toArray, List.getElem_cons_succ, List.getElem_cons_zero, List.setIfInBounds_toArray, List.set_cons_succ, List.set_cons_zero])
      refine HeadAt.take (i := 6) (.bool true) rfl (by kernel_rfl) (.inl ⟨rfl, fun _ _ => by simp [go_sem]⟩) S0 ?_
      (try simp only [Act.put, List.getElem_toArray, List.getElem_cons_succ, List.getElem_cons_zero, List.setIfInBounds_toArray, List.set_cons_succ, List.set_cons_zero])
      refine HeadAt.take (i := 7) (.int .i64 0) rfl (by kernel_rfl) (.inl ⟨rfl, fun _ _ => by simp [go_sem]⟩) S0 ?_
      (try simp only [Act.put, List.getElem_toArray, List.getElem_cons_succ, List.getElem_cons_zero, List.setIfInBounds_toArray, List.set_cons_succ, List.set_cons_zero])
      refine HeadAt.take (i := 8) (.bool true) rfl (by kernel_rfl) (.inl ⟨rfl, fun _ _ => by simp [go_sem]⟩) S0 ?_
      (try simp only [Act.put, List.getElem_toArray, List.getElem_cons_succ, List.getElem_cons_zero, List.setIfInBounds_toArray, List.set_cons_succ, List.set_cons_zero])
      refine HeadAt.done (by kernel_rfl) ?_
      (try simp only [Act.put, List.drop_succ_cons, List.drop_zero, List.getElem_toArray, List.getElem_cons_succ, List.getElem_cons_zero])
      go_wp2_with fail
      refine NoPanic.normal ?_
      have x0 := S0
      clear S0
      have c0 := x0.cell 0 rfl; have c1 := x0.cell 1 rfl; have c2 := x0.cell 2 rfl; have c3 := x0.cell 3 rfl; have c4 := x0.cell 4 rfl
      go_wp2_with fail
      refine (hbe _ (hgX _ hb)).mono ?_
      rintro e Vn ⟨rfl, hb1⟩
      replace hb := hb.trans (hb1.mono hb.size)
      replace x0 := x0.below hb1
      clear hb1 c0 c1 c2 c3 c4
      have c0 := x0.cell 0 rfl; have c1 := x0.cell 1 rfl; have c2 := x0.cell 2 rfl; have c3 := x0.cell 3 rfl; have c4 := x0.cell 4 rfl
      go_wp2_with fail
      refine (hal _ (hgX _ hb)).mono ?_
      rintro e Vn ⟨hb1, a5, c5, rfl, hPr⟩
      replace hb := hb.trans (hb1.mono hb.size)
      replace x0 := x0.below hb1
      clear hb1 c0 c1 c2 c3 c4
      have c0 := x0.cell 0 rfl; have c1 := x0.cell 1 rfl; have c2 := x0.cell 2 rfl; have c3 := x0.cell 3 rfl; have c4 := x0.cell 4 rfl
      go_wp2_with fail
      refine (hdf1 _ hb).mono ?_
      rintro e Vn ⟨rfl, hb1⟩
      replace hb := hb.trans (hb1.mono hb.size)
      replace x0 := x0.below hb1
      replace hPr := hPr.below hb1 (Nat.le_refl _)
      clear hb1 c0 c1 c2 c3 c4
      have c0 := x0.cell 0 rfl; have c1 := x0.cell 1 rfl; have c2 := x0.cell 2 rfl; have c3 := x0.cell 3 rfl; have c4 := x0.cell 4 rfl
      go_wp2_with fail
      refine (hea _ hb).mono ?_
      rintro e Vn ⟨rfl, hb1⟩
      replace hb := hb.trans (hb1.mono hb.size)
      replace x0 := x0.below hb1
      replace hPr := hPr.below hb1 (Nat.le_refl _)
      clear hb1 c0 c1 c2 c3 c4
      have c0 := x0.cell 0 rfl; have c1 := x0.cell 1 rfl; have c2 := x0.cell 2 rfl; have c3 := x0.cell 3 rfl; have c4 := x0.cell 4 rfl
      go_wp2_with fail
      refine (hfe _ (hgX _ hb)).mono ?_
      rintro e Vn ⟨rfl, hb1⟩
      replace hb := hb.trans (hb1.mono hb.size)
      replace x0 := x0.below hb1
      replace hPr := hPr.below hb1 (Nat.le_refl _)
      clear hb1 c0 c1 c2 c3 c4
      have c0 := x0.cell 0 rfl; have c1 := x0.cell 1 rfl; have c2 := x0.cell 2 rfl; have c3 := x0.cell 3 rfl; have c4 := x0.cell 4 rfl
      go_wp2_with fail
      refine (hac _ hb).mono ?_
      rintro e Vn ⟨rfl, hb1⟩
      replace hb := hb.trans (hb1.mono hb.size)
      replace x0 := x0.below hb1
      replace hPr := hPr.below hb1 (Nat.le_refl _)
      clear hb1 c0 c1 c2 c3 c4
      have c0 := x0.cell 0 rfl; have c1 := x0.cell 1 rfl; have c2 := x0.cell 2 rfl; have c3 := x0.cell 3 rfl; have c4 := x0.cell 4 rfl
      clear hPr hlaw
      clear hfl hip hdf1 hcl1 hcl2 hfi1 hfi2 hbe hal hea hfe hac hgX c0 c1 c2 c3 c4 x0
      go_wp2
      go_loopw [16] (fun v16 wr => v16 = .int .i64 0 ∧ wr = Vn) (fun _ _ => 0)
      case atStart => exact ⟨rfl, rfl⟩
      case round =>
        obtain ⟨rfl, rfl⟩ := hrel
        by_cases h0 : 0 < n
        · have h0I : (0 : Int) < (n : Int) := by omega
          go_wp2_with fail
          refine (hW _).mono ?_
          rintro e Vw ⟨rfl, hb1⟩
          replace hb := hb.trans (hb1.mono hb.size)
          go_wp2
          go_ret
          exact ⟨rfl, hb⟩
        · have h0I : ¬ (0 : Int) < (n : Int) := by omega
          go_wp2_with fail
          refine (hW _).mono ?_
          rintro e Vw ⟨rfl, hb1⟩
          replace hb := hb.trans (hb1.mono hb.size)
          go_wp2
          go_ret
          exact ⟨rfl, hb⟩
end Go.Proofs.Ytipdohpbilabiaa
