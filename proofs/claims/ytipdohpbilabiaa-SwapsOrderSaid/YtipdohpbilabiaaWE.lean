import Derived.Test.YtipdohpbilabiaaMA
import Derived.Test.YtipdohpbilabiaaW2
/-! SwapsOrder. -/
namespace Go.Proofs.Ytipdohpbilabiaa
set_option linter.unusedSimpArgs false
set_option linter.unusedVariables false
open Go Go.RowKit

theorem ofair_two {X Y : Sw} (hvX : vB X = true) (hvY : vB Y = true) (h : Mir X.vz Y.vz) : ∃ m f : Int,
    (∀ (ab ast ae ak : Option Addr) (cb cs ce ck : Nat) V, Swp V ab ast ae ak X → Calls Try.prog 31 #[.agg #[.slice ab X.bs.length cb, .slice ast X.st.length cs, .slice ae X.er.length ce, .slice ak X.ks.length ck, .int .i64 X.ch]] V fun e w' => e = .returned (.tuple #[.int .i64 m, .int .i64 f]) ∧ Below V.heap.size V w') ∧
    (∀ (ab ast ae ak : Option Addr) (cb cs ce ck : Nat) V, Swp V ab ast ae ak Y → Calls Try.prog 31 #[.agg #[.slice ab Y.bs.length cb, .slice ast Y.st.length cs, .slice ae Y.er.length ce, .slice ak Y.ks.length ck, .int .i64 Y.ch]] V fun e w' => e = .returned (.tuple #[.int .i64 m, .int .i64 f]) ∧ Below V.heap.size V w') := by
  have hl : Y.bs.length = X.bs.length := h.nb
  by_cases h0 : X.bs.length = 0
  · exact ⟨0, 3, fun ab ast ae ak cb cs ce ck V hX => FairNone_ok ab ast ae ak cb cs ce ck X V hX hvX h0, fun ab ast ae ak cb cs ce ck V hX => FairNone_ok ab ast ae ak cb cs ce ck Y V hX hvY (by omega)⟩
  · refine ⟨_, 0, fun ab ast ae ak cb cs ce ck V hX => Fair_ok ab ast ae ak cb cs ce ck X V hX hvX (by omega), fun ab ast ae ak cb cs ce ck V hX => ?_⟩
    have := Fair_ok ab ast ae ak cb cs ce ck Y V hX hvY (by omega)
    rw [mir_fair h] at this
    exact this
theorem ofew_two {X Y : Sw} (hvX : vB X = true) (hvY : vB Y = true) (h : Mir X.vz Y.vz) (goal : Int) : ∃ m f : Int,
    (∀ (ab ast ae ak : Option Addr) (cb cs ce ck : Nat) V, Swp V ab ast ae ak X → Calls Try.prog 38 #[.agg #[.slice ab X.bs.length cb, .slice ast X.st.length cs, .slice ae X.er.length ce, .slice ak X.ks.length ck, .int .i64 X.ch], .int .i64 goal] V fun e w' => e = .returned (.tuple #[.int .i64 m, .int .i64 f]) ∧ Below V.heap.size V w') ∧
    (∀ (ab ast ae ak : Option Addr) (cb cs ce ck : Nat) V, Swp V ab ast ae ak Y → Calls Try.prog 38 #[.agg #[.slice ab Y.bs.length cb, .slice ast Y.st.length cs, .slice ae Y.er.length ce, .slice ak Y.ks.length ck, .int .i64 Y.ch], .int .i64 goal] V fun e w' => e = .returned (.tuple #[.int .i64 m, .int .i64 f]) ∧ Below V.heap.size V w') := by
  cases hi : inI 0 goal 99999
  · exact ⟨0, 1, fun ab ast ae ak cb cs ce ck V hX => Fewest_bad ab ast ae ak cb cs ce ck X goal V hX 1 (by rw [hvX]; rfl) (fun _ => hi), fun ab ast ae ak cb cs ce ck V hX => Fewest_bad ab ast ae ak cb cs ce ck Y goal V hX 1 (by rw [hvY]; rfl) (fun _ => hi)⟩
  · obtain ⟨h1, h2⟩ := mir_few h goal
    refine ⟨if (fewV X.vz goal).2 then (fewV X.vz goal).1 else 0, if (fewV X.vz goal).2 then 0 else 3, fun ab ast ae ak cb cs ce ck V hX => Fewest_ok ab ast ae ak cb cs ce ck X goal V hX hvX hi _ _ rfl, fun ab ast ae ak cb cs ce ck V hX => ?_⟩
    exact few_law ab ast ae ak cb cs ce ck Y hvY goal (inI_iff.1 hi).1 (inI_iff.1 hi).2 _ _ (by
      rw [h1]
      split
      · rename_i h; rw [h2 h]
      · rfl) (by rw [h1]) V hX
theorem ocopy_two {X Y : Sw} (hvX : vB X = true) (hvY : vB Y = true) (h : Mir X.vz Y.vz) (t : Int) : ∃ m f : Int,
    (∀ (ab ast ae ak : Option Addr) (cb cs ce ck : Nat) V, Swp V ab ast ae ak X → Calls Try.prog 40 #[.agg #[.slice ab X.bs.length cb, .slice ast X.st.length cs, .slice ae X.er.length ce, .slice ak X.ks.length ck, .int .i64 X.ch], .int .i64 t] V fun e w' => e = .returned (.tuple #[.int .i64 m, .int .i64 f]) ∧ Below V.heap.size V w') ∧
    (∀ (ab ast ae ak : Option Addr) (cb cs ce ck : Nat) V, Swp V ab ast ae ak Y → Calls Try.prog 40 #[.agg #[.slice ab Y.bs.length cb, .slice ast Y.st.length cs, .slice ae Y.er.length ce, .slice ak Y.ks.length ck, .int .i64 Y.ch], .int .i64 t] V fun e w' => e = .returned (.tuple #[.int .i64 m, .int .i64 f]) ∧ Below V.heap.size V w') := by
  have hn : ntI Y = ntI X := by
    unfold ntI
    have : Y.st = X.st := h.st
    rw [this]
  cases hi : inI 0 t (ntI X)
  · exact ⟨0, 1, fun ab ast ae ak cb cs ce ck V hX => Copy_bad ab ast ae ak cb cs ce ck X t V hX 1 (by rw [hvX]; rfl) (fun _ => hi), fun ab ast ae ak cb cs ce ck V hX => Copy_bad ab ast ae ak cb cs ce ck Y t V hX 1 (by rw [hvY]; rfl) (fun _ => by rw [hn]; exact hi)⟩
  · refine ⟨copyV X.vz t.toNat, 0, fun ab ast ae ak cb cs ce ck V hX => Copy_ok ab ast ae ak cb cs ce ck X t V hX hvX hi, fun ab ast ae ak cb cs ce ck V hX => ?_⟩
    have := Copy_ok ab ast ae ak cb cs ce ck Y t V hX hvY (by rw [hn]; exact hi)
    rw [mir_copy h] at this
    exact this
theorem obest_two {X Y : Sw} (hvX : vB X = true) (hvY : vB Y = true) (h : Mir X.vz Y.vz) : ∃ m f : Int,
    (∀ (ab ast ae ak : Option Addr) (cb cs ce ck : Nat) V, Swp V ab ast ae ak X → Calls Try.prog 27 #[.agg #[.slice ab X.bs.length cb, .slice ast X.st.length cs, .slice ae X.er.length ce, .slice ak X.ks.length ck, .int .i64 X.ch]] V fun e w' => e = .returned (.tuple #[.int .i64 m, .int .i64 f]) ∧ Below V.heap.size V w') ∧
    (∀ (ab ast ae ak : Option Addr) (cb cs ce ck : Nat) V, Swp V ab ast ae ak Y → Calls Try.prog 27 #[.agg #[.slice ab Y.bs.length cb, .slice ast Y.st.length cs, .slice ae Y.er.length ce, .slice ak Y.ks.length ck, .int .i64 Y.ch]] V fun e w' => e = .returned (.tuple #[.int .i64 m, .int .i64 f]) ∧ Below V.heap.size V w') := by
  refine ⟨_, 0, fun ab ast ae ak cb cs ce ck V hX => Best_ok ab ast ae ak cb cs ce ck X V hX hvX, fun ab ast ae ak cb cs ce ck V hX => ?_⟩
  have := Best_ok ab ast ae ak cb cs ce ck Y V hX hvY
  rw [mir_best h] at this
  exact this
theorem ochg_two {X Y : Sw} (hvX : vB X = true) (hvY : vB Y = true) (h : Mir X.vz Y.vz) : ∃ m f : Int,
    (∀ (ab ast ae ak : Option Addr) (cb cs ce ck : Nat) V, Swp V ab ast ae ak X → Calls Try.prog 42 #[.agg #[.slice ab X.bs.length cb, .slice ast X.st.length cs, .slice ae X.er.length ce, .slice ak X.ks.length ck, .int .i64 X.ch]] V fun e w' => e = .returned (.tuple #[.int .i64 m, .int .i64 f]) ∧ Below V.heap.size V w') ∧
    (∀ (ab ast ae ak : Option Addr) (cb cs ce ck : Nat) V, Swp V ab ast ae ak Y → Calls Try.prog 42 #[.agg #[.slice ab Y.bs.length cb, .slice ast Y.st.length cs, .slice ae Y.er.length ce, .slice ak Y.ks.length ck, .int .i64 Y.ch]] V fun e w' => e = .returned (.tuple #[.int .i64 m, .int .i64 f]) ∧ Below V.heap.size V w') := by
  refine ⟨_, 0, fun ab ast ae ak cb cs ce ck V hX => Change_ok ab ast ae ak cb cs ce ck X V hX hvX, fun ab ast ae ak cb cs ce ck V hX => ?_⟩
  have := Change_ok ab ast ae ak cb cs ce ck Y V hX hvY
  rw [mir_chg h] at this
  exact this

set_option maxRecDepth 100000 in
set_option maxHeartbeats 4000000 in
theorem Order_bad (ab ast ae ak : Option Addr) (cb cs ce ck : Nat) (X : Sw) (goal xt : Int) (w : World) (hrd : ∀ V, Below w.heap.size w V → Calls Try.prog 44 #[.agg #[.slice ab X.bs.length cb, .slice ast X.st.length cs, .slice ae X.er.length ce, .slice ak X.ks.length ck, .int .i64 X.ch]] V fun e w' => e = .returned (.bool false) ∧ Below V.heap.size V w') : Calls Try.prog 12 #[.agg #[.slice ab X.bs.length cb, .slice ast X.st.length cs, .slice ae X.er.length ce, .slice ak X.ks.length ck, .int .i64 X.ch], .agg #[.int .i64 goal, .int .i64 xt]] w fun e w' => e = .returned (.bool true) ∧ Below w.heap.size w w' := by
  obtain ⟨W, hWW, hb, _, x0, y0⟩ := boxes2 w #[.slice ab X.bs.length cb, .slice ast X.st.length cs, .slice ae X.er.length ce, .slice ak X.ks.length ck, .int .i64 X.ch] 26 #[.int .i64 goal, .int .i64 xt] 51
  have hW := works_any
  have c0 := x0.cell 0 rfl; have c1 := x0.cell 1 rfl; have c2 := x0.cell 2 rfl; have c3 := x0.cell 3 rfl; have c4 := x0.cell 4 rfl; have d0 := y0.cell 0 rfl; have d1 := y0.cell 1 rfl
  go_enter Try.func12, Try.ntmps12
  go_wp2_with fail
  refine (hrd _ hb).mono ?_
  rintro e V1 ⟨rfl, hb1⟩
  replace hb := hb.trans (hb1.mono hb.size)
  replace x0 := x0.below hb1
  replace y0 := y0.below hb1
  clear c0 c1 c2 c3 c4 d0 d1 hb1 hrd
  have c0 := x0.cell 0 rfl; have c1 := x0.cell 1 rfl; have c2 := x0.cell 2 rfl; have c3 := x0.cell 3 rfl; have c4 := x0.cell 4 rfl; have d0 := y0.cell 0 rfl; have d1 := y0.cell 1 rfl
  go_wp2_with fail
  refine (hW _).mono ?_
  rintro e Vw ⟨rfl, hb1⟩
  replace hb := hb.trans (hb1.mono hb.size)
  go_wp2
  go_ret
  exact ⟨rfl, hb⟩

set_option maxRecDepth 100000 in
set_option maxHeartbeats 8000000 in
theorem swapsOrder_any (ab ast ae ak : Option Addr) (cb cs ce ck : Nat) (X : Sw) (goal xt : Int) (w : World) (hX : Swp w ab ast ae ak X) (hr : rdB X = true) : Calls Try.prog 12 #[.agg #[.slice ab X.bs.length cb, .slice ast X.st.length cs, .slice ae X.er.length ce, .slice ak X.ks.length ck, .int .i64 X.ch], .agg #[.int .i64 goal, .int .i64 xt]] w fun e w' => e = .returned (.bool true) ∧ Below w.heap.size w w' := by
  have hv := (rdB_iff hr).1
  have hok := vB_iff hv
  obtain ⟨W, hWW, hb, _, x0, y0⟩ := boxes2 w #[.slice ab X.bs.length cb, .slice ast X.st.length cs, .slice ae X.er.length ce, .slice ak X.ks.length ck, .int .i64 X.ch] 26 #[.int .i64 goal, .int .i64 xt] 51
  have hgX := fun V (h : Below w.heap.size w V) => hX.below h (Nat.le_refl _)
  have hrd := fun V h => ready_any ab ast ae ak cb cs ce ck X V (hgX V h)
  rw [hr] at hrd
  have hW := works_any
  have hbl : ∀ l ∈ X.bs, l.length ≤ 1000 := fun l hl => by
    obtain ⟨i, hi, rfl⟩ := mem_getD [] hl
    have := (hok.b3 i hi).1; omega
  have hel : ∀ l ∈ X.er, l.length ≤ 1000 := fun l hl => by
    obtain ⟨i, hi, rfl⟩ := mem_getD [] hl
    have := (hok.er2 i hi).1; have := hok.nb3; omega
  have hcl := fun V h => CloneM_any ab ast ae ak cb cs ce ck X V (hgX V h) (by have := hok.nb3; omega) hbl (by have := hok.t6; omega) (by have := hok.er1; have := hok.t6; omega) hel (by have := hok.k4; omega)
  have hn3 := hok.nb3
  have he6 : X.er.length ≤ 6 := by rw [hok.er1]; exact hok.t6
  have hk4 := hok.k4
  have HOK := hid hok
  have c0 := x0.cell 0 rfl; have c1 := x0.cell 1 rfl; have c2 := x0.cell 2 rfl; have c3 := x0.cell 3 rfl; have c4 := x0.cell 4 rfl; have d0 := y0.cell 0 rfl; have d1 := y0.cell 1 rfl
  clear hX hr hbl hel hok
  go_enter Try.func12, Try.ntmps12
  go_wp2_with fail
  refine (hrd _ hb).mono ?_
  rintro e V1 ⟨rfl, hb1⟩
  replace hb := hb.trans (hb1.mono hb.size)
  replace x0 := x0.below hb1
  replace y0 := y0.below hb1
  clear c0 c1 c2 c3 c4 d0 d1 hb1 hrd
  have c0 := x0.cell 0 rfl; have c1 := x0.cell 1 rfl; have c2 := x0.cell 2 rfl; have c3 := x0.cell 3 rfl; have c4 := x0.cell 4 rfl; have d0 := y0.cell 0 rfl; have d1 := y0.cell 1 rfl
  have hB : w.heap.size + 2 ≤ V1.heap.size := by have := y0.lt; omega
  go_wp2_with fail
  refine (hcl _ hb).mono ?_
  rintro e Vn ⟨hb1, oab, oast, oae, oak, ocb, ocs, oce, ock, rfl, hM⟩
  replace hb := hb.trans (hb1.mono hb.size)
  replace x0 := x0.below hb1
  replace y0 := y0.below hb1
  have hbA := below_one (w := Vn) (.cells #[.slice oab X.bs.length ocb, .slice oast X.st.length ocs, .slice oae X.er.length oce, .slice oak X.ks.length ock, .int .i64 X.ch] 26)
  have z0 := Bx.new Vn #[.slice oab X.bs.length ocb, .slice oast X.st.length ocs, .slice oae X.er.length oce, .slice oak X.ks.length ock, .int .i64 X.ch] 26
  have hgw : w.heap.size + 2 ≤ Vn.heap.size := Nat.le_trans hB hb1.size
  have HH := hid (And.intro (hb.trans (hbA.mono hb.size)) (And.intro (x0.below hbA) (And.intro (y0.below hbA) (And.intro z0 (hM.below hbA)))))
  clear hb x0 y0 z0 hbA hb1 c0 c1 c2 c3 c4 d0 d1 hcl hM
  go_upto_region 4 with fail
  obtain ⟨hb, x0, y0, z0, hM⟩ := HH.out
  clear HH
  obtain ⟨g, hg⟩ : ∃ g, g = Vn.heap.size := ⟨_, rfl⟩
  rw [← hg] at z0 hgw ⊢
  clear hg
  generalize Vn.alloc _ = Vn at *
  replace hM := hM.open
  rw [← xO_first X] at hM
  rw [show (xO X 0 0 0).bs.length = X.bs.length by rw [xO_first], show (xO X 0 0 0).st.length = X.st.length by rw [xO_first], show (xO X 0 0 0).er.length = X.er.length by rw [xO_first], show (xO X 0 0 0).ks.length = X.ks.length by rw [xO_first]] at hM
  obtain ⟨H, hH⟩ : ∃ H, H = Vn.heap.size := ⟨_, rfl⟩
  rw [← hH] at hM
  clear hH
  obtain ⟨j0, hj, jz0, jz1, jz2⟩ := info_parts info3i
  have hwl : IntKind.i64.wrap ((X.bs.length : Int) - 1) = (X.bs.length : Int) - 1 := IntWalk.i64_in _ (by omega)
  have c0 := x0.cell 0 rfl; have c1 := x0.cell 1 rfl; have c2 := x0.cell 2 rfl; have c3 := x0.cell 3 rfl; have c4 := x0.cell 4 rfl
  go_wp2
  clear c0 c1 c2 c3 c4
  go_loopw [7] (fun v7 wr => ∃ i : Nat, i ≤ X.bs.length ∧ v7 = .int .i64 (i : Int) ∧ Below w.heap.size w wr ∧ Bx wr w.heap.size #[.slice ab X.bs.length cb, .slice ast X.st.length cs, .slice ae X.er.length ce, .slice ak X.ks.length ck, .int .i64 X.ch] 26 ∧ Bx wr (w.heap.size + 1) #[.int .i64 goal, .int .i64 xt] 51 ∧ Bx wr g #[.slice oab X.bs.length ocb, .slice oast X.st.length ocs, .slice oae X.er.length oce, .slice oak X.ks.length ock, .int .i64 X.ch] 26 ∧ OMem wr (V1.heap.size + 2) H (.slice oab X.bs.length ocb) (.slice oast X.st.length ocs) (.slice oae X.er.length oce) (.slice oak X.ks.length ock) (xO X i i 0)) (fun v7 _ => X.bs.length - (intOf v7).toNat)
  case atStart => exact ⟨0, Nat.zero_le _, rfl, hb, x0, y0, z0, hM⟩
  case round =>
    clear hb x0 y0 z0 hM
    obtain ⟨i, hi, rfl, hb, x0, y0, z0, hM⟩ := hrel
    obtain ⟨Vn, rfl⟩ : ∃ V : World, V = wr := ⟨_, rfl⟩
    by_cases hlt : i < X.bs.length
    · obtain ⟨ks, hks⟩ : ∃ ks, X.bs[i]? = some ks := ⟨_, List.getElem?_eq_getElem hlt⟩
      have hkd : X.bs.getD i [] = ks := by rw [List.getD_eq_getElem?_getD, hks]; rfl
      have hkl3 := (HOK.out.b3 i hlt).1
      rw [hkd] at hkl3
      have HKS := hid hks
      obtain ⟨r, hr⟩ : ∃ r, r = X.bs.length - 1 - i := ⟨_, rfl⟩
      have hwr : IntKind.i64.wrap ((X.bs.length : Int) - 1 - (i : Int)) = (r : Int) := by rw [IntWalk.i64_in _ (by omega)]; omega
      have hrl : (r : Int) < (X.bs.length : Int) := by omega
      have hr0 : (0 : Int) ≤ (r : Int) := by omega
      have hiI : (i : Int) < (X.bs.length : Int) := by omega
      have hi0 : (0 : Int) ≤ (i : Int) := by omega
      have hle : (i : Int) ≤ (X.bs.length : Int) - 1 := by omega
      have HR := hid hr
      clear hr hks
      have hbd := (Below.refl Vn.heap.size Vn).drew
      have hx1 := x0.below hbd
      have hy1 := y0.below hbd
      have hz1 := z0.below hbd
      have hM1 := hM.below hbd
      have hb1 := hb.trans (hbd.mono hb.size)
      obtain ⟨bb, ob, ab', cb', hab, hbbl, hcb, hIk⟩ := (hgX _ hb1).1.at (k := i) hlt
      rw [hkd] at hcb hIk
      have HAB := hid hab
      have S0 := And.intro hx1 (And.intro hz1 (And.intro hbbl hcb))
      have HN := hid (And.intro hb1 (And.intro hy1 (And.intro hM1 hIk)))
      clear hbd hx1 hy1 hz1 hM1 hb1 hbbl hcb hIk hM hkd hab
      have c0 := x0.cell 0 rfl; have c1 := x0.cell 1 rfl; have c2 := x0.cell 2 rfl; have c3 := x0.cell 3 rfl; have c4 := x0.cell 4 rfl
      go_upto_region 8 with fail
      clear c0 c1 c2 c3 c4 x0 y0 z0 hb
      refine wp_region_head 13 (fun w' => Bx w' w.heap.size #[.slice ab X.bs.length cb, .slice ast X.st.length cs, .slice ae X.er.length ce, .slice ak X.ks.length ck, .int .i64 X.ch] 26 ∧ Bx w' g #[.slice oab X.bs.length ocb, .slice oast X.st.length ocs, .slice oae X.er.length oce, .slice oak X.ks.length ock, .int .i64 X.ch] 26 ∧ bb < w'.heap.size ∧ w'.cell? ⟨bb, ob + i, none⟩ = some (.slice ab' ks.length cb')) (by kernel_rfl) rfl ?_
      generalize Vn.drew = Yw at *
      refine HeadAt.take (i := 0) (.pointer (some ⟨g, 0, none⟩)) rfl (by kernel_rfl) (.inl ⟨rfl, fun _ _ => by simp [go_sem]⟩) S0 ?_
      (try simp only [Act.put, List.getElem_toArray, List.getElem_cons_succ, List.getElem_cons_zero, List.setIfInBounds_toArray, List.set_cons_succ, List.set_cons_zero])
      refine HeadAt.take (i := 1) (.slice oab X.bs.length ocb) rfl (by kernel_rfl) (.inl ⟨rfl, fun w' z => ?_⟩) S0 ?_
      · (have z0 := z.2.1.cell 0 rfl; simp [go_sem, z0])
      refine HeadAt.take (i := 2) (.int .i64 ((X.bs.length : Int) - 1)) rfl (by kernel_rfl) (.inl ⟨rfl, fun _ _ => by simp [go_sem]⟩) S0 ?_
      (try simp only [Act.put, List.getElem_toArray, List.getElem_cons_succ, List.getElem_cons_zero, List.setIfInBounds_toArray, List.set_cons_succ, List.set_cons_zero])
      refine HeadAt.take (i := 3) (.int .i64 (i : Int)) rfl (by kernel_rfl) (.inl ⟨rfl, fun _ _ => by simp [go_sem]⟩) S0 ?_
      (try simp only [Act.put, List.getElem_toArray, List.getElem_cons_succ, List.getElem_cons_zero, List.setIfInBounds_toArray, List.set_cons_succ, List.set_cons_zero])
      refine HeadAt.take (i := 4) (.int .i64 (r : Int)) rfl (by kernel_rfl) (.inl ⟨rfl, fun w' z => ?_⟩) S0 ?_
      · (simp [go_sem, hwr])
      refine HeadAt.take (i := 6) (.pointer (some ⟨w.heap.size, 0, none⟩)) rfl (by kernel_rfl) (.inl ⟨rfl, fun _ _ => by simp [go_sem]⟩) S0 ?_
      (try simp only [Act.put, List.getElem_toArray, List.getElem_cons_succ, List.getElem_cons_zero, List.setIfInBounds_toArray, List.set_cons_succ, List.set_cons_zero])
      refine HeadAt.take (i := 7) (.slice ab X.bs.length cb) rfl (by kernel_rfl) (.inl ⟨rfl, fun w' z => ?_⟩) S0 ?_
      · (have z0 := z.1.cell 0 rfl; simp [go_sem, z0])
      refine HeadAt.take (i := 8) (.int .i64 (i : Int)) rfl (by kernel_rfl) (.inl ⟨rfl, fun _ _ => by simp [go_sem]⟩) S0 ?_
      (try simp only [Act.put, List.getElem_toArray, List.getElem_cons_succ, List.getElem_cons_zero, List.setIfInBounds_toArray, List.set_cons_succ, List.set_cons_zero])
      refine HeadAt.take (i := 9) (.pointer (some ⟨bb, ob + i, none⟩)) rfl (by kernel_rfl) (.inl ⟨rfl, fun w' z => ?_⟩) S0 ?_
      · (have hab := HAB.out; simp [go_sem, hiI, hab])
      (try simp only [Act.put, List.getElem_toArray, List.getElem_cons_succ, List.getElem_cons_zero, List.setIfInBounds_toArray, List.set_cons_succ, List.set_cons_zero])
      refine HeadAt.take (i := 10) (.slice ab' ks.length cb') rfl (by kernel_rfl) (.inl ⟨rfl, fun w' z => ?_⟩) S0 ?_
      · (have z2 := z.2.2.2; simp [go_sem, z2])
      refine HeadAt.one (i := 5) rfl (by kernel_rfl) ?_
      generalize hK : Upto _ _ = K0
      (try simp only [Act.put, List.getElem_toArray, List.getElem_cons_succ, List.getElem_cons_zero, List.setIfInBounds_toArray, List.set_cons_succ, List.set_cons_zero])
      have hb1 := below_one (w := Yw) (.cells #[] 3)
      have ho1 := own_litB Yw 3 1 (B := Yw.heap.size) (Nat.le_refl _)
      have HA := hid (And.intro (And.intro (S0.1.below hb1) (And.intro (S0.2.1.below hb1) (And.intro (Nat.lt_of_lt_of_le S0.2.2.1 hb1.size) (show (Yw.alloc (.cells #[] 3)).cell? ⟨bb, ob + i, none⟩ = some (.slice ab' ks.length cb') by rw [hb1.cell (p := ⟨bb, ob + i, none⟩) S0.2.2.1]; exact S0.2.2.2)))) (And.intro (HN.out.1.trans (hb1.mono HN.out.1.size)) (And.intro (HN.out.2.1.below hb1) (And.intro (HN.out.2.2.1.below hb1) (And.intro (HN.out.2.2.2.below hb1 (Nat.le_refl _)) ho1)))))
      obtain ⟨gl, hgl⟩ : ∃ gl, gl = Yw.heap.size := ⟨_, rfl⟩
      have hgH : H ≤ gl := by
        obtain ⟨_, _, _, _, _, _, _, hh, _⟩ := HN.out.2.2.1.ex
        omega
      clear hb1 ho1 HN S0
      go_wp2_with fail
      subst hK
      obtain ⟨S0, HN⟩ := HA.out
      replace HN := hid HN
      clear HA
      refine ⟨S0, ?_⟩
      (try simp only [Act.put, List.getElem_toArray, List.getElem_cons_succ, List.getElem_cons_zero, List.setIfInBounds_toArray, List.set_cons_succ, List.set_cons_zero])
      rw [← hgl] at HN ⊢
      clear hgl
      generalize Yw.alloc _ = Yw at *
      obtain ⟨hb, hy1, hM1, hIk, ho1⟩ := HN.out
      clear HN
      have hgs : gl ≤ Yw.heap.size := by
        have := (ho1.lt gl rfl).2; omega
      refine HeadAt.one (i := 11) rfl (by kernel_rfl) ?_
      generalize hK : Upto _ _ = K0
      (try simp only [Act.put, List.getElem_toArray, List.getElem_cons_succ, List.getElem_cons_zero, List.setIfInBounds_toArray, List.set_cons_succ, List.set_cons_zero])
      refine wpList_appLit rfl (.tmp 42) (.tmp 47) 23 rfl gl 3 j0 (.int .i64 0) 1 8 under23 hj jz0 jz1 jz2 rfl (by decide) gl rfl ho1 ab' ks.length cb' (ks.map (Value.int .i64)) rfl (by simp) hIk.cls (ints_one ks) (by unfold maxLen; omega) (by omega) hgs ?_
      intro v1 V2 hown1 hb1 hpl
      subst hK
      refine ⟨⟨S0.1.below hb1, S0.2.1.below hb1, Nat.lt_of_lt_of_le S0.2.2.1 hb1.size, by rw [hb1.cell (p := ⟨bb, ob + i, none⟩) S0.2.2.1]; exact S0.2.2.2⟩, ?_⟩
      (try simp only [Act.put, List.getElem_toArray, List.getElem_cons_succ, List.getElem_cons_zero, List.setIfInBounds_toArray, List.set_cons_succ, List.set_cons_zero])
      replace S0 := And.intro (S0.1.below hb1) (And.intro (S0.2.1.below hb1) (And.intro (Nat.lt_of_lt_of_le S0.2.2.1 hb1.size) (show V2.cell? ⟨bb, ob + i, none⟩ = some (.slice ab' ks.length cb') by rw [hb1.cell (p := ⟨bb, ob + i, none⟩) S0.2.2.1]; exact S0.2.2.2)))
      replace hb := hb.trans (hb1.mono hb.size)
      replace hy1 := hy1.below hb1
      replace hM1 := hM1.below hb1
      obtain ⟨a1, c1, e1, hI1⟩ := Ints.of_own (xs := ks) (by simpa using hown1) (by omega) hIk.2.1
      subst e1
      have ha1 : ∀ ad : Addr, a1 = some ad → H ≤ ad.block ∧ ad.block < V2.heap.size := fun ad e => by
        have h1 := own_ge2 hown1 ad.block (by rw [e]; rfl)
        have h2 := (hown1.lt ad.block (by rw [e]; rfl)).2
        exact ⟨by omega, h2⟩
      have hm2 := hM1.box rfl (c := c1) HKS.out hI1 ha1
      rw [← HR.out] at hm2
      obtain ⟨gb, hgb, hgB, hgH2, hfz, hold, hcur, hM2⟩ := hm2
      have HGB := hid hgb
      obtain ⟨old, hold, p9, q9, r9, hold2⟩ := hold
      rw [hold2] at hold
      have HO1 := hid (And.intro hold hfz)
      have HN := hid (And.intro hb (And.intro hy1 hM2))
      clear hb hy1 hM1 hM2 hown1 hb1 hpl hIk ho1 hI1 ha1 hgb hold hold2 hfz
      refine HeadAt.take (i := 12) (.pointer (some ⟨gb, r, none⟩)) rfl (by kernel_rfl) (.inl ⟨rfl, fun w' z => ?_⟩) S0 ?_
      · (have hgb := HGB.out; simp [go_sem, hrl, hgb])
      refine HeadAt.done (by kernel_rfl) ?_
      (try simp only [Act.put, List.drop_succ_cons, List.drop_zero, List.getElem_toArray, List.getElem_cons_succ, List.getElem_cons_zero])
      obtain ⟨x0, z0, _, _⟩ := S0
      obtain ⟨hold, hfz⟩ := HO1.out
      obtain ⟨hb, y0, hM2⟩ := HN.out
      clear HN
      have hne : g ≠ gb := fun e => by
        obtain ⟨cur, hc⟩ := hcur
        rw [← e] at hc
        unfold Bx at z0
        rw [z0] at hc; cases hc
      have hx2 := x0.other (a := ⟨gb, r, none⟩) (by show w.heap.size ≠ gb; omega) (.slice a1 ks.length c1)
      have hy2 := y0.other (a := ⟨gb, r, none⟩) (by show w.heap.size + 1 ≠ gb; omega) (.slice a1 ks.length c1)
      have hz2 := z0.other (a := ⟨gb, r, none⟩) hne (.slice a1 ks.length c1)
      have hb2 := hb.setCell (p := ⟨gb, r, none⟩) (by show w.heap.size ≤ gb; omega) (.slice a1 ks.length c1)
      have HN2 := hid (And.intro hb2 (And.intro hx2 (And.intro hy2 (And.intro hz2 hM2))))
      clear hb x0 y0 z0 hM2 hx2 hy2 hz2 hb2
      go_wp2_with fail
      refine NoPanic.normal ?_
      obtain ⟨hb, x0, y0, z0, hM⟩ := HN2.out
      clear HN2 hold hfz hcur HO1 HGB
      generalize World.setCell _ _ _ = Vn at *
      go_wp2
      go_loopw [8] (fun v8 wr => ∃ k : Nat, k ≤ X.er.length ∧ v8 = .int .i64 (k : Int) ∧ Below w.heap.size w wr ∧ Bx wr w.heap.size #[.slice ab X.bs.length cb, .slice ast X.st.length cs, .slice ae X.er.length ce, .slice ak X.ks.length ck, .int .i64 X.ch] 26 ∧ Bx wr (w.heap.size + 1) #[.int .i64 goal, .int .i64 xt] 51 ∧ Bx wr g #[.slice oab X.bs.length ocb, .slice oast X.st.length ocs, .slice oae X.er.length oce, .slice oak X.ks.length ock, .int .i64 X.ch] 26 ∧ OMem wr (V1.heap.size + 2) H (.slice oab X.bs.length ocb) (.slice oast X.st.length ocs) (.slice oae X.er.length oce) (.slice oak X.ks.length ock) (xO X (i + 1) i k)) (fun v8 _ => X.er.length - (intOf v8).toNat)
      case atStart => exact ⟨0, Nat.zero_le _, rfl, hb, x0, y0, z0, hM⟩
      case round =>
        clear hb x0 y0 z0 hM
        obtain ⟨k, hk, rfl, hb, x0, y0, z0, hM⟩ := hrel
        obtain ⟨Vn, rfl⟩ : ∃ V : World, V = wr := ⟨_, rfl⟩
        by_cases hkt : k < X.er.length
        · obtain ⟨es, hes⟩ : ∃ es, X.er[k]? = some es := ⟨_, List.getElem?_eq_getElem hkt⟩
          have hed : X.er.getD k [] = es := by rw [List.getD_eq_getElem?_getD, hes]; rfl
          obtain ⟨hel2, he9⟩ := HOK.out.er2 k hkt
          rw [hed] at hel2 he9
          obtain ⟨x, hxi⟩ : ∃ x, es[i]? = some x := ⟨_, List.getElem?_eq_getElem (by omega)⟩
          have hx9 := he9 x (List.mem_of_getElem? hxi)
          have hbd := (Below.refl Vn.heap.size Vn).drew
          have hx1 := x0.below hbd
          have hy1 := y0.below hbd
          have hz1 := z0.below hbd
          have hb1 := hb.trans (hbd.mono hb.size)
          obtain ⟨ge, gi, ci, y, hge, hce, hgH2, hcs, hfs, hcur, hM2⟩ := (hM.below hbd).earn rfl hes hxi (by omega) (by omega)
          rw [show es.length - 1 - i = r by rw [hel2, HR.out]] at hcs hfs hM2
          obtain ⟨eb, eo, ea, ec, hae, hebl, hecc, hIe⟩ := (hgX _ hb1).2.2.1.at (k := k) hkt
          rw [hed] at hecc hIe
          obtain ⟨xb, xo, x', hea, hxbl, hxc, _, _, hxd, _⟩ := hIe.at (k := i) (by omega)
          have hxe : x' = x := by have := hxd.out; rw [hxi] at this; simpa using this.symm
          subst hxe
          have hrE : (r : Int) < (es.length : Int) := by omega
          have hiE : (i : Int) < (es.length : Int) := by omega
          have hkE : (k : Int) < (X.er.length : Int) := by omega
          have hk0 : (0 : Int) ≤ (k : Int) := by omega
          have HS := hid (And.intro hge (And.intro hae (And.intro hea (And.intro hcs hfs))))
          have S0 := And.intro hx1 (And.intro hz1 (And.intro hce (And.intro hecc hxc)))
          have HN := hid (And.intro hb1 (And.intro hy1 hM2))
          have c0 := x0.cell 0 rfl; have c1 := x0.cell 1 rfl; have c2 := x0.cell 2 rfl; have c3 := x0.cell 3 rfl; have c4 := x0.cell 4 rfl
          clear hes hed hel2 he9 hxi hbd hx1 hy1 hz1 hb1 hge hce hcs hfs hM2 hae hebl hecc hIe hea hxbl hxc hxd hM
          go_upto_region 12 with fail
          clear c0 c1 c2 c3 c4 x0 y0 z0 hb
          refine wp_region_head 17 (fun w' => Bx w' w.heap.size #[.slice ab X.bs.length cb, .slice ast X.st.length cs, .slice ae X.er.length ce, .slice ak X.ks.length ck, .int .i64 X.ch] 26 ∧ Bx w' g #[.slice oab X.bs.length ocb, .slice oast X.st.length ocs, .slice oae X.er.length oce, .slice oak X.ks.length ock, .int .i64 X.ch] 26 ∧ w'.cell? ⟨ge, k, none⟩ = some (.slice (some ⟨gi, 0, none⟩) es.length ci) ∧ w'.cell? ⟨eb, eo + k, none⟩ = some (.slice ea es.length ec) ∧ w'.cell? ⟨xb, xo + i, none⟩ = some (.int .i64 x')) (by kernel_rfl) rfl ?_
          generalize Vn.drew = Yw at *
          refine HeadAt.take (i := 0) (.pointer (some ⟨g, 2, none⟩)) rfl (by kernel_rfl) (.inl ⟨rfl, fun _ _ => by simp [go_sem]⟩) S0 ?_
          (try simp only [Act.put, List.getElem_toArray, List.getElem_cons_succ, List.getElem_cons_zero, List.setIfInBounds_toArray, List.set_cons_succ, List.set_cons_zero])
          refine HeadAt.take (i := 1) (.slice oae X.er.length oce) rfl (by kernel_rfl) (.inl ⟨rfl, fun w' z => ?_⟩) S0 ?_
          · (have z0 := z.2.1.cell 2 rfl; simp [go_sem, z0])
          refine HeadAt.take (i := 2) (.int .i64 (k : Int)) rfl (by kernel_rfl) (.inl ⟨rfl, fun _ _ => by simp [go_sem]⟩) S0 ?_
          (try simp only [Act.put, List.getElem_toArray, List.getElem_cons_succ, List.getElem_cons_zero, List.setIfInBounds_toArray, List.set_cons_succ, List.set_cons_zero])
          refine HeadAt.take (i := 3) (.pointer (some ⟨ge, k, none⟩)) rfl (by kernel_rfl) (.inl ⟨rfl, fun w' z => ?_⟩) S0 ?_
          · (have hge := HS.out.1; simp [go_sem, hkE, hge])
          (try simp only [Act.put, List.getElem_toArray, List.getElem_cons_succ, List.getElem_cons_zero, List.setIfInBounds_toArray, List.set_cons_succ, List.set_cons_zero])
          refine HeadAt.take (i := 4) (.slice (some ⟨gi, 0, none⟩) es.length ci) rfl (by kernel_rfl) (.inl ⟨rfl, fun w' z => ?_⟩) S0 ?_
          · (have z2 := z.2.2.1; simp [go_sem, z2])
          refine HeadAt.take (i := 5) (.int .i64 ((X.bs.length : Int) - 1)) rfl (by kernel_rfl) (.inl ⟨rfl, fun _ _ => by simp [go_sem]⟩) S0 ?_
          (try simp only [Act.put, List.getElem_toArray, List.getElem_cons_succ, List.getElem_cons_zero, List.setIfInBounds_toArray, List.set_cons_succ, List.set_cons_zero])
          refine HeadAt.take (i := 6) (.int .i64 (i : Int)) rfl (by kernel_rfl) (.inl ⟨rfl, fun _ _ => by simp [go_sem]⟩) S0 ?_
          (try simp only [Act.put, List.getElem_toArray, List.getElem_cons_succ, List.getElem_cons_zero, List.setIfInBounds_toArray, List.set_cons_succ, List.set_cons_zero])
          refine HeadAt.take (i := 7) (.int .i64 (r : Int)) rfl (by kernel_rfl) (.inl ⟨rfl, fun w' z => ?_⟩) S0 ?_
          · (simp [go_sem, hwr])
          refine HeadAt.take (i := 8) (.pointer (some ⟨w.heap.size, 2, none⟩)) rfl (by kernel_rfl) (.inl ⟨rfl, fun _ _ => by simp [go_sem]⟩) S0 ?_
          (try simp only [Act.put, List.getElem_toArray, List.getElem_cons_succ, List.getElem_cons_zero, List.setIfInBounds_toArray, List.set_cons_succ, List.set_cons_zero])
          refine HeadAt.take (i := 9) (.slice ae X.er.length ce) rfl (by kernel_rfl) (.inl ⟨rfl, fun w' z => ?_⟩) S0 ?_
          · (have z0 := z.1.cell 2 rfl; simp [go_sem, z0])
          refine HeadAt.take (i := 10) (.int .i64 (k : Int)) rfl (by kernel_rfl) (.inl ⟨rfl, fun _ _ => by simp [go_sem]⟩) S0 ?_
          (try simp only [Act.put, List.getElem_toArray, List.getElem_cons_succ, List.getElem_cons_zero, List.setIfInBounds_toArray, List.set_cons_succ, List.set_cons_zero])
          refine HeadAt.take (i := 11) (.pointer (some ⟨eb, eo + k, none⟩)) rfl (by kernel_rfl) (.inl ⟨rfl, fun w' z => ?_⟩) S0 ?_
          · (have hae := HS.out.2.1; simp [go_sem, hkE, hae])
          (try simp only [Act.put, List.getElem_toArray, List.getElem_cons_succ, List.getElem_cons_zero, List.setIfInBounds_toArray, List.set_cons_succ, List.set_cons_zero])
          refine HeadAt.take (i := 12) (.slice ea es.length ec) rfl (by kernel_rfl) (.inl ⟨rfl, fun w' z => ?_⟩) S0 ?_
          · (have z2 := z.2.2.2.1; simp [go_sem, z2])
          refine HeadAt.take (i := 13) (.int .i64 (i : Int)) rfl (by kernel_rfl) (.inl ⟨rfl, fun _ _ => by simp [go_sem]⟩) S0 ?_
          (try simp only [Act.put, List.getElem_toArray, List.getElem_cons_succ, List.getElem_cons_zero, List.setIfInBounds_toArray, List.set_cons_succ, List.set_cons_zero])
          refine HeadAt.take (i := 14) (.pointer (some ⟨xb, xo + i, none⟩)) rfl (by kernel_rfl) (.inl ⟨rfl, fun w' z => ?_⟩) S0 ?_
          · (have hea := HS.out.2.2.1; simp [go_sem, hiE, hea])
          (try simp only [Act.put, List.getElem_toArray, List.getElem_cons_succ, List.getElem_cons_zero, List.setIfInBounds_toArray, List.set_cons_succ, List.set_cons_zero])
          refine HeadAt.take (i := 15) (.int .i64 x') rfl (by kernel_rfl) (.inl ⟨rfl, fun w' z => ?_⟩) S0 ?_
          · (have z2 := z.2.2.2.2; simp [go_sem, z2])
          refine HeadAt.take (i := 16) (.pointer (some ⟨gi, r, none⟩)) rfl (by kernel_rfl) (.inl ⟨rfl, fun w' z => ?_⟩) S0 ?_
          · (simp [go_sem, hrE])
          refine HeadAt.done (by kernel_rfl) ?_
          (try simp only [Act.put, List.drop_succ_cons, List.drop_zero, List.getElem_toArray, List.getElem_cons_succ, List.getElem_cons_zero])
          obtain ⟨x0, z0, _, _, _⟩ := S0
          have hcs := HS.out.2.2.2.1
          have hfs := HS.out.2.2.2.2
          obtain ⟨hb, y0, hM2⟩ := HN.out
          clear HN
          have hne : g ≠ gi := fun e => by
            obtain ⟨cur, hc⟩ := hcur
            rw [← e] at hc
            unfold Bx at z0
            rw [z0] at hc; cases hc
          have hx2 := x0.other (a := ⟨gi, r, none⟩) (by show w.heap.size ≠ gi; omega) (.int .i64 x')
          have hy2 := y0.other (a := ⟨gi, r, none⟩) (by show w.heap.size + 1 ≠ gi; omega) (.int .i64 x')
          have hz2 := z0.other (a := ⟨gi, r, none⟩) hne (.int .i64 x')
          have hb2 := hb.setCell (p := ⟨gi, r, none⟩) (by show w.heap.size ≤ gi; omega) (.int .i64 x')
          have HN2 := hid (And.intro hb2 (And.intro hx2 (And.intro hy2 (And.intro hz2 hM2))))
          clear hb x0 y0 z0 hM2 hx2 hy2 hz2 hb2
          go_wp2_with fail
          refine NoPanic.normal ?_
          obtain ⟨hb, x0, y0, z0, hM⟩ := HN2.out
          clear HN2 hcs hfs hcur HS
          generalize World.setCell _ _ _ = Vn at *
          go_wp2
          go_roundw
          case rel => exact ⟨k + 1, by omega, by simp, hb, x0, y0, z0, hM⟩
          case measure => simp [intOf]; omega
        · have hkn : k = X.er.length := by omega
          rw [hkn, xO_next] at hM
          have hkI : ¬ (k : Int) < (X.er.length : Int) := by omega
          have c0 := x0.cell 0 rfl; have c1 := x0.cell 1 rfl; have c2 := x0.cell 2 rfl; have c3 := x0.cell 3 rfl; have c4 := x0.cell 4 rfl
          go_wp2
          go_roundw
          case rel => exact ⟨i + 1, by omega, by simp, hb, x0, y0, z0, hM⟩
          case measure => simp [intOf]; omega
    · have hin : i = X.bs.length := by omega
      rw [hin, xO_last (fun r hr => by
        obtain ⟨j, hj, rfl⟩ := mem_getD [] hr
        exact (HOK.out.er2 j hj).1)] at hM
      have hile : ¬ (i : Int) ≤ (X.bs.length : Int) - 1 := by omega
      clear hin
      have c0 := x0.cell 0 rfl; have c1 := x0.cell 1 rfl; have c2 := x0.cell 2 rfl; have c3 := x0.cell 3 rfl; have c4 := x0.cell 4 rfl
      go_wp2
      clear c0 c1 c2 c3 c4
      go_loopw [9] (fun v9 wr => ∃ m : Nat, m ≤ X.ks.length ∧ v9 = .int .i64 (m : Int) ∧ Below w.heap.size w wr ∧ Bx wr w.heap.size #[.slice ab X.bs.length cb, .slice ast X.st.length cs, .slice ae X.er.length ce, .slice ak X.ks.length ck, .int .i64 X.ch] 26 ∧ Bx wr (w.heap.size + 1) #[.int .i64 goal, .int .i64 xt] 51 ∧ Bx wr g #[.slice oab X.bs.length ocb, .slice oast X.st.length ocs, .slice oae X.er.length oce, .slice oak X.ks.length ock, .int .i64 X.ch] 26 ∧ OMem wr (V1.heap.size + 2) H (.slice oab X.bs.length ocb) (.slice oast X.st.length ocs) (.slice oae X.er.length oce) (.slice oak X.ks.length ock) (zO X m)) (fun v9 _ => X.ks.length - (intOf v9).toNat)
      case atStart => exact ⟨0, Nat.zero_le _, rfl, hb, x0, y0, z0, hM⟩
      case round =>
        clear hb x0 y0 z0 hM
        obtain ⟨m, hm, rfl, hb, x0, y0, z0, hM⟩ := hrel
        obtain ⟨Vn, rfl⟩ : ∃ V : World, V = wr := ⟨_, rfl⟩
        by_cases hmt : m < X.ks.length
        · obtain ⟨p, hp⟩ : ∃ p, X.ks[m]? = some p := ⟨_, List.getElem?_eq_getElem hmt⟩
          have hp9 := HOK.out.keep p (List.mem_of_getElem? hp)
          have hbd := (Below.refl Vn.heap.size Vn).drew
          have hx1 := x0.below hbd
          have hy1 := y0.below hbd
          have hz1 := z0.below hbd
          have hb1 := hb.trans (hbd.mono hb.size)
          obtain ⟨gk, hgk, hgB, hgH2, hcs, hfs, hcur, hM2⟩ := (hM.below hbd).keep rfl hp
          obtain ⟨p1, hp1⟩ : ∃ p1, p1 = p.1 := ⟨_, rfl⟩
          rw [← hp1] at hcs hM2 hp9
          have hwk : IntKind.i64.wrap ((X.bs.length : Int) - 1 - p1) = (X.bs.length : Int) - 1 - p1 := IntWalk.i64_in _ (by omega)
          have hmE : (m : Int) < (X.ks.length : Int) := by omega
          have hm0 : (0 : Int) ≤ (m : Int) := by omega
          have HS := hid (And.intro hgk hfs)
          have S0 := And.intro hz1 hcs
          have HN := hid (And.intro hb1 (And.intro hy1 (And.intro hx1 hM2)))
          have e0 := z0.cell 0 rfl; have e1 := z0.cell 1 rfl; have e2 := z0.cell 2 rfl; have e3 := z0.cell 3 rfl; have e4 := z0.cell 4 rfl
          clear hp hp9 hbd hx1 hy1 hz1 hb1 hgk hcs hfs hM2 hM hp1
          go_upto_region 16 with fail
          clear e0 e1 e2 e3 e4 x0 y0 z0 hb
          refine wp_region_head 13 (fun w' => Bx w' g #[.slice oab X.bs.length ocb, .slice oast X.st.length ocs, .slice oae X.er.length oce, .slice oak X.ks.length ock, .int .i64 X.ch] 26 ∧ w'.cell? ⟨gk, m * 2, none⟩ = some (.int .i64 p1)) (by kernel_rfl) rfl ?_
          generalize Vn.drew = Yw at *
          refine HeadAt.take (i := 0) (.pointer (some ⟨g, 3, none⟩)) rfl (by kernel_rfl) (.inl ⟨rfl, fun _ _ => by simp [go_sem]⟩) S0 ?_
          (try simp only [Act.put, List.getElem_toArray, List.getElem_cons_succ, List.getElem_cons_zero, List.setIfInBounds_toArray, List.set_cons_succ, List.set_cons_zero])
          refine HeadAt.take (i := 1) (.slice oak X.ks.length ock) rfl (by kernel_rfl) (.inl ⟨rfl, fun w' z => ?_⟩) S0 ?_
          · (have z0 := z.1.cell 3 rfl; simp [go_sem, z0])
          refine HeadAt.take (i := 2) (.int .i64 (m : Int)) rfl (by kernel_rfl) (.inl ⟨rfl, fun _ _ => by simp [go_sem]⟩) S0 ?_
          (try simp only [Act.put, List.getElem_toArray, List.getElem_cons_succ, List.getElem_cons_zero, List.setIfInBounds_toArray, List.set_cons_succ, List.set_cons_zero])
          refine HeadAt.take (i := 3) (.int .i64 ((X.bs.length : Int) - 1)) rfl (by kernel_rfl) (.inl ⟨rfl, fun _ _ => by simp [go_sem]⟩) S0 ?_
          (try simp only [Act.put, List.getElem_toArray, List.getElem_cons_succ, List.getElem_cons_zero, List.setIfInBounds_toArray, List.set_cons_succ, List.set_cons_zero])
          refine HeadAt.take (i := 4) (.pointer (some ⟨g, 3, none⟩)) rfl (by kernel_rfl) (.inl ⟨rfl, fun _ _ => by simp [go_sem]⟩) S0 ?_
          (try simp only [Act.put, List.getElem_toArray, List.getElem_cons_succ, List.getElem_cons_zero, List.setIfInBounds_toArray, List.set_cons_succ, List.set_cons_zero])
          refine HeadAt.take (i := 5) (.slice oak X.ks.length ock) rfl (by kernel_rfl) (.inl ⟨rfl, fun w' z => ?_⟩) S0 ?_
          · (have z0 := z.1.cell 3 rfl; simp [go_sem, z0])
          refine HeadAt.take (i := 6) (.int .i64 (m : Int)) rfl (by kernel_rfl) (.inl ⟨rfl, fun _ _ => by simp [go_sem]⟩) S0 ?_
          (try simp only [Act.put, List.getElem_toArray, List.getElem_cons_succ, List.getElem_cons_zero, List.setIfInBounds_toArray, List.set_cons_succ, List.set_cons_zero])
          refine HeadAt.take (i := 7) (.pointer (some ⟨gk, m * 2, none⟩)) rfl (by kernel_rfl) (.inl ⟨rfl, fun w' z => ?_⟩) S0 ?_
          · (have hgk := HS.out.1; simp [go_sem, hmE, hgk])
          (try simp only [Act.put, List.getElem_toArray, List.getElem_cons_succ, List.getElem_cons_zero, List.setIfInBounds_toArray, List.set_cons_succ, List.set_cons_zero])
          refine HeadAt.take (i := 8) (.pointer (some ⟨gk, m * 2, none⟩)) rfl (by kernel_rfl) (.inl ⟨rfl, fun w' z => ?_⟩) S0 ?_
          · (simp [go_sem])
          (try simp only [Act.put, List.getElem_toArray, List.getElem_cons_succ, List.getElem_cons_zero, List.setIfInBounds_toArray, List.set_cons_succ, List.set_cons_zero])
          refine HeadAt.take (i := 9) (.int .i64 p1) rfl (by kernel_rfl) (.inl ⟨rfl, fun w' z => ?_⟩) S0 ?_
          · (have z2 := z.2; simp [go_sem, z2])
          refine HeadAt.take (i := 10) (.int .i64 ((X.bs.length : Int) - 1 - p1)) rfl (by kernel_rfl) (.inl ⟨rfl, fun w' z => ?_⟩) S0 ?_
          · (simp [go_sem, hwk])
          refine HeadAt.take (i := 11) (.pointer (some ⟨gk, m * 2, none⟩)) rfl (by kernel_rfl) (.inl ⟨rfl, fun w' z => ?_⟩) S0 ?_
          · (have hgk := HS.out.1; simp [go_sem, hmE, hgk])
          (try simp only [Act.put, List.getElem_toArray, List.getElem_cons_succ, List.getElem_cons_zero, List.setIfInBounds_toArray, List.set_cons_succ, List.set_cons_zero])
          refine HeadAt.take (i := 12) (.pointer (some ⟨gk, m * 2, none⟩)) rfl (by kernel_rfl) (.inl ⟨rfl, fun w' z => ?_⟩) S0 ?_
          · (simp [go_sem])
          refine HeadAt.done (by kernel_rfl) ?_
          (try simp only [Act.put, List.drop_succ_cons, List.drop_zero, List.getElem_toArray, List.getElem_cons_succ, List.getElem_cons_zero])
          obtain ⟨z0, hcs⟩ := S0
          have hfs := HS.out.2
          obtain ⟨hb, y0, x0, hM2⟩ := HN.out
          replace HN := hid (And.intro hb (And.intro y0 hM2))
          clear hb y0 hM2
          obtain ⟨hb, y0, hM2⟩ := HN.out
          clear HN
          have hne : g ≠ gk := fun e => by
            obtain ⟨cur, hc⟩ := hcur
            rw [← e] at hc
            unfold Bx at z0
            rw [z0] at hc; cases hc
          have hx2 := x0.other (a := ⟨gk, m * 2, none⟩) (by show w.heap.size ≠ gk; omega) (.int .i64 ((X.bs.length : Int) - 1 - p1))
          have hy2 := y0.other (a := ⟨gk, m * 2, none⟩) (by show w.heap.size + 1 ≠ gk; omega) (.int .i64 ((X.bs.length : Int) - 1 - p1))
          have hz2 := z0.other (a := ⟨gk, m * 2, none⟩) hne (.int .i64 ((X.bs.length : Int) - 1 - p1))
          have hb2 := hb.setCell (p := ⟨gk, m * 2, none⟩) (by show w.heap.size ≤ gk; omega) (.int .i64 ((X.bs.length : Int) - 1 - p1))
          have HN2 := hid (And.intro hb2 (And.intro hx2 (And.intro hy2 (And.intro hz2 hM2))))
          clear hb x0 y0 z0 hM2 hx2 hy2 hz2 hb2
          go_wp2_with fail
          refine NoPanic.normal ?_
          obtain ⟨hb, x0, y0, z0, hM⟩ := HN2.out
          clear HN2 hcs hfs hcur HS
          generalize World.setCell _ _ _ = Vn at *
          go_wp2
          go_roundw
          case rel => exact ⟨m + 1, by omega, by simp, hb, x0, y0, z0, hM⟩
          case measure => simp [intOf]; omega
        · have hmn : m = X.ks.length := by omega
          rw [hmn, zO_last] at hM
          have hmI : ¬ (m : Int) < (X.ks.length : Int) := by omega
          obtain ⟨Y, hYd⟩ : ∃ Y : Sw, Y = mirS X := ⟨_, rfl⟩
          obtain ⟨b1, b2, b3, b4, k1, k2, k3, k4, q1, q2, q3, q4, hO⟩ := hM.swp (by show X.bs.reverse.length ≤ 1000; simp; omega) (by show X.st.length ≤ 1000; have := HOK.out.t6; omega) (by show (X.er.map List.reverse).length ≤ 1000; simp; omega) (by show (X.ks.map (kpM X.bs.length)).length ≤ 1000; simp; omega) (fun x hx => by have := HOK.out.st9 x hx; omega) (fun x hx => by
            obtain ⟨y, hy, rfl⟩ := List.mem_map.1 hx
            have := HOK.out.keep y hy
            have := HOK.out.nb3; have := HOK.out.t6
            show -9223372036854775808 ≤ (X.bs.length : Int) - 1 - y.1 ∧ (X.bs.length : Int) - 1 - y.1 ≤ 9223372036854775807 ∧ -9223372036854775808 ≤ y.2 ∧ y.2 ≤ 9223372036854775807
            omega)
          injection q1 with r1 n1 r2
          injection q2 with r3 n2 r4
          injection q3 with r5 n3 r6
          injection q4 with r7 n4 r8
          subst r1 r2 r3 r4 r5 r6 r7 r8
          clear n1 n2 n3 n4
          rw [← hYd] at hO
          have eqs : Y.bs.length = X.bs.length ∧ Y.st.length = X.st.length ∧ Y.er.length = X.er.length ∧ Y.ks.length = X.ks.length ∧ Y.ch = X.ch := by rw [hYd]; exact ⟨List.length_reverse, rfl, List.length_map _, List.length_map _, rfl⟩
          have z1 : Bx Vn g #[.slice oab Y.bs.length ocb, .slice oast Y.st.length ocs, .slice oae Y.er.length oce, .slice oak Y.ks.length ock, .int .i64 Y.ch] 26 := by rw [eqs.1, eqs.2.1, eqs.2.2.1, eqs.2.2.2.1, eqs.2.2.2.2]; exact z0
          have hvY : vB Y = true := by rw [hYd]; exact mirS_vB hv
          have hmr : Mir X.vz Y.vz := by rw [hYd]; exact mirS_mir HOK.out
          obtain ⟨m1, f1, t1, u1⟩ := obest_two hv hvY hmr
          obtain ⟨m2, f2, t2, u2⟩ := ofair_two hv hvY hmr
          obtain ⟨m3, f3, t3, u3⟩ := ofew_two hv hvY hmr goal
          obtain ⟨m4, f4, t4, u4⟩ := ocopy_two hv hvY hmr xt
          obtain ⟨m5, f5, t5, u5⟩ := ochg_two hv hvY hmr
          clear hM hYd eqs hmn hvY hmr HOK
          have e0 := z0.cell 0 rfl; have e1 := z0.cell 1 rfl; have e2 := z0.cell 2 rfl; have e3 := z0.cell 3 rfl; have e4 := z0.cell 4 rfl
          go_upto_region 17 with fail
          clear e0 e1 e2 e3 e4 z0
          have z0 := z1
          clear z1
          have c0 := x0.cell 0 rfl; have c1 := x0.cell 1 rfl; have c2 := x0.cell 2 rfl; have c3 := x0.cell 3 rfl; have c4 := x0.cell 4 rfl; have e0 := z0.cell 0 rfl; have e1 := z0.cell 1 rfl; have e2 := z0.cell 2 rfl; have e3 := z0.cell 3 rfl; have e4 := z0.cell 4 rfl; have d0 := y0.cell 0 rfl; have d1 := y0.cell 1 rfl
          go_wp2_with fail
          refine (t1 _ _ _ _ _ _ _ _ _ (hgX _ hb)).mono ?_
          rintro e Vn ⟨rfl, hb1⟩
          replace hb := hb.trans (hb1.mono hb.size)
          replace x0 := x0.below hb1
          replace y0 := y0.below hb1
          replace z0 := z0.below hb1
          replace hO := hO.below hb1 (Nat.le_refl _)
          clear hb1 c0 c1 c2 c3 c4 d0 d1 e0 e1 e2 e3 e4
          have c0 := x0.cell 0 rfl; have c1 := x0.cell 1 rfl; have c2 := x0.cell 2 rfl; have c3 := x0.cell 3 rfl; have c4 := x0.cell 4 rfl; have e0 := z0.cell 0 rfl; have e1 := z0.cell 1 rfl; have e2 := z0.cell 2 rfl; have e3 := z0.cell 3 rfl; have e4 := z0.cell 4 rfl; have d0 := y0.cell 0 rfl; have d1 := y0.cell 1 rfl
          go_wp2_with fail
          refine (u1 _ _ _ _ _ _ _ _ _ hO).mono ?_
          rintro e Vn ⟨rfl, hb1⟩
          replace hb := hb.trans (hb1.mono hb.size)
          replace x0 := x0.below hb1
          replace y0 := y0.below hb1
          replace z0 := z0.below hb1
          replace hO := hO.below hb1 (Nat.le_refl _)
          clear hb1 c0 c1 c2 c3 c4 d0 d1 e0 e1 e2 e3 e4
          have c0 := x0.cell 0 rfl; have c1 := x0.cell 1 rfl; have c2 := x0.cell 2 rfl; have c3 := x0.cell 3 rfl; have c4 := x0.cell 4 rfl; have e0 := z0.cell 0 rfl; have e1 := z0.cell 1 rfl; have e2 := z0.cell 2 rfl; have e3 := z0.cell 3 rfl; have e4 := z0.cell 4 rfl; have d0 := y0.cell 0 rfl; have d1 := y0.cell 1 rfl
          go_wp2_with fail
          refine (t2 _ _ _ _ _ _ _ _ _ (hgX _ hb)).mono ?_
          rintro e Vn ⟨rfl, hb1⟩
          replace hb := hb.trans (hb1.mono hb.size)
          replace x0 := x0.below hb1
          replace y0 := y0.below hb1
          replace z0 := z0.below hb1
          replace hO := hO.below hb1 (Nat.le_refl _)
          clear hb1 c0 c1 c2 c3 c4 d0 d1 e0 e1 e2 e3 e4
          have c0 := x0.cell 0 rfl; have c1 := x0.cell 1 rfl; have c2 := x0.cell 2 rfl; have c3 := x0.cell 3 rfl; have c4 := x0.cell 4 rfl; have e0 := z0.cell 0 rfl; have e1 := z0.cell 1 rfl; have e2 := z0.cell 2 rfl; have e3 := z0.cell 3 rfl; have e4 := z0.cell 4 rfl; have d0 := y0.cell 0 rfl; have d1 := y0.cell 1 rfl
          go_wp2_with fail
          refine (u2 _ _ _ _ _ _ _ _ _ hO).mono ?_
          rintro e Vn ⟨rfl, hb1⟩
          replace hb := hb.trans (hb1.mono hb.size)
          replace x0 := x0.below hb1
          replace y0 := y0.below hb1
          replace z0 := z0.below hb1
          replace hO := hO.below hb1 (Nat.le_refl _)
          clear hb1 c0 c1 c2 c3 c4 d0 d1 e0 e1 e2 e3 e4
          have c0 := x0.cell 0 rfl; have c1 := x0.cell 1 rfl; have c2 := x0.cell 2 rfl; have c3 := x0.cell 3 rfl; have c4 := x0.cell 4 rfl; have e0 := z0.cell 0 rfl; have e1 := z0.cell 1 rfl; have e2 := z0.cell 2 rfl; have e3 := z0.cell 3 rfl; have e4 := z0.cell 4 rfl; have d0 := y0.cell 0 rfl; have d1 := y0.cell 1 rfl
          go_wp2_with fail
          refine (t3 _ _ _ _ _ _ _ _ _ (hgX _ hb)).mono ?_
          rintro e Vn ⟨rfl, hb1⟩
          replace hb := hb.trans (hb1.mono hb.size)
          replace x0 := x0.below hb1
          replace y0 := y0.below hb1
          replace z0 := z0.below hb1
          replace hO := hO.below hb1 (Nat.le_refl _)
          clear hb1 c0 c1 c2 c3 c4 d0 d1 e0 e1 e2 e3 e4
          have c0 := x0.cell 0 rfl; have c1 := x0.cell 1 rfl; have c2 := x0.cell 2 rfl; have c3 := x0.cell 3 rfl; have c4 := x0.cell 4 rfl; have e0 := z0.cell 0 rfl; have e1 := z0.cell 1 rfl; have e2 := z0.cell 2 rfl; have e3 := z0.cell 3 rfl; have e4 := z0.cell 4 rfl; have d0 := y0.cell 0 rfl; have d1 := y0.cell 1 rfl
          go_wp2_with fail
          refine (u3 _ _ _ _ _ _ _ _ _ hO).mono ?_
          rintro e Vn ⟨rfl, hb1⟩
          replace hb := hb.trans (hb1.mono hb.size)
          replace x0 := x0.below hb1
          replace y0 := y0.below hb1
          replace z0 := z0.below hb1
          replace hO := hO.below hb1 (Nat.le_refl _)
          clear hb1 c0 c1 c2 c3 c4 d0 d1 e0 e1 e2 e3 e4
          have c0 := x0.cell 0 rfl; have c1 := x0.cell 1 rfl; have c2 := x0.cell 2 rfl; have c3 := x0.cell 3 rfl; have c4 := x0.cell 4 rfl; have e0 := z0.cell 0 rfl; have e1 := z0.cell 1 rfl; have e2 := z0.cell 2 rfl; have e3 := z0.cell 3 rfl; have e4 := z0.cell 4 rfl; have d0 := y0.cell 0 rfl; have d1 := y0.cell 1 rfl
          go_wp2_with fail
          refine (t4 _ _ _ _ _ _ _ _ _ (hgX _ hb)).mono ?_
          rintro e Vn ⟨rfl, hb1⟩
          replace hb := hb.trans (hb1.mono hb.size)
          replace x0 := x0.below hb1
          replace y0 := y0.below hb1
          replace z0 := z0.below hb1
          replace hO := hO.below hb1 (Nat.le_refl _)
          clear hb1 c0 c1 c2 c3 c4 d0 d1 e0 e1 e2 e3 e4
          have c0 := x0.cell 0 rfl; have c1 := x0.cell 1 rfl; have c2 := x0.cell 2 rfl; have c3 := x0.cell 3 rfl; have c4 := x0.cell 4 rfl; have e0 := z0.cell 0 rfl; have e1 := z0.cell 1 rfl; have e2 := z0.cell 2 rfl; have e3 := z0.cell 3 rfl; have e4 := z0.cell 4 rfl; have d0 := y0.cell 0 rfl; have d1 := y0.cell 1 rfl
          go_wp2_with fail
          refine (u4 _ _ _ _ _ _ _ _ _ hO).mono ?_
          rintro e Vn ⟨rfl, hb1⟩
          replace hb := hb.trans (hb1.mono hb.size)
          replace x0 := x0.below hb1
          replace y0 := y0.below hb1
          replace z0 := z0.below hb1
          replace hO := hO.below hb1 (Nat.le_refl _)
          clear hb1 c0 c1 c2 c3 c4 d0 d1 e0 e1 e2 e3 e4
          have c0 := x0.cell 0 rfl; have c1 := x0.cell 1 rfl; have c2 := x0.cell 2 rfl; have c3 := x0.cell 3 rfl; have c4 := x0.cell 4 rfl; have e0 := z0.cell 0 rfl; have e1 := z0.cell 1 rfl; have e2 := z0.cell 2 rfl; have e3 := z0.cell 3 rfl; have e4 := z0.cell 4 rfl; have d0 := y0.cell 0 rfl; have d1 := y0.cell 1 rfl
          go_wp2_with fail
          refine (t5 _ _ _ _ _ _ _ _ _ (hgX _ hb)).mono ?_
          rintro e Vn ⟨rfl, hb1⟩
          replace hb := hb.trans (hb1.mono hb.size)
          replace x0 := x0.below hb1
          replace y0 := y0.below hb1
          replace z0 := z0.below hb1
          replace hO := hO.below hb1 (Nat.le_refl _)
          clear hb1 c0 c1 c2 c3 c4 d0 d1 e0 e1 e2 e3 e4
          have c0 := x0.cell 0 rfl; have c1 := x0.cell 1 rfl; have c2 := x0.cell 2 rfl; have c3 := x0.cell 3 rfl; have c4 := x0.cell 4 rfl; have e0 := z0.cell 0 rfl; have e1 := z0.cell 1 rfl; have e2 := z0.cell 2 rfl; have e3 := z0.cell 3 rfl; have e4 := z0.cell 4 rfl; have d0 := y0.cell 0 rfl; have d1 := y0.cell 1 rfl
          go_wp2_with fail
          refine (u5 _ _ _ _ _ _ _ _ _ hO).mono ?_
          rintro e Vn ⟨rfl, hb1⟩
          replace hb := hb.trans (hb1.mono hb.size)
          replace x0 := x0.below hb1
          replace y0 := y0.below hb1
          replace z0 := z0.below hb1
          replace hO := hO.below hb1 (Nat.le_refl _)
          clear hb1 c0 c1 c2 c3 c4 d0 d1 e0 e1 e2 e3 e4
          have c0 := x0.cell 0 rfl; have c1 := x0.cell 1 rfl; have c2 := x0.cell 2 rfl; have c3 := x0.cell 3 rfl; have c4 := x0.cell 4 rfl; have e0 := z0.cell 0 rfl; have e1 := z0.cell 1 rfl; have e2 := z0.cell 2 rfl; have e3 := z0.cell 3 rfl; have e4 := z0.cell 4 rfl; have d0 := y0.cell 0 rfl; have d1 := y0.cell 1 rfl
          clear t1 t2 t3 t4 t5 u1 u2 u3 u4 u5 hO hgX z0 x0 y0 c0 c1 c2 c3 c4 d0 d1 e0 e1 e2 e3 e4
          go_wp2_with fail
          refine (hW _).mono ?_
          rintro e Vw ⟨rfl, hb1⟩
          replace hb := hb.trans (hb1.mono hb.size)
          go_wp2
          go_ret
          exact ⟨rfl, hb⟩

theorem swapsOrder_row (ab ast ae ak : Option Addr) (cb cs ce ck : Nat) (X : Sw) (goal xt : Int) (w : World) (hX : SwIn w ab ast ae ak X) : Calls Try.prog 12 #[.agg #[.slice ab X.bs.length cb, .slice ast X.st.length cs, .slice ae X.er.length ce, .slice ak X.ks.length ck, .int .i64 X.ch], .agg #[.int .i64 goal, .int .i64 xt]] w fun e w' => e = .returned (.bool true) ∧ Below w.heap.size w w' := by
  by_cases hk : X.ks.length ≤ 1000
  · have hs := hX.swp hk
    cases hr : rdB X
    · exact Order_bad ab ast ae ak cb cs ce ck X goal xt w (fun V hV => by have := ready_any ab ast ae ak cb cs ce ck X V (hs.below hV (Nat.le_refl _)); rw [hr] at this; exact this)
    · exact swapsOrder_any ab ast ae ak cb cs ce ck X goal xt w hs hr
  · exact Order_bad ab ast ae ak cb cs ce ck X goal xt w (fun V hV => ready_huge ab ast ae ak cb cs ce ck X V (hX.below hV (Nat.le_refl _)) (by omega))
end Go.Proofs.Ytipdohpbilabiaa
