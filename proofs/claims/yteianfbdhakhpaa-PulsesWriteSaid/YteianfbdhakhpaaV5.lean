import Derived.Test.YteianfbdhakhpaaV3
import Derived.Test.YteianfbdhakhpaaV4
/-! The specification's readings; known. -/
namespace Go.Proofs.Yteianfbdhakhpaa
set_option linter.unusedSimpArgs false
set_option linter.unusedVariables false
open Go Go.RowKit
theorem info66 : (Try.prog.info? 66).map (fun i => (i.zero, i.size, i.bytes)) = some (some (.agg #[.slice none 0 0, .slice none 0 0]), 2, 48) := by kernel_rfl
theorem under63 : Try.prog.underlying 63 = some (.slice 66) := by kernel_rfl
theorem Rds.of2 {B base : Nat} {t : TypeId} {w : World} {a : Option Addr} {c : Nat} {vs : List Value} {rs : List Rd} (h : w.ownsRow base t 2 (.slice a rs.length c) rs.length vs) (hv : RvS B w vs rs) : Rds B w a rs := fun i r hi => by
  have hlt : i < rs.length := (List.getElem?_eq_some_iff.1 hi).1
  obtain ⟨a1, c1, a2, c2, q1, q2, q3, q4⟩ := hv.2 i r hi
  obtain ⟨g, cap, e⟩ := Go.Joins.ownsRow_form h (by omega)
  simp only [Value.slice.injEq] at e
  obtain ⟨rfl, _, rfl⟩ := e
  have e1 := World.ownsRow.cellAt h (i * 2) (by omega)
  have e2 := World.ownsRow.cellAt h (i * 2 + 1) (by omega)
  exact ⟨g, 0, a1, c1, a2, c2, rfl, (h.lt g rfl).2, by rw [Nat.zero_add, e1]; exact q1, by rw [Nat.zero_add, e2]; exact q2, q3, q4⟩
theorem rdO_none {X : Pu} {s : List Int} (h : lof X (woL X.ts s) = none) : rdO X s = none := by unfold rdO; rw [h]; rfl
theorem rdO_some {X : Pu} {s L : List Int} (h : lof X (woL X.ts s) = some L) : rdO X s = some (s, L) := by unfold rdO; rw [h]; rfl
/-- What readings hands back. -/
def RgP (rs : List Rd) (w : World) (e : Ending) (w' : World) : Prop :=
  Below w.heap.size w w' ∧ ∃ (a : Option Addr) (c : Nat), e = .returned (.slice a rs.length c) ∧ Rds w.heap.size w' a rs
set_option maxRecDepth 100000 in
set_option maxHeartbeats 8000000 in
theorem rreadings_any (aT : Option Addr) (cT : Nat) (X : Pu) (hv : vB X = true) (m : Nat) (hm : m ≤ 3) (w : World) (hX : Ints w aT X.ts) : Calls Try.prog 57 #[.agg #[.int .i64 X.l, .int .i64 X.n, .int .i64 X.pi, .int .i64 X.sl, .int .i64 X.ga, .int .i64 X.pa, .int .i64 X.sp, .slice aT X.ts.length cT], .int .i64 (m : Int)] w (RgP (rdL X m) w) := by
  obtain ⟨j0, hj0, jz0, jz1, jz2⟩ := info_parts info66
  obtain ⟨W, hW, hb, _, x0⟩ := boxes1 w #[.int .i64 X.l, .int .i64 X.n, .int .i64 X.pi, .int .i64 X.sl, .int .i64 X.ga, .int .i64 X.pa, .int .i64 X.sp, .slice aT X.ts.length cT] 24
  replace hX := hX.below hb (Nat.le_refl _)
  obtain ⟨ok, hspr, htm⟩ := vB_ok hv
  obtain ⟨h24, htr⟩ := timesB_rng htm
  have hse := rsets_any X.ts.length h24 W.heap.size m hm [] none 0 0 W (Nat.le_refl _) (Iz.none_ _ _) (Nat.zero_le _) (by simp; omega)
  simp only [List.length_nil] at hse
  rw [show ((0 : Nat) : Int) = 0 from rfl] at hse
  have hle := fun sp a c V h1 h2 => Less_any aT a cT c X.ts sp V h1 h2 (by omega)
  have hcl := fun sp a' c' V h => Clean_any aT cT X ok a' c' (woL X.ts sp) V h (Nat.le_trans (woA_len _ _ _) h24) (fun x hx => htr x (woA_mem _ _ _ x hx))
  have HRN := hid (show ∀ sp, lof X (woL X.ts sp) = none → rdO X sp = none from fun sp h => rdO_none h)
  have HRS := hid (show ∀ sp L, lof X (woL X.ts sp) = some L → rdO X sp = some (sp, L) from fun sp L h => rdO_some h)
  have HSL := hid (show (setsG X.ts.length m 0 []).length ≤ 15625 from Nat.le_trans (setsG_len _ _ _ _) (Nat.le_trans (Nat.pow_le_pow_left (show X.ts.length + 1 ≤ 25 by omega) m) (Nat.le_trans (Nat.pow_le_pow_right (by omega) hm) (by decide))))
  have HRD := hid (show rdL X m = (setsG X.ts.length m 0 []).filterMap (rdO X) from rfl)
  unfold LLP at hse
  unfold LoP at hcl
  generalize setsG X.ts.length m 0 [] = LL at *
  generalize rdL X m = RS at *
  generalize rdO X = ro at *
  generalize hlo : (fun sp => lof X (woL X.ts sp)) = lo at *
  have HLO := hid (fun sp => congrFun hlo sp)
  clear hlo
  generalize hwo : woL X.ts = wo at *
  clear hwo
  generalize X.ts.length = n at *
  clear hv htm htr ok hspr
  obtain ⟨N, hN⟩ : ∃ N, N = LL.length := ⟨_, rfl⟩
  have HN := hid hN
  rw [← hN] at hse
  have hN15 := HSL.out
  rw [← hN] at hN15
  clear hN HSL
  have c0 := x0.cell 0 rfl; have c1 := x0.cell 1 rfl; have c2 := x0.cell 2 rfl; have c3 := x0.cell 3 rfl; have c4 := x0.cell 4 rfl; have c5 := x0.cell 5 rfl; have c6 := x0.cell 6 rfl; have c7 := x0.cell 7 rfl
  go_enter Try.func57, Try.ntmps57
  go_wp2_with fail
  refine hse.mono ?_
  rintro e V ⟨hb1, a0, c0', vs0, rfl, hown0, hrw0⟩
  clear hse hW c0 c1 c2 c3 c4 c5 c6 c7
  have HX0 := hid (x0.below hb1)
  have HX := hid (hX.below hb1 (Nat.le_refl _))
  have HB := hid (hb.trans (hb1.mono hb.size))
  have HC := hid (And.intro (Cls.of_own2 hown0) hrw0)
  have HWV := hid (show w.heap.size ≤ W.heap.size ∧ W.heap.size ≤ V.heap.size from ⟨hb.size, hb1.size⟩)
  clear x0 hX hb hb1 hown0 hrw0
  go_wp2
  go_loopw [5, 7] (fun v5 v7 wr => ∃ (k p : Nat) (a : Option Addr) (c : Nat) (vs : List Value) (rs : List Rd), k ≤ N ∧ v7 = .int .i64 (k : Int) ∧ v5 = .slice a p c ∧ p ≤ k ∧ Hid (p = rs.length ∧ rs = (LL.take k).filterMap ro) ∧ wr.ownsRow V.heap.size 66 2 (.slice a p c) p vs ∧ RvS w.heap.size wr vs rs ∧ Below V.heap.size V wr) (fun _ v7 _ => N - (intOf v7).toNat)
  case atStart => exact ⟨0, 0, none, 0, [], [], Nat.zero_le _, rfl, rfl, Nat.le_refl _, hid ⟨rfl, rfl⟩, World.ownsRow_nil _ _ _ _, RvS.nil _ _, Below.refl _ _⟩
  case round =>
    obtain ⟨k, p, a, c, vs, rs, hk, rfl, rfl, hpk, HP, hown, hrv, hb⟩ := hrel
    by_cases hlt : k < N
    · obtain ⟨sp, hsp⟩ : ∃ sp, LL[k]? = some sp := ⟨_, List.getElem?_eq_getElem (by rw [← HN.out]; exact hlt)⟩
      obtain ⟨ai, ci, hvi, hiz⟩ := HC.out.2.2 k sp hsp
      obtain ⟨b, off, rfl, hbl, hcell⟩ := HC.out.1 k _ hvi
      have hkI : (k : Int) < N := by omega
      have hk0 : (0 : Int) ≤ (k : Int) := by omega
      have hcw : ClB wr b (off + k) (.slice ai sp.length ci) := (show ClB V b (off + k) (.slice ai sp.length ci) from ⟨hcell, hbl⟩).below hb
      have x0 := HX0.out.below hb
      have hX := HX.out.below hb (Nat.le_refl _)
      have hiw := hiz.below hb
      have HTK := hid (show LL.take (k + 1) = LL.take k ++ [sp] by rw [List.take_add_one, hsp]; rfl)
      have HIZ := hid hiz
      clear hcell hbl hvi hsp hiz
      have hle1 := hle sp
      have hcl1 := hcl sp
      have hrn := HRN.out sp
      have hrs := HRS.out sp
      rw [HLO.out sp] at hcl1 hrn hrs
      clear HRN HRS HLO
      generalize wo sp = LS at *
      obtain ⟨ns, hns⟩ : ∃ ns, ns = sp.length := ⟨_, rfl⟩
      have HNS := hid hns
      rw [← hns] at hcw hle1
      clear hns
      cases hlo : lo sp with
      | none =>
        rw [hlo] at hcl1
        have HR2 := hid (show p = rs.length ∧ rs = (LL.take (k + 1)).filterMap ro from ⟨HP.out.1, by rw [HTK.out, List.filterMap_append, List.filterMap_cons, hrn hlo, ← HP.out.2]; simp⟩)
        clear hrn hrs hlo
        go_upto_region 6 with fail
        have S0 : BlS wr wr.drew := (Below.refl wr.heap.size wr).drew
        refine wp_region_headW 14 (fun w' => BlS wr w') (by kernel_rfl) (by kernel_rfl) ?_
        generalize wr.drew = Y0 at *
        refine HeadAt.takeW (i := 0) (.agg #[.int .i64 X.l, .int .i64 X.n, .int .i64 X.pi, .int .i64 X.sl, .int .i64 X.ga, .int .i64 X.pa, .int .i64 X.sp, .slice aT n cT]) rfl (by kernel_rfl) (.inl ⟨rfl, fun w' z => ?_⟩) S0 ?_
        · (have z0 := (x0.below z).cell 0 rfl; have z1 := (x0.below z).cell 1 rfl; have z2 := (x0.below z).cell 2 rfl; have z3 := (x0.below z).cell 3 rfl; have z4 := (x0.below z).cell 4 rfl; have z5 := (x0.below z).cell 5 rfl; have z6 := (x0.below z).cell 6 rfl; have z7 := (x0.below z).cell 7 rfl; simp [go_sem, z0, z1, z2, z3, z4, z5, z6, z7])
        (try simp only [Act.put, List.getElem_toArray, List.getElem_cons_succ, List.getElem_cons_zero, List.setIfInBounds_toArray, List.set_cons_succ, List.set_cons_zero])
        refine HeadAt.takeW (i := 1) (.pointer (some ⟨w.heap.size, 7, none⟩)) rfl (by kernel_rfl) (.inl ⟨rfl, fun _ _ => by simp [go_sem]⟩) S0 ?_
        (try simp only [Act.put, List.getElem_toArray, List.getElem_cons_succ, List.getElem_cons_zero, List.setIfInBounds_toArray, List.set_cons_succ, List.set_cons_zero])
        refine HeadAt.takeW (i := 2) (.slice aT n cT) rfl (by kernel_rfl) (.inl ⟨rfl, fun w' z => ?_⟩) S0 ?_
        · (have z0 := (x0.below z).cell 7 rfl; simp [go_sem, z0])
        (try simp only [Act.put, List.getElem_toArray, List.getElem_cons_succ, List.getElem_cons_zero, List.setIfInBounds_toArray, List.set_cons_succ, List.set_cons_zero])
        refine HeadAt.takeW (i := 3) (.slice (some ⟨b, off, none⟩) N c0') rfl (by kernel_rfl) (.inl ⟨rfl, fun _ _ => by simp [go_sem]⟩) S0 ?_
        (try simp only [Act.put, List.getElem_toArray, List.getElem_cons_succ, List.getElem_cons_zero, List.setIfInBounds_toArray, List.set_cons_succ, List.set_cons_zero])
        refine HeadAt.takeW (i := 4) (.int .i64 (k : Int)) rfl (by kernel_rfl) (.inl ⟨rfl, fun _ _ => by simp [go_sem]⟩) S0 ?_
        (try simp only [Act.put, List.getElem_toArray, List.getElem_cons_succ, List.getElem_cons_zero, List.setIfInBounds_toArray, List.set_cons_succ, List.set_cons_zero])
        refine HeadAt.takeW (i := 5) (.pointer (some ⟨b, off + k, none⟩)) rfl (by kernel_rfl) (.inl ⟨rfl, fun w' z => ?_⟩) S0 ?_
        · (have i1 : (0 : Int) ≤ (k : Int) := (by omega); have i2 : (k : Int) < (N : Int) := (by omega); simp [go_sem, i1, i2])
        (try simp only [Act.put, List.getElem_toArray, List.getElem_cons_succ, List.getElem_cons_zero, List.setIfInBounds_toArray, List.set_cons_succ, List.set_cons_zero])
        refine HeadAt.takeW (i := 6) (.slice ai ns ci) rfl (by kernel_rfl) (.inl ⟨rfl, fun w' z => ?_⟩) S0 ?_
        · (have z0 := (hcw.below z).1; simp [go_sem, z0])
        (try simp only [Act.put, List.getElem_toArray, List.getElem_cons_succ, List.getElem_cons_zero, List.setIfInBounds_toArray, List.set_cons_succ, List.set_cons_zero])
        refine HeadAt.one (i := 7) rfl (by kernel_rfl) ?_
        generalize hK : Upto _ _ = K0
        (try simp only [Act.put, List.getElem_toArray, List.getElem_cons_succ, List.getElem_cons_zero, List.setIfInBounds_toArray, List.set_cons_succ, List.set_cons_zero])
        go_wp2_with fail
        refine (hle1 _ _ _ (hX.below S0 (Nat.le_refl _)) (hiw.i.below S0 (Nat.le_refl _))).mono ?_
        rintro e V2 ⟨hb1, a7, c7, rfl, z7⟩
        go_wp2_with fail
        replace S0 := Below.trans S0 (hb1.mono (Below.size S0))
        clear hb1
        subst hK
        refine ⟨S0, ?_⟩
        (try simp only [Act.put, List.getElem_toArray, List.getElem_cons_succ, List.getElem_cons_zero, List.setIfInBounds_toArray, List.set_cons_succ, List.set_cons_zero])
        have hS2 := Below.size S0
        refine HeadAt.one (i := 8) rfl (by kernel_rfl) ?_
        generalize hK : Upto _ _ = K0
        (try simp only [Act.put, List.getElem_toArray, List.getElem_cons_succ, List.getElem_cons_zero, List.setIfInBounds_toArray, List.set_cons_succ, List.set_cons_zero])
        go_wp2_with fail
        refine (hcl1 _ _ _ z7.i).mono ?_
        rintro e V3 ⟨hb1, hh⟩
        rcases hh with ⟨_, rfl⟩ | ⟨L9, a8, c8, hh, _, _⟩
        rotate_left
        · cases hh
        go_wp2_with fail
        replace S0 := Below.trans S0 (hb1.mono (Below.size S0))
        clear hb1 hS2
        subst hK
        refine ⟨S0, ?_⟩
        (try simp only [Act.put, List.getElem_toArray, List.getElem_cons_succ, List.getElem_cons_zero, List.setIfInBounds_toArray, List.set_cons_succ, List.set_cons_zero])
        refine HeadAt.takeW (i := 9) (.tuple #[.slice none 0 0, .bool false]) rfl (by kernel_rfl) (.inl ⟨rfl, fun _ _ => by simp [go_sem]⟩) S0 ?_
        (try simp only [Act.put, List.getElem_toArray, List.getElem_cons_succ, List.getElem_cons_zero, List.setIfInBounds_toArray, List.set_cons_succ, List.set_cons_zero])
        refine HeadAt.takeW (i := 10) (.slice none 0 0) rfl (by kernel_rfl) (.inl ⟨rfl, fun w' z => ?_⟩) S0 ?_
        · (simp [go_sem])
        (try simp only [Act.put, List.getElem_toArray, List.getElem_cons_succ, List.getElem_cons_zero, List.setIfInBounds_toArray, List.set_cons_succ, List.set_cons_zero])
        refine HeadAt.takeW (i := 11) (.bool false) rfl (by kernel_rfl) (.inl ⟨rfl, fun w' z => ?_⟩) S0 ?_
        · (simp [go_sem])
        (try simp only [Act.put, List.getElem_toArray, List.getElem_cons_succ, List.getElem_cons_zero, List.setIfInBounds_toArray, List.set_cons_succ, List.set_cons_zero])
        refine HeadAt.takeW (i := 12) (.slice none 0 0) rfl (by kernel_rfl) (.inl ⟨rfl, fun _ _ => by simp [go_sem]⟩) S0 ?_
        (try simp only [Act.put, List.getElem_toArray, List.getElem_cons_succ, List.getElem_cons_zero, List.setIfInBounds_toArray, List.set_cons_succ, List.set_cons_zero])
        refine HeadAt.takeW (i := 13) (.bool false) rfl (by kernel_rfl) (.inl ⟨rfl, fun _ _ => by simp [go_sem]⟩) S0 ?_
        (try simp only [Act.put, List.getElem_toArray, List.getElem_cons_succ, List.getElem_cons_zero, List.setIfInBounds_toArray, List.set_cons_succ, List.set_cons_zero])
        refine HeadAt.done (by kernel_rfl) ?_
        (try simp only [Act.put, List.drop_succ_cons, List.drop_zero, List.getElem_toArray, List.getElem_cons_succ, List.getElem_cons_zero])
        go_wp2_with fail
        refine NoPanic.normal ?_
        have hb2 := hb.trans (Below.mono S0 hb.size)
        replace hown := own_below2 hown S0
        replace hrv := hrv.map (fun a L h => h.below S0)
        clear S0 hcw x0 hX hiw hb hle hcl
        go_wp2
        go_roundw
        case rel => exact ⟨k + 1, p, a, c, vs, rs, by omega, by go_num, rfl, by omega, HR2, hown, hrv, hb2⟩
        case measure => simp [intOf]; omega
      | some L =>
        rw [hlo] at hcl1
        have HR2 := hid (show p + 1 = (rs ++ [(sp, L)]).length ∧ rs ++ [(sp, L)] = (LL.take (k + 1)).filterMap ro from ⟨by rw [List.length_append, HP.out.1]; rfl, by rw [HTK.out, List.filterMap_append, List.filterMap_cons, hrs L hlo, ← HP.out.2]; simp⟩)
        clear hrn hrs hlo
        have hin := hb.size
        go_upto_region 6 with fail
        have S0 : BlS wr wr.drew := (Below.refl wr.heap.size wr).drew
        refine wp_region_headW 14 (fun w' => BlS wr w') (by kernel_rfl) (by kernel_rfl) ?_
        generalize wr.drew = Y0 at *
        refine HeadAt.takeW (i := 0) (.agg #[.int .i64 X.l, .int .i64 X.n, .int .i64 X.pi, .int .i64 X.sl, .int .i64 X.ga, .int .i64 X.pa, .int .i64 X.sp, .slice aT n cT]) rfl (by kernel_rfl) (.inl ⟨rfl, fun w' z => ?_⟩) S0 ?_
        · (have z0 := (x0.below z).cell 0 rfl; have z1 := (x0.below z).cell 1 rfl; have z2 := (x0.below z).cell 2 rfl; have z3 := (x0.below z).cell 3 rfl; have z4 := (x0.below z).cell 4 rfl; have z5 := (x0.below z).cell 5 rfl; have z6 := (x0.below z).cell 6 rfl; have z7 := (x0.below z).cell 7 rfl; simp [go_sem, z0, z1, z2, z3, z4, z5, z6, z7])
        (try simp only [Act.put, List.getElem_toArray, List.getElem_cons_succ, List.getElem_cons_zero, List.setIfInBounds_toArray, List.set_cons_succ, List.set_cons_zero])
        refine HeadAt.takeW (i := 1) (.pointer (some ⟨w.heap.size, 7, none⟩)) rfl (by kernel_rfl) (.inl ⟨rfl, fun _ _ => by simp [go_sem]⟩) S0 ?_
        (try simp only [Act.put, List.getElem_toArray, List.getElem_cons_succ, List.getElem_cons_zero, List.setIfInBounds_toArray, List.set_cons_succ, List.set_cons_zero])
        refine HeadAt.takeW (i := 2) (.slice aT n cT) rfl (by kernel_rfl) (.inl ⟨rfl, fun w' z => ?_⟩) S0 ?_
        · (have z0 := (x0.below z).cell 7 rfl; simp [go_sem, z0])
        (try simp only [Act.put, List.getElem_toArray, List.getElem_cons_succ, List.getElem_cons_zero, List.setIfInBounds_toArray, List.set_cons_succ, List.set_cons_zero])
        refine HeadAt.takeW (i := 3) (.slice (some ⟨b, off, none⟩) N c0') rfl (by kernel_rfl) (.inl ⟨rfl, fun _ _ => by simp [go_sem]⟩) S0 ?_
        (try simp only [Act.put, List.getElem_toArray, List.getElem_cons_succ, List.getElem_cons_zero, List.setIfInBounds_toArray, List.set_cons_succ, List.set_cons_zero])
        refine HeadAt.takeW (i := 4) (.int .i64 (k : Int)) rfl (by kernel_rfl) (.inl ⟨rfl, fun _ _ => by simp [go_sem]⟩) S0 ?_
        (try simp only [Act.put, List.getElem_toArray, List.getElem_cons_succ, List.getElem_cons_zero, List.setIfInBounds_toArray, List.set_cons_succ, List.set_cons_zero])
        refine HeadAt.takeW (i := 5) (.pointer (some ⟨b, off + k, none⟩)) rfl (by kernel_rfl) (.inl ⟨rfl, fun w' z => ?_⟩) S0 ?_
        · (have i1 : (0 : Int) ≤ (k : Int) := (by omega); have i2 : (k : Int) < (N : Int) := (by omega); simp [go_sem, i1, i2])
        (try simp only [Act.put, List.getElem_toArray, List.getElem_cons_succ, List.getElem_cons_zero, List.setIfInBounds_toArray, List.set_cons_succ, List.set_cons_zero])
        refine HeadAt.takeW (i := 6) (.slice ai ns ci) rfl (by kernel_rfl) (.inl ⟨rfl, fun w' z => ?_⟩) S0 ?_
        · (have z0 := (hcw.below z).1; simp [go_sem, z0])
        (try simp only [Act.put, List.getElem_toArray, List.getElem_cons_succ, List.getElem_cons_zero, List.setIfInBounds_toArray, List.set_cons_succ, List.set_cons_zero])
        refine HeadAt.one (i := 7) rfl (by kernel_rfl) ?_
        generalize hK : Upto _ _ = K0
        (try simp only [Act.put, List.getElem_toArray, List.getElem_cons_succ, List.getElem_cons_zero, List.setIfInBounds_toArray, List.set_cons_succ, List.set_cons_zero])
        go_wp2_with fail
        refine (hle1 _ _ _ (hX.below S0 (Nat.le_refl _)) (hiw.i.below S0 (Nat.le_refl _))).mono ?_
        rintro e V2 ⟨hb1, a7, c7, rfl, z7⟩
        go_wp2_with fail
        replace S0 := Below.trans S0 (hb1.mono (Below.size S0))
        clear hb1
        subst hK
        refine ⟨S0, ?_⟩
        (try simp only [Act.put, List.getElem_toArray, List.getElem_cons_succ, List.getElem_cons_zero, List.setIfInBounds_toArray, List.set_cons_succ, List.set_cons_zero])
        have hS2 := Below.size S0
        refine HeadAt.one (i := 8) rfl (by kernel_rfl) ?_
        generalize hK : Upto _ _ = K0
        (try simp only [Act.put, List.getElem_toArray, List.getElem_cons_succ, List.getElem_cons_zero, List.setIfInBounds_toArray, List.set_cons_succ, List.set_cons_zero])
        go_wp2_with fail
        refine (hcl1 _ _ _ z7.i).mono ?_
        rintro e V3 ⟨hb1, hh⟩
        rcases hh with ⟨hh, _⟩ | ⟨L9, a8, c8, hh, rfl, z8⟩
        · cases hh
        cases hh
        replace z8 := z8.mono hS2
        go_wp2_with fail
        replace S0 := Below.trans S0 (hb1.mono (Below.size S0))
        clear hb1 hS2
        subst hK
        refine ⟨S0, ?_⟩
        (try simp only [Act.put, List.getElem_toArray, List.getElem_cons_succ, List.getElem_cons_zero, List.setIfInBounds_toArray, List.set_cons_succ, List.set_cons_zero])
        refine HeadAt.takeW (i := 9) (.tuple #[.slice a8 L.length c8, .bool true]) rfl (by kernel_rfl) (.inl ⟨rfl, fun _ _ => by simp [go_sem]⟩) S0 ?_
        (try simp only [Act.put, List.getElem_toArray, List.getElem_cons_succ, List.getElem_cons_zero, List.setIfInBounds_toArray, List.set_cons_succ, List.set_cons_zero])
        refine HeadAt.takeW (i := 10) (.slice a8 L.length c8) rfl (by kernel_rfl) (.inl ⟨rfl, fun w' z => ?_⟩) S0 ?_
        · (simp [go_sem])
        (try simp only [Act.put, List.getElem_toArray, List.getElem_cons_succ, List.getElem_cons_zero, List.setIfInBounds_toArray, List.set_cons_succ, List.set_cons_zero])
        refine HeadAt.takeW (i := 11) (.bool true) rfl (by kernel_rfl) (.inl ⟨rfl, fun w' z => ?_⟩) S0 ?_
        · (simp [go_sem])
        (try simp only [Act.put, List.getElem_toArray, List.getElem_cons_succ, List.getElem_cons_zero, List.setIfInBounds_toArray, List.set_cons_succ, List.set_cons_zero])
        refine HeadAt.takeW (i := 12) (.slice a8 L.length c8) rfl (by kernel_rfl) (.inl ⟨rfl, fun _ _ => by simp [go_sem]⟩) S0 ?_
        (try simp only [Act.put, List.getElem_toArray, List.getElem_cons_succ, List.getElem_cons_zero, List.setIfInBounds_toArray, List.set_cons_succ, List.set_cons_zero])
        refine HeadAt.takeW (i := 13) (.bool true) rfl (by kernel_rfl) (.inl ⟨rfl, fun _ _ => by simp [go_sem]⟩) S0 ?_
        (try simp only [Act.put, List.getElem_toArray, List.getElem_cons_succ, List.getElem_cons_zero, List.setIfInBounds_toArray, List.set_cons_succ, List.set_cons_zero])
        refine HeadAt.done (by kernel_rfl) ?_
        (try simp only [Act.put, List.drop_succ_cons, List.drop_zero, List.getElem_toArray, List.getElem_cons_succ, List.getElem_cons_zero])
        go_wp2_with fail
        refine NoPanic.normal ?_
        have hb2 := hb.trans (Below.mono S0 hb.size)
        have hb3 := hb2.size
        replace hown := own_below2 hown S0
        replace hrv := hrv.map (fun a L h => h.below S0)
        replace hiw := hiw.below S0
        replace hcw := hcw.below S0
        have hc9 := hcw.1
        clear S0 x0 hX hb hle hcl
        obtain ⟨nl, hnl⟩ : ∃ nl, nl = L.length := ⟨_, rfl⟩
        have HNL := hid hnl
        rw [← hnl]
        clear hnl
        go_wp2_with (at_builtin; go_loud (refine wpList_append_own _ rfl _ _ 63 rfl V.heap.size 66 j0 (.agg #[.slice none 0 0, .slice none 0 0]) 2 48 under63 hj0 jz0 jz1 jz2 rfl (by decide) (.slice a p c) p _ rfl (hown.alloc _) ⟨V3.heap.size, 0, none⟩ 1 1 [.slice ai ns ci, .slice a8 nl c8] rfl rfl (cell_two_new _ _ _ _) (fun u hu => by rcases List.mem_cons.1 hu with rfl | hu; rfl; rw [List.mem_singleton.1 hu]; rfl) (by unfold maxLen; omega) (by omega) (by simp; omega) ?_); intro v9 W9 hrow9 hg9 _)
        obtain ⟨a9, c9, rfl⟩ := own_slice2 hrow9
        have hoc := own_cells hown
        have hge := own_ge2 hown
        have hba := below_one (w := V3) (.cells #[.slice ai ns ci, .slice a8 nl c8] 66)
        have hocA := own_cells (own_below2 hown hba)
        have hb4 : Below V.heap.size V W9 := (hb2.trans (hba.mono hb2.size)).grown hg9 (by have := hb2.size; simp; omega) hge
        have hkc : Kc 66 V.heap.size (fun _ => False) (V3.alloc (.cells #[.slice ai ns ci, .slice a8 nl c8] 66)) W9 := Kc.grown hg9 (fun q hq => .inr ⟨hge q hq, by obtain ⟨cur, hh⟩ := hocA q hq; exact ⟨cur, _, hh⟩⟩)
        have mv : ∀ (B : Nat) (a : Option Addr) (L : List Int), Iz B V3 a L → Iz B W9 a L := fun B a L h => (h.below hba).kc (by decide) hkc (fun q hq => hq.elim)
        have hrv9 := (hrv.map (fun a L h => mv _ a L h)).snoc (r := (sp, L)) (c1 := ci) (c2 := c8) ((mv _ _ _ hiw).mono (by have := HWV.out; omega)) ((mv _ _ _ z8).mono (by have := HWV.out; omega))
        rw [show (sp, L).1.length = ns from HNS.out.symm, show (sp, L).2.length = nl from HNL.out.symm] at hrv9
        clear hown hrv hiw hcw hc9 hoc hge hba hocA hkc mv hg9 z8 hb2
        go_wp2
        go_roundw
        case rel => exact ⟨k + 1, p + 1, a9, c9, vs ++ [.slice ai ns ci, .slice a8 nl c8], rs ++ [(sp, L)], by omega, by go_num, rfl, by omega, HR2, hrow9, hrv9, hb4⟩
        case measure => simp [intOf]; omega
    · obtain rfl : k = N := by omega
      have hRS : rs = RS := by rw [HP.out.2, HRD.out, HN.out, List.take_length]
      subst hRS
      have hp := HP.out.1
      subst hp
      have HZ := hid (show RgP rs w (.returned (.slice a rs.length c)) wr from ⟨HB.out.trans (hb.mono HB.out.size), a, c, rfl, Rds.of2 hown hrv⟩)
      clear hown hrv hb HP
      go_wp2
      go_ret
      exact HZ.out
def KnP (rs : List Rd) (E : Int) (w : World) (e : Ending) (w' : World) : Prop := Below w.heap.size w w' ∧ ∃ (a : Option Addr) (c : Nat), e = .returned (.tuple #[.slice a rs.length c, .int .i64 E]) ∧ Rds w.heap.size w' a rs
set_option maxRecDepth 100000 in
set_option maxHeartbeats 4000000 in
theorem known_any (aT : Option Addr) (cT : Nat) (X : Pu) (o : Bool) (w : World) (hX : Ints w aT X.ts) : Calls Try.prog 59 #[.agg #[.int .i64 X.l, .int .i64 X.n, .int .i64 X.pi, .int .i64 X.sl, .int .i64 X.ga, .int .i64 X.pa, .int .i64 X.sp, .slice aT X.ts.length cT], .bool o] w (KnP (if erX X o = 0 then RS X else []) (erX X o) w) := by
  obtain ⟨W, hW, hb, _, x0⟩ := boxes1 w #[.int .i64 X.l, .int .i64 X.n, .int .i64 X.pi, .int .i64 X.sl, .int .i64 X.ga, .int .i64 X.pa, .int .i64 X.sp, .slice aT X.ts.length cT] 24
  replace hX := hX.below hb (Nat.le_refl _)
  have hck := fun V h => rCheck_any aT cT X V h
  have hrd := fun hv V h => rreadings_any aT cT X hv X.sp.toNat (by have := (vB_ok hv).2.1; omega) V h
  have HSP := hid (show vB X = true → ((X.sp.toNat : Nat) : Int) = X.sp from fun hv => by have := (vB_ok hv).2.1; omega)
  have HVE := hid (show vE X = if vB X = true then 0 else 130 from rfl)
  have HER := hid (show erX X o = erO (if vB X = true then (if o = true then 0 else 1) else 130) (rdL X X.sp.toNat) from rfl)
  have hRL : RS X = rdL X X.sp.toNat := rfl
  rw [hRL]
  have hn15 : vB X = true → (rdL X X.sp.toNat).length ≤ 15625 := fun hv => rdL_len X _ (timesB_rng (vB_ok hv).2.2).1 (by have := (vB_ok hv).2.1; omega)
  have HNN := hid hn15
  unfold RgP at hrd
  clear hRL hn15
  generalize hk : (if erX X o = 0 then rdL X X.sp.toNat else []) = KR at *
  have HK := hid hk.symm
  clear hk
  generalize rdL X X.sp.toNat = rs at *
  generalize erX X o = ER at *
  generalize vE X = VE at *
  generalize vB X = vb at *
  generalize X.ts.length = n at *
  have c0 := x0.cell 0 rfl; have c1 := x0.cell 1 rfl; have c2 := x0.cell 2 rfl; have c3 := x0.cell 3 rfl; have c4 := x0.cell 4 rfl; have c5 := x0.cell 5 rfl; have c6 := x0.cell 6 rfl; have c7 := x0.cell 7 rfl
  go_enter Try.func59, Try.ntmps59
  go_wp2_with fail
  refine (hck _ hX).mono ?_
  rintro e V1 ⟨rfl, hb1⟩
  replace hX := hX.below hb1 (Nat.le_refl _)
  clear c0 c1 c2 c3 c4 c5 c6 c7 hck hW
  replace x0 := x0.below hb1
  replace hb := hb.trans (hb1.mono hb.size)
  clear hb1
  cases vb with
  | false =>
    obtain rfl : VE = 130 := HVE.out
    obtain rfl : ER = 130 := by rw [HER.out]; simp [erO]
    obtain rfl : KR = [] := by rw [HK.out]; rfl
    have HZ := hid (show KnP [] 130 w (.returned (.tuple #[.slice none 0 0, .int .i64 130])) V1 from ⟨hb, none, 0, rfl, fun i r h => by simp at h⟩)
    go_wp2
    go_ret2
    exact HZ.out
  | true =>
    obtain rfl : VE = 0 := HVE.out
    have hrd1 := hrd rfl
    have hsp := HSP.out (by trivial)
    clear hrd HSP HVE
    have c0 := x0.cell 0 rfl; have c1 := x0.cell 1 rfl; have c2 := x0.cell 2 rfl; have c3 := x0.cell 3 rfl; have c4 := x0.cell 4 rfl; have c5 := x0.cell 5 rfl; have c6 := x0.cell 6 rfl; have c7 := x0.cell 7 rfl
    cases o with
    | false =>
      obtain rfl : ER = 1 := by rw [HER.out]; simp [erO]
      obtain rfl : KR = [] := by rw [HK.out]; rfl
      have HZ := hid (show KnP [] 1 w (.returned (.tuple #[.slice none 0 0, .int .i64 1])) V1 from ⟨hb, none, 0, rfl, fun i r h => by simp at h⟩)
      go_wp2
      go_ret2
      exact HZ.out
    | true =>
      rw [hsp] at hrd1
      clear hsp
      go_wp2_with fail
      refine (hrd1 _ hX).mono ?_
      rintro e V2 ⟨hb1, a', c', rfl, hr⟩
      have hbz := hb.trans (hb1.mono hb.size)
      have hiz : Rds w.heap.size V2 a' rs := fun i r hi => by
        obtain ⟨q1, q2, q3, q4, q5, q6, e1, e2, e3, e4, e5, e6⟩ := hr i r hi
        have := hb.size
        exact ⟨q1, q2, q3, q4, q5, q6, e1, e2, e3, e4, e5.mono this, e6.mono this⟩
      clear c0 c1 c2 c3 c4 c5 c6 c7 hrd1 hr
      by_cases hnil : rs = []
      · subst hnil
        obtain rfl : ER = 3 := by rw [HER.out]; simp [erO]
        obtain rfl : KR = [] := by rw [HK.out]; rfl
        have HZ := hid (show KnP [] 3 w (.returned (.tuple #[.slice none 0 0, .int .i64 3])) V2 from ⟨hbz, none, 0, rfl, fun i r h => by simp at h⟩)
        simp only [List.length_nil]
        go_wp2
        go_ret2
        exact HZ.out
      · obtain rfl : ER = 0 := by rw [HER.out]; simp [erO, hnil]
        obtain rfl : KR = rs := by rw [HK.out]; rfl
        have HZ := hid (show KnP KR 0 w (.returned (.tuple #[.slice a' KR.length c', .int .i64 0])) V2 from ⟨hbz, a', c', rfl, hiz⟩)
        obtain ⟨N, hN⟩ : ∃ N, N = KR.length := ⟨_, rfl⟩
        have hn0 : N ≠ 0 := by rw [hN]; exact fun h => hnil (List.length_eq_zero_iff.1 h)
        rw [← hN] at HZ ⊢
        clear hN
        have hq : ((N : Int) == 0) = false := by rw [beq_eq_false_iff_ne]; omega
        go_wp2
        go_ret2
        exact HZ.out
end Go.Proofs.Yteianfbdhakhpaa
