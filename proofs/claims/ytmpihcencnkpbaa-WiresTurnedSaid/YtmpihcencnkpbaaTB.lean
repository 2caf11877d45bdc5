import Derived.Test.YtmpihcencnkpbaaTA
/-! Left, Shows, Next. -/
namespace Go.Proofs.Ytmpihcencnkpbaa
set_option linter.unusedSimpArgs false
set_option linter.unusedVariables false
open Go Go.RowKit

theorem tru_ok {L N F : Int} {P : List F3} (hv : vB L N P F = true) : (∀ s ∈ truL L N P F, ∀ f ∈ s, Okf L N f) ∧ (truL L N P F).length ≤ 900000 := by
  obtain ⟨hL, hN, _, hF, _⟩ := vB_siz hv
  refine ⟨fun s hs => setB_ok hv ((truL_mem hL hN).1 hs).1.1, ?_⟩
  exact Nat.le_trans (List.length_filter_le _ _) (setsL_len hL hN (by omega))
/-- What Left, and Shows, answer. -/
def lfE (L N : Int) (P : List F3) (F : Int) (l n : Int) : Int := akE L N P F (prB L N l n)
def lfR (L N : Int) (P : List F3) (F : Int) (l n : Int) : Nat := if lfE L N P F l n = 0 then mxL (plL N (truL L N P F) l n) else 0
def shR (L N : Int) (P : List F3) (F : Int) (l n : Int) : List Int := if lfE L N P F l n = 0 then shV (plL N (truL L N P F) l n) else []
structure LfOk (L N : Int) (P : List F3) (F : Int) (l n : Int) : Prop where
  v : vB L N P F = true
  pr : prB L N l n = true
  L5 : 1 ≤ L ∧ L ≤ 5
  N5 : 1 ≤ N ∧ N ≤ 5
  hl : 0 ≤ l ∧ l < L
  hn : 0 ≤ n ∧ n < N
  eq : akT L N P F (prB L N l n) = truL L N P F
  ok : ∀ s ∈ truL L N P F, ∀ f ∈ s, Okf L N f
  ln : (truL L N P F).length ≤ 900000
theorem lf_ok {L N F l n : Int} {P : List F3} (h : lfE L N P F l n = 0) : LfOk L N P F l n := by
  obtain ⟨h1, h2, _, h3⟩ := akE_ok h
  obtain ⟨hL, hN, _⟩ := vB_siz h1
  obtain ⟨hl, hn⟩ := prB_rng hL hN h2
  obtain ⟨h4, h5⟩ := tru_ok h1
  exact ⟨h1, h2, hL, hN, hl, hn, h3, h4, h5⟩
theorem plL_rng {L N l n : Int} {T : List (List F3)} (hL : 1 ≤ L ∧ L ≤ 5) (hN : 1 ≤ N ∧ N ≤ 5) (hO : ∀ s ∈ T, ∀ f ∈ s, Okf L N f) (hl : 0 ≤ l ∧ l < L) (hn : 0 ≤ n ∧ n < N) : ∀ x ∈ plL N T l n, -1 ≤ x ∧ x ≤ 24 := fun x hx => by
  obtain ⟨s, hs, rfl⟩ := List.mem_map.1 hx
  have h1 := plV_rng hN.1 (hO s hs) hl hn
  have h2 : L * N ≤ 5 * 5 := Int.mul_le_mul hL.2 hN.2 (by omega) (by omega)
  omega

set_option maxRecDepth 100000 in
set_option maxHeartbeats 4000000 in
theorem Left_any (L N : Int) (aP : Option Addr) (cP : Nat) (P : List F3) (F : Int) (l n : Int) (w : World) (hP : Pz w aP P) : Calls Try.prog 37 #[.agg #[.int .i64 L, .int .i64 N, .slice aP P.length cP, .int .i64 F], .int .i64 l, .int .i64 n] w fun e w' => e = .returned (.tuple #[.int .i64 (lfR L N P F l n : Nat), .int .i64 (lfE L N P F l n)]) ∧ Below w.heap.size w w' := by
  obtain ⟨W, hW, hb, _, x0⟩ := boxes1 w #[.int .i64 L, .int .i64 N, .slice aP P.length cP, .int .i64 F] 24
  replace hP := hP.below hb (Nat.le_refl _)
  have hpr := fun v => isPress_any L N aP cP P F l n v
  have hak := fun o v (hv : Pz v aP P) => ask_any L N aP cP P F o v hv
  have hlf := fun (h : lfE L N P F l n = 0) v a c (hv : Rat v a (truL L N P F)) => by
    have ho := lf_ok h
    exact left_any L N aP cP P F a c (truL L N P F) l n v hv ho.L5 ho.N5 ho.hl ho.hn ho.ok ho.ln
  have hr0 : Hid (lfE L N P F l n = 0 → lfR L N P F l n = mxL (plL N (truL L N P F) l n)) := hid fun h => by unfold lfR; rw [if_pos h]
  have hr1 : Hid (lfE L N P F l n ≠ 0 → lfR L N P F l n = 0) := hid fun h => by unfold lfR; rw [if_neg h]
  obtain ⟨r, hrr⟩ : ∃ r, r = lfR L N P F l n := ⟨_, rfl⟩
  rw [← hrr] at hr0 hr1 ⊢
  clear hrr
  generalize mxL (plL N (truL L N P F) l n) = mx at *
  obtain ⟨q, hq⟩ : ∃ q, q = prB L N l n := ⟨_, rfl⟩
  rw [← hq] at hpr
  have hak1 := hak q
  unfold AkP at hak1
  have hE : Hid (lfE L N P F l n = akE L N P F q) := hid (by rw [hq]; rfl)
  have hT : lfE L N P F l n = 0 → akT L N P F q = truL L N P F := fun h => by rw [hq]; exact (lf_ok h).eq
  have HT := hid hT
  clear hq hak hT
  obtain ⟨E, hEE⟩ : ∃ E, E = lfE L N P F l n := ⟨_, rfl⟩
  rw [← hEE] at hlf hr0 hr1 HT hE ⊢
  rw [← hE.out] at hak1
  generalize akT L N P F q = T at *
  obtain ⟨tn, htn⟩ : ∃ tn, tn = T.length := ⟨_, rfl⟩
  rw [← htn] at hak1
  have HTN := hid htn
  have HEE := hid hEE
  clear htn hE hEE
  go_enter Try.func37, Try.ntmps37
  go_upto_region 1 with fail
  clear hW
  have hbd := (Below.refl W.heap.size W).drew
  have S0 := (And.intro (x0.below hbd) (hP.below hbd (Nat.le_refl _)))
  replace hb := hb.trans (hbd.mono hb.size)
  clear hbd x0 hP
  refine wp_region_head 10 (fun w' => (Bx w' w.heap.size #[.int .i64 L, .int .i64 N, .slice aP P.length cP, .int .i64 F] 24) ∧ (Pz w' aP P)) (by kernel_rfl) rfl ?_
  generalize W.drew = Y0 at *
  refine HeadAt.take (i := 0) (.agg #[.int .i64 L, .int .i64 N, .slice aP P.length cP, .int .i64 F]) rfl (by kernel_rfl) (.inl ⟨rfl, fun w' z => ?_⟩) S0 ?_
  · (have z0 := z.1.cell 0 rfl; have z1 := z.1.cell 1 rfl; have z2 := z.1.cell 2 rfl; have z3 := z.1.cell 3 rfl; simp [go_sem, z0, z1, z2, z3])
  (try simp only [Act.put, List.getElem_toArray, List.getElem_cons_succ, List.getElem_cons_zero, List.setIfInBounds_toArray, List.set_cons_succ, List.set_cons_zero])
  refine HeadAt.take (i := 1) (.agg #[.int .i64 L, .int .i64 N, .slice aP P.length cP, .int .i64 F]) rfl (by kernel_rfl) (.inl ⟨rfl, fun w' z => ?_⟩) S0 ?_
  · (have z0 := z.1.cell 0 rfl; have z1 := z.1.cell 1 rfl; have z2 := z.1.cell 2 rfl; have z3 := z.1.cell 3 rfl; simp [go_sem, z0, z1, z2, z3])
  (try simp only [Act.put, List.getElem_toArray, List.getElem_cons_succ, List.getElem_cons_zero, List.setIfInBounds_toArray, List.set_cons_succ, List.set_cons_zero])
  refine HeadAt.take (i := 2) (.int .i64 l) rfl (by kernel_rfl) (.inl ⟨rfl, fun _ _ => by simp [go_sem]⟩) S0 ?_
  (try simp only [Act.put, List.getElem_toArray, List.getElem_cons_succ, List.getElem_cons_zero, List.setIfInBounds_toArray, List.set_cons_succ, List.set_cons_zero])
  refine HeadAt.take (i := 3) (.int .i64 n) rfl (by kernel_rfl) (.inl ⟨rfl, fun _ _ => by simp [go_sem]⟩) S0 ?_
  (try simp only [Act.put, List.getElem_toArray, List.getElem_cons_succ, List.getElem_cons_zero, List.setIfInBounds_toArray, List.set_cons_succ, List.set_cons_zero])
  refine HeadAt.one (i := 4) rfl (by kernel_rfl) ?_
  generalize hK : Upto _ _ = K0
  (try simp only [Act.put, List.getElem_toArray, List.getElem_cons_succ, List.getElem_cons_zero, List.setIfInBounds_toArray, List.set_cons_succ, List.set_cons_zero])
  go_wp2_with fail
  refine (hpr _).mono ?_
  rintro e V1 ⟨rfl, hb1⟩
  go_wp2_with fail
  replace S0 := (And.intro (S0.1.below hb1) (S0.2.below hb1 (Nat.le_refl _)))
  replace hb := hb.trans (hb1.mono hb.size)
  clear hb1
  subst hK
  refine ⟨S0, ?_⟩
  (try simp only [Act.put, List.getElem_toArray, List.getElem_cons_succ, List.getElem_cons_zero, List.setIfInBounds_toArray, List.set_cons_succ, List.set_cons_zero])
  refine HeadAt.one (i := 5) rfl (by kernel_rfl) ?_
  generalize hK : Upto _ _ = K0
  (try simp only [Act.put, List.getElem_toArray, List.getElem_cons_succ, List.getElem_cons_zero, List.setIfInBounds_toArray, List.set_cons_succ, List.set_cons_zero])
  go_wp2_with fail
  refine (hak1 _ S0.2).mono ?_
  rintro e V2 ⟨hb1, aT, cT, rfl, hrat⟩
  go_wp2_with fail
  replace S0 := (And.intro (S0.1.below hb1) (S0.2.below hb1 (Nat.le_refl _)))
  replace hb := hb.trans (hb1.mono hb.size)
  clear hb1
  subst hK
  refine ⟨S0, ?_⟩
  (try simp only [Act.put, List.getElem_toArray, List.getElem_cons_succ, List.getElem_cons_zero, List.setIfInBounds_toArray, List.set_cons_succ, List.set_cons_zero])
  refine HeadAt.take (i := 6) (.tuple #[.slice aT tn cT, .int .i64 E]) rfl (by kernel_rfl) (.inl ⟨rfl, fun _ _ => by simp [go_sem]⟩) S0 ?_
  (try simp only [Act.put, List.getElem_toArray, List.getElem_cons_succ, List.getElem_cons_zero, List.setIfInBounds_toArray, List.set_cons_succ, List.set_cons_zero])
  refine HeadAt.take (i := 7) (.slice aT tn cT) rfl (by kernel_rfl) (.inl ⟨rfl, fun _ _ => by simp [go_sem]⟩) S0 ?_
  (try simp only [Act.put, List.getElem_toArray, List.getElem_cons_succ, List.getElem_cons_zero, List.setIfInBounds_toArray, List.set_cons_succ, List.set_cons_zero])
  refine HeadAt.take (i := 8) (.int .i64 E) rfl (by kernel_rfl) (.inl ⟨rfl, fun _ _ => by simp [go_sem]⟩) S0 ?_
  (try simp only [Act.put, List.getElem_toArray, List.getElem_cons_succ, List.getElem_cons_zero, List.setIfInBounds_toArray, List.set_cons_succ, List.set_cons_zero])
  refine HeadAt.take (i := 9) (.slice aT tn cT) rfl (by kernel_rfl) (.inl ⟨rfl, fun _ _ => by simp [go_sem]⟩) S0 ?_
  (try simp only [Act.put, List.getElem_toArray, List.getElem_cons_succ, List.getElem_cons_zero, List.setIfInBounds_toArray, List.set_cons_succ, List.set_cons_zero])
  refine HeadAt.done (by kernel_rfl) ?_
  (try simp only [Act.put, List.drop_succ_cons, List.drop_zero, List.getElem_toArray, List.getElem_cons_succ, List.getElem_cons_zero])
  go_wp2_with fail
  refine NoPanic.normal ?_
  obtain ⟨x0, hP⟩ := S0
  clear hpr hak1 hP
  by_cases hE : E = 0
  · have hrv := hr0.out hE
    have hTT := HT.out hE
    subst hE hrv
    have hlf2 := hlf rfl V2 aT cT (by rw [← hTT]; exact hrat)
    rw [← hTT, ← HTN.out] at hlf2
    clear hlf hr1 HT hTT hrat HTN
    have c0 := x0.cell 0 rfl; have c1 := x0.cell 1 rfl; have c2 := x0.cell 2 rfl; have c3 := x0.cell 3 rfl
    go_wp2_with fail
    refine hlf2.mono ?_
    rintro e V9 ⟨rfl, hb1⟩
    replace hb := hb.trans (hb1.mono hb.size)
    clear hb1 c0 c1 c2 c3 x0 hlf2
    go_wp2
    go_ret2
    exact ⟨rfl, hb⟩
  · have hB : (E != 0) = true := by simpa using hE
    have hrv := hr1.out hE
    subst hrv
    clear hlf hr0 hr1 HT hrat x0 hE
    go_wp2
    go_ret2
    exact ⟨rfl, hb⟩

set_option maxRecDepth 100000 in
set_option maxHeartbeats 4000000 in
theorem Shows_any (L N : Int) (aP : Option Addr) (cP : Nat) (P : List F3) (F : Int) (l n : Int) (w : World) (hP : Pz w aP P) : Calls Try.prog 35 #[.agg #[.int .i64 L, .int .i64 N, .slice aP P.length cP, .int .i64 F], .int .i64 l, .int .i64 n] w fun e w' => Below w.heap.size w w' ∧ ∃ (a : Option Addr) (c : Nat), e = .returned (.tuple #[.slice a (shR L N P F l n).length c, .int .i64 (lfE L N P F l n)]) ∧ Ints w' a (shR L N P F l n) := by
  obtain ⟨W, hW, hb, _, x0⟩ := boxes1 w #[.int .i64 L, .int .i64 N, .slice aP P.length cP, .int .i64 F] 24
  replace hP := hP.below hb (Nat.le_refl _)
  have hpr := fun v => isPress_any L N aP cP P F l n v
  have hak := fun o v (hv : Pz v aP P) => ask_any L N aP cP P F o v hv
  have hpd := fun (h : lfE L N P F l n = 0) v a c (hv : Rat v a (truL L N P F)) => by
    have ho := lf_ok h
    exact played_any L N aP cP P F a c (truL L N P F) l n v hv ho.L5 ho.N5 ho.hl ho.hn ho.ok ho.ln
  have hso := fun (h : lfE L N P F l n = 0) c mb nn D v x1 x2 hD => by
    have ho := lf_ok h
    exact Sorted_any c mb nn (plL N (truL L N P F) l n) D v x1 x2 hD (by rw [plL, List.length_map]; exact ho.ln) (plL_rng ho.L5 ho.N5 ho.ok ho.hl ho.hn)
  unfold PlM at hpd
  have hr0 : Hid (lfE L N P F l n = 0 → shR L N P F l n = shV (plL N (truL L N P F) l n)) := hid fun h => by unfold shR; rw [if_pos h]
  have hr1 : Hid (lfE L N P F l n ≠ 0 → shR L N P F l n = []) := hid fun h => by unfold shR; rw [if_neg h]
  obtain ⟨r, hrr⟩ : ∃ r, r = shR L N P F l n := ⟨_, rfl⟩
  rw [← hrr] at hr0 hr1 ⊢
  clear hrr
  generalize plL N (truL L N P F) l n = Q at *
  obtain ⟨q, hq⟩ : ∃ q, q = prB L N l n := ⟨_, rfl⟩
  rw [← hq] at hpr
  have hak1 := hak q
  unfold AkP at hak1
  have hE : Hid (lfE L N P F l n = akE L N P F q) := hid (by rw [hq]; rfl)
  have hT : lfE L N P F l n = 0 → akT L N P F q = truL L N P F := fun h => by rw [hq]; exact (lf_ok h).eq
  have HT := hid hT
  clear hq hak hT
  obtain ⟨E, hEE⟩ : ∃ E, E = lfE L N P F l n := ⟨_, rfl⟩
  rw [← hEE] at hpd hso hr0 hr1 HT hE ⊢
  rw [← hE.out] at hak1
  generalize akT L N P F q = T at *
  obtain ⟨tn, htn⟩ : ∃ tn, tn = T.length := ⟨_, rfl⟩
  rw [← htn] at hak1
  have HTN := hid htn
  have HEE := hid hEE
  clear htn hE hEE
  go_enter Try.func35, Try.ntmps35
  go_upto_region 1 with fail
  clear hW
  have hbd := (Below.refl W.heap.size W).drew
  have S0 := (And.intro (x0.below hbd) (hP.below hbd (Nat.le_refl _)))
  replace hb := hb.trans (hbd.mono hb.size)
  clear hbd x0 hP
  refine wp_region_head 10 (fun w' => (Bx w' w.heap.size #[.int .i64 L, .int .i64 N, .slice aP P.length cP, .int .i64 F] 24) ∧ (Pz w' aP P)) (by kernel_rfl) rfl ?_
  generalize W.drew = Y0 at *
  refine HeadAt.take (i := 0) (.agg #[.int .i64 L, .int .i64 N, .slice aP P.length cP, .int .i64 F]) rfl (by kernel_rfl) (.inl ⟨rfl, fun w' z => ?_⟩) S0 ?_
  · (have z0 := z.1.cell 0 rfl; have z1 := z.1.cell 1 rfl; have z2 := z.1.cell 2 rfl; have z3 := z.1.cell 3 rfl; simp [go_sem, z0, z1, z2, z3])
  (try simp only [Act.put, List.getElem_toArray, List.getElem_cons_succ, List.getElem_cons_zero, List.setIfInBounds_toArray, List.set_cons_succ, List.set_cons_zero])
  refine HeadAt.take (i := 1) (.agg #[.int .i64 L, .int .i64 N, .slice aP P.length cP, .int .i64 F]) rfl (by kernel_rfl) (.inl ⟨rfl, fun w' z => ?_⟩) S0 ?_
  · (have z0 := z.1.cell 0 rfl; have z1 := z.1.cell 1 rfl; have z2 := z.1.cell 2 rfl; have z3 := z.1.cell 3 rfl; simp [go_sem, z0, z1, z2, z3])
  (try simp only [Act.put, List.getElem_toArray, List.getElem_cons_succ, List.getElem_cons_zero, List.setIfInBounds_toArray, List.set_cons_succ, List.set_cons_zero])
  refine HeadAt.take (i := 2) (.int .i64 l) rfl (by kernel_rfl) (.inl ⟨rfl, fun _ _ => by simp [go_sem]⟩) S0 ?_
  (try simp only [Act.put, List.getElem_toArray, List.getElem_cons_succ, List.getElem_cons_zero, List.setIfInBounds_toArray, List.set_cons_succ, List.set_cons_zero])
  refine HeadAt.take (i := 3) (.int .i64 n) rfl (by kernel_rfl) (.inl ⟨rfl, fun _ _ => by simp [go_sem]⟩) S0 ?_
  (try simp only [Act.put, List.getElem_toArray, List.getElem_cons_succ, List.getElem_cons_zero, List.setIfInBounds_toArray, List.set_cons_succ, List.set_cons_zero])
  refine HeadAt.one (i := 4) rfl (by kernel_rfl) ?_
  generalize hK : Upto _ _ = K0
  (try simp only [Act.put, List.getElem_toArray, List.getElem_cons_succ, List.getElem_cons_zero, List.setIfInBounds_toArray, List.set_cons_succ, List.set_cons_zero])
  go_wp2_with fail
  refine (hpr _).mono ?_
  rintro e V1 ⟨rfl, hb1⟩
  go_wp2_with fail
  replace S0 := (And.intro (S0.1.below hb1) (S0.2.below hb1 (Nat.le_refl _)))
  replace hb := hb.trans (hb1.mono hb.size)
  clear hb1
  subst hK
  refine ⟨S0, ?_⟩
  (try simp only [Act.put, List.getElem_toArray, List.getElem_cons_succ, List.getElem_cons_zero, List.setIfInBounds_toArray, List.set_cons_succ, List.set_cons_zero])
  refine HeadAt.one (i := 5) rfl (by kernel_rfl) ?_
  generalize hK : Upto _ _ = K0
  (try simp only [Act.put, List.getElem_toArray, List.getElem_cons_succ, List.getElem_cons_zero, List.setIfInBounds_toArray, List.set_cons_succ, List.set_cons_zero])
  go_wp2_with fail
  refine (hak1 _ S0.2).mono ?_
  rintro e V2 ⟨hb1, aT, cT, rfl, hrat⟩
  go_wp2_with fail
  replace S0 := (And.intro (S0.1.below hb1) (S0.2.below hb1 (Nat.le_refl _)))
  replace hb := hb.trans (hb1.mono hb.size)
  clear hb1
  subst hK
  refine ⟨S0, ?_⟩
  (try simp only [Act.put, List.getElem_toArray, List.getElem_cons_succ, List.getElem_cons_zero, List.setIfInBounds_toArray, List.set_cons_succ, List.set_cons_zero])
  refine HeadAt.take (i := 6) (.tuple #[.slice aT tn cT, .int .i64 E]) rfl (by kernel_rfl) (.inl ⟨rfl, fun _ _ => by simp [go_sem]⟩) S0 ?_
  (try simp only [Act.put, List.getElem_toArray, List.getElem_cons_succ, List.getElem_cons_zero, List.setIfInBounds_toArray, List.set_cons_succ, List.set_cons_zero])
  refine HeadAt.take (i := 7) (.slice aT tn cT) rfl (by kernel_rfl) (.inl ⟨rfl, fun _ _ => by simp [go_sem]⟩) S0 ?_
  (try simp only [Act.put, List.getElem_toArray, List.getElem_cons_succ, List.getElem_cons_zero, List.setIfInBounds_toArray, List.set_cons_succ, List.set_cons_zero])
  refine HeadAt.take (i := 8) (.int .i64 E) rfl (by kernel_rfl) (.inl ⟨rfl, fun _ _ => by simp [go_sem]⟩) S0 ?_
  (try simp only [Act.put, List.getElem_toArray, List.getElem_cons_succ, List.getElem_cons_zero, List.setIfInBounds_toArray, List.set_cons_succ, List.set_cons_zero])
  refine HeadAt.take (i := 9) (.slice aT tn cT) rfl (by kernel_rfl) (.inl ⟨rfl, fun _ _ => by simp [go_sem]⟩) S0 ?_
  (try simp only [Act.put, List.getElem_toArray, List.getElem_cons_succ, List.getElem_cons_zero, List.setIfInBounds_toArray, List.set_cons_succ, List.set_cons_zero])
  refine HeadAt.done (by kernel_rfl) ?_
  (try simp only [Act.put, List.drop_succ_cons, List.drop_zero, List.getElem_toArray, List.getElem_cons_succ, List.getElem_cons_zero])
  go_wp2_with fail
  refine NoPanic.normal ?_
  obtain ⟨x0, hP⟩ := S0
  clear hpr hak1 hP
  by_cases hE : E = 0
  · have hrv := hr0.out hE
    have hTT := HT.out hE
    have hpd2 := hpd hE V2 aT cT (by rw [← hTT]; exact hrat)
    rw [← hTT, ← HTN.out] at hpd2
    have hso2 := hso hE
    rw [← hrv] at hso2
    subst hE
    obtain ⟨rn, hrn⟩ : ∃ rn, rn = r.length := ⟨_, rfl⟩
    rw [← hrn] at hso2
    have HRN := hid hrn
    clear hpd hso hr1 hr0 HT hTT hrat HTN hrv hrn
    have c0 := x0.cell 0 rfl; have c1 := x0.cell 1 rfl; have c2 := x0.cell 2 rfl; have c3 := x0.cell 3 rfl
    go_wp2_with fail
    refine hpd2.mono ?_
    rintro e V9 ⟨hb1, mb, D, rfl, _, hown, hD⟩
    replace hb := hb.trans (hb1.mono hb.size)
    clear hb1 c0 c1 c2 c3 x0 hpd2
    go_wp2_with fail
    refine (Keys_any mb V9).mono ?_
    rintro e V10 ⟨rfl, hb1, xk⟩
    replace hown := hown.kept (Below.gr' hb1) (by simp)
    replace hb := hb.trans (hb1.mono hb.size)
    clear hb1
    go_wp2_with fail
    refine (hso2 _ mb _ D V10 xk hown hD).mono ?_
    rintro e V11 ⟨hb1, a, cc, rfl, hi⟩
    replace hb := hb.trans (hb1.mono hb.size)
    clear hb1 hown hD xk hso2
    go_wp2
    go_ret2
    exact ⟨hb, a, cc, by rw [← HRN.out]; rfl, hi⟩
  · have hB : (E != 0) = true := by simpa using hE
    have hrv := hr1.out hE
    subst hrv
    clear hpd hso hr0 hr1 HT hrat x0 hE
    go_wp2
    go_ret2
    exact ⟨hb, none, 0, rfl, by simp, by simp, fun i hi => by simp at hi⟩


/-- One press more that is looked at. -/
def nxS (N : Int) (T : List (List F3)) (i j : Nat) (st : Int × Int × Nat) : Int × Int × Nat := if mxL (plL N T i j) < st.2.2 then ((i : Int), (j : Int), mxL (plL N T i j)) else st
def nxIn (N : Int) (T : List (List F3)) (i : Nat) : Nat → (Int × Int × Nat) → (Int × Int × Nat)
  | 0, st => st
  | j + 1, st => nxS N T i j (nxIn N T i j st)
def nxO (N : Int) (T : List (List F3)) : Nat → (Int × Int × Nat)
  | 0 => (0, 0, T.length)
  | i + 1 => nxIn N T i N.toNat (nxO N T i)
/-- What Next answers. -/
def nxE (L N : Int) (P : List F3) (F : Int) : Int := if akE L N P F true = 0 then (if (nxO N (truL L N P F) L.toNat).2.2 = (truL L N P F).length then 3 else 0) else akE L N P F true
def nxA (L N : Int) (P : List F3) (F : Int) : Int := if nxE L N P F = 0 then (nxO N (truL L N P F) L.toNat).1 else 0
def nxB (L N : Int) (P : List F3) (F : Int) : Int := if nxE L N P F = 0 then (nxO N (truL L N P F) L.toNat).2.1 else 0
theorem nxIn_le (N : Int) (T : List (List F3)) (i : Nat) : ∀ (j : Nat) (st : Int × Int × Nat), (nxIn N T i j st).2.2 ≤ st.2.2
  | 0, st => Nat.le_refl _
  | j + 1, st => by
    rw [nxIn, nxS]
    have := nxIn_le N T i j st
    split
    · show mxL (plL N T i j) ≤ st.2.2; omega
    · exact this
theorem nxO_le (N : Int) (T : List (List F3)) : ∀ i, (nxO N T i).2.2 ≤ T.length
  | 0 => Nat.le_refl _
  | i + 1 => Nat.le_trans (nxIn_le N T i _ _) (nxO_le N T i)
theorem results_tmp3 {fn : Func} {t u s : Tmp} (h : fn.results = #[.tmp t, .tmp u, .tmp s]) (tmps : Array Value) (P : Program) (w : World) :
    (results fn tmps).run P w = .ok (.tuple #[tmps.getD t undef, tmps.getD u undef, tmps.getD s undef]) w := by
  simp [results, h]
set_option maxRecDepth 100000 in
set_option maxHeartbeats 6000000 in
theorem Next_any (L N : Int) (aP : Option Addr) (cP : Nat) (P : List F3) (F : Int) (w : World) (hP : Pz w aP P) : Calls Try.prog 39 #[.agg #[.int .i64 L, .int .i64 N, .slice aP P.length cP, .int .i64 F]] w fun e w' => e = .returned (.tuple #[.int .i64 (nxA L N P F), .int .i64 (nxB L N P F), .int .i64 (nxE L N P F)]) ∧ Below w.heap.size w w' := by
  obtain ⟨W, hW, hb, _, x0⟩ := boxes1 w #[.int .i64 L, .int .i64 N, .slice aP P.length cP, .int .i64 F] 24
  replace hP := hP.below hb (Nat.le_refl _)
  have hak := ask_any L N aP cP P F true W hP
  unfold AkP at hak
  have hk := fun (h : akE L N P F true = 0) => akE_ok h
  have e1 : Hid (akE L N P F true ≠ 0 → nxE L N P F = akE L N P F true ∧ nxA L N P F = 0 ∧ nxB L N P F = 0) := hid fun h => by
    have h1 : nxE L N P F = akE L N P F true := by unfold nxE; rw [if_neg h]
    exact ⟨h1, by unfold nxA; rw [if_neg (by rw [h1]; exact h)], by unfold nxB; rw [if_neg (by rw [h1]; exact h)]⟩
  have e2 : Hid (akE L N P F true = 0 → (nxO N (truL L N P F) L.toNat).2.2 = (truL L N P F).length → nxE L N P F = 3 ∧ nxA L N P F = 0 ∧ nxB L N P F = 0) := hid fun h h2 => by
    have h1 : nxE L N P F = 3 := by unfold nxE; rw [if_pos h, if_pos h2]
    exact ⟨h1, by unfold nxA; rw [if_neg (by omega)], by unfold nxB; rw [if_neg (by omega)]⟩
  have e3 : Hid (akE L N P F true = 0 → (nxO N (truL L N P F) L.toNat).2.2 ≠ (truL L N P F).length → nxE L N P F = 0 ∧ nxA L N P F = (nxO N (truL L N P F) L.toNat).1 ∧ nxB L N P F = (nxO N (truL L N P F) L.toNat).2.1) := hid fun h h2 => by
    have h1 : nxE L N P F = 0 := by unfold nxE; rw [if_pos h, if_neg h2]
    exact ⟨h1, by unfold nxA; rw [if_pos h1], by unfold nxB; rw [if_pos h1]⟩
  generalize nxE L N P F = rE at *
  generalize nxA L N P F = rA at *
  generalize nxB L N P F = rB at *
  have HK := hid hk
  obtain ⟨E, hE0⟩ : ∃ E, E = akE L N P F true := ⟨_, rfl⟩
  rw [← hE0] at hak e1 e2 e3 HK
  clear hE0 hk
  by_cases hE : E = 0
  · obtain ⟨hv, _, hne, hT⟩ := HK.out hE
    obtain ⟨hL, hN, _⟩ := vB_siz hv
    obtain ⟨hO, hTl⟩ := tru_ok hv
    rw [hT] at hak
    replace e2 := hid (e2.out hE)
    replace e3 := hid (e3.out hE)
    have hO2 := hid hO
    generalize truL L N P F = T at *
    obtain ⟨l, hl⟩ : ∃ l : Nat, L = (l : Int) := ⟨L.toNat, by omega⟩
    obtain ⟨n, hn⟩ : ∃ n : Nat, N = (n : Int) := ⟨N.toNat, by omega⟩
    subst hl hn hE
    rw [Int.toNat_natCast] at e2 e3
    obtain ⟨m, hm⟩ : ∃ m, m = T.length := ⟨_, rfl⟩
    rw [← hm] at hak hTl e2 e3
    have hlf := fun v a c (hv : Rat v a T) (i j : Nat) (hi : i < l) (hj : j < n) => left_any (l : Int) (n : Int) aP cP P F a c T (i : Int) (j : Int) v hv hL hN ⟨by omega, by omega⟩ ⟨by omega, by omega⟩ hO (by rw [← hm]; exact hTl)
    rw [← hm] at hlf
    have HM := hid hm
    have hle := fun i => nxO_le (n : Int) T i
    have hli := fun i j st => nxIn_le (n : Int) T i j st
    rw [← hm] at hle
    have HLE := hid hle
    have HLI := hid hli
    clear HK hT hO hm hne hv hle hli e1
    have c0 := x0.cell 0 rfl; have c1 := x0.cell 1 rfl; have c2 := x0.cell 2 rfl; have c3 := x0.cell 3 rfl
    go_enter Try.func39, Try.ntmps39
    go_wp2_with fail
    refine hak.mono ?_
    rintro e W1 ⟨hb1, aT, cT, rfl, hrat⟩
    replace hb := hb.trans (hb1.mono hb.size)
    replace x0 := x0.below hb1
    clear hW hb1 c0 c1 c2 c3 hak hP
    have c0 := x0.cell 0 rfl; have c1 := x0.cell 1 rfl; have c2 := x0.cell 2 rfl; have c3 := x0.cell 3 rfl
    go_wp2
    clear c0 c1 c2 c3
    go_loopw [2, 3, 6, 7, 8, 9, 22] (fun v2 v3 v6 v7 v8 v9 v22 wr => ∃ (i q : Nat) (ra rb : Int), i ≤ l ∧ v22 = .int .i64 (i : Int) ∧ v2 = .int .i64 ra ∧ v3 = .int .i64 rb ∧ v6 = .int .i64 (q : Int) ∧ Hid (nxO (n : Int) T i = (ra, rb, q)) ∧ q ≤ m ∧ Below W1.heap.size W1 wr) (fun _ _ _ _ _ _ v22 _ => l - (intOf v22).toNat)
    case atStart => exact ⟨0, m, 0, 0, Nat.zero_le _, rfl, rfl, rfl, rfl, hid (by rw [HM.out]; rfl), Nat.le_refl _, Below.refl _ _⟩
    case round =>
      obtain ⟨i, q, ra, rb, hi, rfl, rfl, rfl, rfl, hst, hqm, hbr⟩ := hrel
      by_cases hlt : i < l
      · have hiI : (i : Int) < l := by omega
        have xr := x0.below hbr
        have hst2 := hid (show nxIn (n : Int) T i 0 (nxO (n : Int) T i) = (ra, rb, q) from hst.out)
        have c0 := xr.cell 0 rfl; have c1 := xr.cell 1 rfl; have c2 := xr.cell 2 rfl; have c3 := xr.cell 3 rfl
        clear hst
        go_wp2
        clear c0 c1 c2 c3 xr
        go_loopw [2, 3, 6, 8, 9, 27] (fun v2 v3 v6 v8 v9 v27 wr => ∃ (j q : Nat) (ra rb : Int), j ≤ n ∧ v27 = .int .i64 (j : Int) ∧ v2 = .int .i64 ra ∧ v3 = .int .i64 rb ∧ v6 = .int .i64 (q : Int) ∧ Hid (nxIn (n : Int) T i j (nxO (n : Int) T i) = (ra, rb, q)) ∧ q ≤ m ∧ Below W1.heap.size W1 wr) (fun _ _ _ _ _ v27 _ => n - (intOf v27).toNat)
        case atStart => exact ⟨0, q, ra, rb, Nat.zero_le _, rfl, rfl, rfl, rfl, hst2, hqm, hbr⟩
        case round =>
          clear hst2 hqm hbr
          obtain ⟨j, q, ra, rb, hj, rfl, rfl, rfl, rfl, hst, hqm, hbr⟩ := hrel
          by_cases hjl : j < n
          · have hjI : (j : Int) < n := by omega
            have xr := x0.below hbr
            have hl1 := hlf wr aT cT (hrat.below hbr (Nat.le_refl _)) i j hlt hjl
            have hnx : Hid (nxIn (n : Int) T i (j + 1) (nxO (n : Int) T i) = if mxL (plL (n : Int) T i j) < q then ((i : Int), (j : Int), mxL (plL (n : Int) T i j)) else (ra, rb, q)) := hid (by rw [nxIn, hst.out]; rfl)
            have hmx : mxL (plL (n : Int) T i j) ≤ m := by
              refine Nat.le_trans (mxL_le _) ?_
              rw [plL, List.length_map, ← HM.out]; exact Nat.le_refl _
            generalize mxL (plL (n : Int) T i j) = p at *
            have c0 := xr.cell 0 rfl; have c1 := xr.cell 1 rfl; have c2 := xr.cell 2 rfl; have c3 := xr.cell 3 rfl
            clear xr hst
            go_wp2_with fail
            refine hl1.mono ?_
            rintro e V1 ⟨rfl, hb3⟩
            replace hbr := hbr.trans (hb3.mono hbr.size)
            clear hb3 hl1 c0 c1 c2 c3
            by_cases hp : p < q
            · have hpI : (p : Int) < (q : Int) := by omega
              have HN := hid (hnx.out.trans (if_pos hp))
              clear hnx hp
              go_wp2
              go_roundw
              case rel => exact ⟨j + 1, p, (i : Int), (j : Int), by omega, by go_num, rfl, rfl, rfl, HN, hmx, hbr⟩
              case measure => simp [intOf]; omega
            · have hpI : ¬ (p : Int) < (q : Int) := by omega
              have HN := hid (hnx.out.trans (if_neg hp))
              clear hnx hp
              go_wp2
              go_roundw
              case rel => exact ⟨j + 1, q, ra, rb, by omega, by go_num, rfl, rfl, rfl, HN, hqm, hbr⟩
              case measure => simp [intOf]; omega
          · obtain rfl : j = n := by omega
            have HN := hid (show nxO (j : Int) T (i + 1) = (ra, rb, q) by rw [nxO, Int.toNat_natCast]; exact hst.out)
            have hjI : ¬ (j : Int) < (j : Int) := by omega
            clear hst
            go_wp2
            go_roundw
            case rel => exact ⟨i + 1, q, ra, rb, by omega, by go_num, rfl, rfl, rfl, HN, hqm, hbr⟩
            case measure => simp [intOf]; omega
      · obtain rfl : i = l := by omega
        have hiI : ¬ (i : Int) < (i : Int) := by omega
        have e2' := e2.out
        have e3' := e3.out
        rw [hst.out] at e2' e3'
        replace hb := hb.trans (hbr.mono hb.size)
        by_cases hqe : q = m
        · obtain ⟨r1, r2, r3⟩ := e2' hqe
          have hB : ((q : Int) == (m : Int)) = true := by simp [hqe]
          have HR := hid (And.intro r1 (And.intro r2 r3))
          clear r1 r2 r3 e2' e3' e2 e3 hst hqe
          go_wp2
          ((try simp only [Exit.inBlock, Exit.then]); refine bodyPost_ret (results_tmp3 rfl _ _ _) rfl ?_)
          exact ⟨by rw [HR.out.1, HR.out.2.1, HR.out.2.2]; rfl, hb⟩
        · obtain ⟨r1, r2, r3⟩ := e3' hqe
          have hB : ((q : Int) == (m : Int)) = false := by rw [beq_eq_false_iff_ne]; omega
          have HR := hid (And.intro r1 (And.intro r2 r3))
          clear r1 r2 r3 e2' e3' e2 e3 hst hqe
          go_wp2
          ((try simp only [Exit.inBlock, Exit.then]); refine bodyPost_ret (results_tmp3 rfl _ _ _) rfl ?_)
          exact ⟨by rw [HR.out.1, HR.out.2.1, HR.out.2.2]; rfl, hb⟩
  · have hB : (E != 0) = true := by simpa using hE
    obtain ⟨r1, r2, r3⟩ := e1.out hE
    have HR := hid (And.intro r1 (And.intro r2 r3))
    generalize akT L N P F true = T at *
    have c0 := x0.cell 0 rfl; have c1 := x0.cell 1 rfl; have c2 := x0.cell 2 rfl; have c3 := x0.cell 3 rfl
    clear r1 r2 r3 e1 e2 e3 HK hE
    go_enter Try.func39, Try.ntmps39
    go_wp2_with fail
    refine hak.mono ?_
    rintro e W1 ⟨hb1, aT, cT, rfl, hrat⟩
    replace hb := hb.trans (hb1.mono hb.size)
    clear hW hb1 c0 c1 c2 c3 hak hP x0 hrat
    go_wp2
    ((try simp only [Exit.inBlock, Exit.then]); refine bodyPost_ret (results_tmp3 rfl _ _ _) rfl ?_)
    exact ⟨by rw [HR.out.1, HR.out.2.1, HR.out.2.2]; rfl, hb⟩
end Go.Proofs.Ytmpihcencnkpbaa
