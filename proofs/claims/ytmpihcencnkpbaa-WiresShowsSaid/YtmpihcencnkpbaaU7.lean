import Derived.Test.YtmpihcencnkpbaaU6
import Derived.Test.YtmpihcencnkpbaaTE
import Derived.Test.YtmpihcencnkpbaaTB
/-! The reference's Left, Shows. -/
namespace Go.Proofs.Ytmpihcencnkpbaa
set_option linter.unusedSimpArgs false
set_option linter.unusedVariables false
open Go Go.RowKit

/-- What is known of the reference's truths where a press is asked about. -/
structure RlOk (L N : Int) (P : List F3) (F : Int) (l n : Int) (X : List (List F3)) (K : Nat) : Prop where
  L5 : 1 ≤ L ∧ L ≤ 5
  N5 : 1 ≤ N ∧ N ≤ 5
  hl : 0 ≤ l ∧ l < L
  hn : 0 ≤ n ∧ n < N
  eq : rkT L N P F (prB L N l n) = X
  st : ∀ s ∈ X, setB L N s = true
  ln : X.length ≤ 900000
  kk : K = (L * N).toNat
  k25 : K ≤ 25
  mx : mxI (tlV K (plL N X l n)) = (lfR L N P F l n : Nat)
  sh : shT K (K + 1) (plL N X l n) = shR L N P F l n
theorem xp_set {L N : Int} (hL : 1 ≤ L ∧ L ≤ 5) (hN : 1 ≤ N ∧ N ≤ 5) {P : List F3} {m : Nat} : ∀ s ∈ xpR L N P m, setB L N s = true := fun s hs => ((setsL_mem hL hN).1 ((exR_mem hL hN).1 hs).1).1
theorem xp_len {L N : Int} (hL : 1 ≤ L ∧ L ≤ 5) (hN : 1 ≤ N ∧ N ≤ 5) (P : List F3) {m : Nat} (hm : m ≤ 3) : (xpR L N P m).length ≤ 900000 :=
  Nat.le_trans (Nat.le_trans (List.length_filter_le _ _) (rsL_len3 hm _ _ (allF_len hL hN))) (by decide)
theorem pl_in {L N l n : Int} (hL : 1 ≤ L ∧ L ≤ 5) (hN : 1 ≤ N ∧ N ≤ 5) (hl : 0 ≤ l ∧ l < L) (hn : 0 ≤ n ∧ n < N) {X : List (List F3)} (h : ∀ s ∈ X, setB L N s = true) {K : Nat} (hK : K = (L * N).toNat) : ∀ x ∈ plL N X l n, -1 ≤ x ∧ x < (K : Int) := fun x hx => by
  obtain ⟨s, hs, rfl⟩ := List.mem_map.1 hx
  have h1 := plV_rng (l := l) (n := n) hN.1 (fun f hf => Okf.of hL hN ((faultB_iff hL hN).1 ((setB_iff.1 (h s hs)).1 f hf))) hl hn
  have h2 := LN_25 hL hN
  omega
theorem rl_ok {L N F l n : Int} {P : List F3} (h : lfE L N P F l n = 0) : RlOk L N P F l n (xpR L N P F.toNat) (L * N).toNat := by
  have ho := lf_ok h
  obtain ⟨_, _, _, hF, _⟩ := vB_siz ho.v
  have hst := xp_set ho.L5 ho.N5 (P := P) (m := F.toNat)
  have hin := pl_in ho.L5 ho.N5 ho.hl ho.hn hst rfl
  have hp := exR_perm ho.L5 ho.N5 P (F := F)
  have h25 := LN_25 ho.L5 ho.N5
  refine ⟨ho.L5, ho.N5, ho.hl, ho.hn, by unfold rkT; rw [if_pos (show akE L N P F (prB L N l n) = 0 from h)], hst, xp_len ho.L5 ho.N5 P (by omega), rfl, by omega, ?_, ?_⟩
  · rw [mxI_tl hin, mxL_perm (plL_perm hp)]
    unfold lfR; rw [if_pos h]
  · rw [shT_all (by omega) hin, shV_perm (plL_perm hp)]
    unfold shR; rw [if_pos h]
theorem lf_no {L N F l n : Int} {P : List F3} (h : lfE L N P F l n ≠ 0) : lfR L N P F l n = 0 ∧ shR L N P F l n = [] := by
  constructor
  · unfold lfR; rw [if_neg h]
  · unfold shR; rw [if_neg h]
theorem tl_ints {w : World} {g K : Nat} {Q : List Int} (h : Bx w g (vrow (tlV K Q)) 3) (hK : K ≤ 25) (hQ : Q.length ≤ 900000) : Ints w (some ⟨g, 0, none⟩) (tlV K Q) :=
  Ints.of_bx h (by rw [tlV_len]; omega) (fun x hx => by
    obtain ⟨i, _, rfl⟩ := List.mem_map.1 hx
    have : Q.count ((i : Int) - 1) ≤ Q.length := List.count_le_length
    omega)

set_option maxRecDepth 100000 in
set_option maxHeartbeats 6000000 in
theorem rLeft_any (L N : Int) (aP : Option Addr) (cP : Nat) (P : List F3) (F : Int) (l n : Int) (w : World) (hP : Pz w aP P) : Calls Try.prog 38 #[.agg #[.int .i64 L, .int .i64 N, .slice aP P.length cP, .int .i64 F], .int .i64 l, .int .i64 n] w fun e w' => e = .returned (.tuple #[.int .i64 (lfR L N P F l n : Nat), .int .i64 (lfE L N P F l n)]) ∧ Below w.heap.size w w' := by
  obtain ⟨W, hW, hb, _, x0⟩ := boxes1 w #[.int .i64 L, .int .i64 N, .slice aP P.length cP, .int .i64 F] 24
  replace hP := hP.below hb (Nat.le_refl _)
  have hpr := fun v => IsButton_any L N aP cP P F l n v
  have hak := fun o v (hv : Pz v aP P) => rtruths_any L N aP cP P F o v hv
  have hok := fun h => rl_ok (L := L) (N := N) (F := F) (P := P) (l := l) (n := n) h
  have hno := fun h => lf_no (L := L) (N := N) (F := F) (P := P) (l := l) (n := n) h
  have hty := fun (X : List (List F3)) K (o : RlOk L N P F l n X K) a c v (hv : Rat v a X) => by
    have := tally_any L N aP cP P F a c X l n v hv o.L5 o.N5 o.hl o.hn o.st o.ln
    rw [← o.kk] at this
    exact this
  unfold TyP at hty
  have hmo := fun a c xs v h => most_any a c xs v h
  have hmx := fun h => (hok h).mx
  have hsh := fun h => (hok h).sh
  generalize lfR L N P F l n = rL at *
  generalize shR L N P F l n = rS at *
  generalize xpR L N P F.toNat = X at *
  generalize (L * N).toNat = K at *
  obtain ⟨q, hq⟩ : ∃ q, q = prB L N l n := ⟨_, rfl⟩
  rw [← hq] at hpr
  have hak1 := hak q
  unfold RkP at hak1
  have hE : Hid (lfE L N P F l n = akE L N P F q) := hid (by rw [hq]; rfl)
  have HT := hid (show lfE L N P F l n = 0 → rkT L N P F q = X from fun h => by rw [hq]; exact (hok h).eq)
  clear hq hak
  have HOK := hid hok
  have HNO := hid hno
  have HMX0 := hid hmx
  have HSH0 := hid hsh
  have HTY := hid hty
  clear hok hno hty hmx hsh
  obtain ⟨E, hEE⟩ : ∃ E, E = lfE L N P F l n := ⟨_, rfl⟩
  rw [← hEE] at HT hE HOK HNO HMX0 HSH0 ⊢
  rw [← hE.out] at hak1
  generalize rkT L N P F q = T at *
  obtain ⟨tn, htn⟩ : ∃ tn, tn = T.length := ⟨_, rfl⟩
  rw [← htn] at hak1
  have HTN := hid htn
  clear htn hE hEE
  go_enter Try.func38, Try.ntmps38
  go_upto_region 1 with fail
  clear hW
  have hbd := (Below.refl W.heap.size W).drew
  have S0 := (And.intro (x0.below hbd) (hP.below hbd (Nat.le_refl _)))
  replace hb := hb.trans (hbd.mono hb.size)
  clear hbd x0 hP
  refine wp_region_head 10 (fun w' => (Bx w' w.heap.size #[.int .i64 L, .int .i64 N, .slice aP P.length cP, .int .i64 F] 24) ∧ (Pz w' aP P)) (by kernel_rfl) rfl ?_
  generalize W.drew = Y0 at *
  refine HeadAt.take (i := 0) (.agg #[.int .i64 L, .int .i64 N, .slice aP P.length cP, .int .i64 F]) rfl (by kernel_rfl) (.inl ⟨rfl, fun w' z => ?_⟩) S0 ?_
  · (have z0 := z.1.cell 0 rfl; have z1 := z.1.cell 1 rfl; have z2 := z.1.cell 2 rfl; have z3 := z.1.cell 3 rfl; simp [go_sem, z0, z1, z2, z3])
  (try simp only [Act.put, List.getElem_toArray, List.getElem_cons_succ, List.getElem_cons_zero, List.setIfInBounds_toArray, List.set_cons_succ, List.set_cons_zero])
  refine HeadAt.take (i := 1) (.agg #[.int .i64 L, .int .i64 N, .slice aP P.length cP, .int .i64 F]) rfl (by kernel_rfl) (.inl ⟨rfl, fun w' z => ?_⟩) S0 ?_
  · (have z0 := z.1.cell 0 rfl; have z1 := z.1.cell 1 rfl; have z2 := z.1.cell 2 rfl; have z3 := z.1.cell 3 rfl; simp [go_sem, z0, z1, z2, z3])
  (try simp only [Act.put, List.getElem_toArray, List.getElem_cons_succ, List.getElem_cons_zero, List.setIfInBounds_toArray, List.set_cons_succ, List.set_cons_zero])
  refine HeadAt.take (i := 2) (.int .i64 l) rfl (by kernel_rfl) (.inl ⟨rfl, fun _ _ => by simp [go_sem]⟩) S0 ?_
  (try simp only [Act.put, List.getElem_toArray, List.getElem_cons_succ, List.getElem_cons_zero, List.setIfInBounds_toArray, List.set_cons_succ, List.set_cons_zero])
  refine HeadAt.take (i := 3) (.int .i64 n) rfl (by kernel_rfl) (.inl ⟨rfl, fun _ _ => by simp [go_sem]⟩) S0 ?_
  (try simp only [Act.put, List.getElem_toArray, List.getElem_cons_succ, List.getElem_cons_zero, List.setIfInBounds_toArray, List.set_cons_succ, List.set_cons_zero])
  refine HeadAt.one (i := 4) rfl (by kernel_rfl) ?_
  generalize hK : Upto _ _ = K0
  (try simp only [Act.put, List.getElem_toArray, List.getElem_cons_succ, List.getElem_cons_zero, List.setIfInBounds_toArray, List.set_cons_succ, List.set_cons_zero])
  go_wp2_with fail
  refine (hpr _).mono ?_
  rintro e V1 ⟨rfl, hb1⟩
  go_wp2_with fail
  replace S0 := (And.intro (S0.1.below hb1) (S0.2.below hb1 (Nat.le_refl _)))
  replace hb := hb.trans (hb1.mono hb.size)
  clear hb1
  subst hK
  refine ⟨S0, ?_⟩
  (try simp only [Act.put, List.getElem_toArray, List.getElem_cons_succ, List.getElem_cons_zero, List.setIfInBounds_toArray, List.set_cons_succ, List.set_cons_zero])
  refine HeadAt.one (i := 5) rfl (by kernel_rfl) ?_
  generalize hK : Upto _ _ = K0
  (try simp only [Act.put, List.getElem_toArray, List.getElem_cons_succ, List.getElem_cons_zero, List.setIfInBounds_toArray, List.set_cons_succ, List.set_cons_zero])
  go_wp2_with fail
  refine (hak1 _ S0.2).mono ?_
  rintro e V2 ⟨hb1, aT, cT, rfl, hrat⟩
  go_wp2_with fail
  replace S0 := (And.intro (S0.1.below hb1) (S0.2.below hb1 (Nat.le_refl _)))
  replace hb := hb.trans (hb1.mono hb.size)
  clear hb1
  subst hK
  refine ⟨S0, ?_⟩
  (try simp only [Act.put, List.getElem_toArray, List.getElem_cons_succ, List.getElem_cons_zero, List.setIfInBounds_toArray, List.set_cons_succ, List.set_cons_zero])
  refine HeadAt.take (i := 6) (.tuple #[.slice aT tn cT, .int .i64 E]) rfl (by kernel_rfl) (.inl ⟨rfl, fun _ _ => by simp [go_sem]⟩) S0 ?_
  (try simp only [Act.put, List.getElem_toArray, List.getElem_cons_succ, List.getElem_cons_zero, List.setIfInBounds_toArray, List.set_cons_succ, List.set_cons_zero])
  refine HeadAt.take (i := 7) (.slice aT tn cT) rfl (by kernel_rfl) (.inl ⟨rfl, fun _ _ => by simp [go_sem]⟩) S0 ?_
  (try simp only [Act.put, List.getElem_toArray, List.getElem_cons_succ, List.getElem_cons_zero, List.setIfInBounds_toArray, List.set_cons_succ, List.set_cons_zero])
  refine HeadAt.take (i := 8) (.int .i64 E) rfl (by kernel_rfl) (.inl ⟨rfl, fun _ _ => by simp [go_sem]⟩) S0 ?_
  (try simp only [Act.put, List.getElem_toArray, List.getElem_cons_succ, List.getElem_cons_zero, List.setIfInBounds_toArray, List.set_cons_succ, List.set_cons_zero])
  refine HeadAt.take (i := 9) (.slice aT tn cT) rfl (by kernel_rfl) (.inl ⟨rfl, fun _ _ => by simp [go_sem]⟩) S0 ?_
  (try simp only [Act.put, List.getElem_toArray, List.getElem_cons_succ, List.getElem_cons_zero, List.setIfInBounds_toArray, List.set_cons_succ, List.set_cons_zero])
  refine HeadAt.done (by kernel_rfl) ?_
  (try simp only [Act.put, List.drop_succ_cons, List.drop_zero, List.getElem_toArray, List.getElem_cons_succ, List.getElem_cons_zero])
  go_wp2_with fail
  refine NoPanic.normal ?_
  obtain ⟨x0, hP⟩ := S0
  clear hpr hak1 hP
  by_cases hE : E = 0
  · have ok := HOK.out hE
    have hTX := HT.out hE
    subst hTX
    have hty := HTY.out T K ok aT cT V2 hrat
    rw [← HTN.out] at hty
    have hln := ok.ln
    have hk25 := ok.k25
    have hQl : (plL N T l n).length ≤ 900000 := by rw [plL, List.length_map]; exact hln
    have HMX := hid (HMX0.out hE)
    generalize plL N T l n = Q at *
    have hti := fun w' g (h : Bx w' g (vrow (tlV K Q)) 3) => tl_ints h hk25 hQl
    obtain ⟨m, hm⟩ : ∃ m, m = (tlV K Q).length := ⟨_, rfl⟩
    replace hmo := fun a c v h => hmo a c (tlV K Q) v h
    rw [← hm] at hty hmo
    generalize tlV K Q = TL at *
    generalize mxI TL = mm at *
    clear HMX0 HSH0 ok hln hk25 hQl hm HOK HNO HTY HT hrat HTN
    subst hE
    have c0 := x0.cell 0 rfl; have c1 := x0.cell 1 rfl; have c2 := x0.cell 2 rfl; have c3 := x0.cell 3 rfl
    go_wp2_with fail
    refine hty.mono ?_
    rintro e V8 ⟨hb1, gT, rfl, hy⟩
    have hin := hti _ _ hy
    replace hb := hb.trans (hb1.mono hb.size)
    clear hb1 c0 c1 c2 c3 x0 hty hy hti
    go_wp2_with fail
    refine (hmo _ _ _ hin).mono ?_
    rintro e V9 ⟨rfl, hb1⟩
    replace hb := hb.trans (hb1.mono hb.size)
    clear hb1 hmo hin
    go_wp2
    go_ret2
    exact ⟨by rw [HMX.out]; rfl, hb⟩
  · have hB : (E != 0) = true := by simpa using hE
    obtain ⟨r1, r2⟩ := HNO.out hE
    subst r1
    clear r2
    clear HMX0 HSH0 HOK HNO HTY HT hrat HTN x0 hmo
    go_wp2
    go_ret2
    exact ⟨rfl, hb⟩

set_option maxRecDepth 100000 in
set_option maxHeartbeats 6000000 in
theorem rShows_any (L N : Int) (aP : Option Addr) (cP : Nat) (P : List F3) (F : Int) (l n : Int) (w : World) (hP : Pz w aP P) : Calls Try.prog 36 #[.agg #[.int .i64 L, .int .i64 N, .slice aP P.length cP, .int .i64 F], .int .i64 l, .int .i64 n] w fun e w' => Below w.heap.size w w' ∧ ∃ (a : Option Addr) (c : Nat), e = .returned (.tuple #[.slice a (shR L N P F l n).length c, .int .i64 (lfE L N P F l n)]) ∧ Ints w' a (shR L N P F l n) := by
  obtain ⟨W, hW, hb, _, x0⟩ := boxes1 w #[.int .i64 L, .int .i64 N, .slice aP P.length cP, .int .i64 F] 24
  replace hP := hP.below hb (Nat.le_refl _)
  have hpr := fun v => IsButton_any L N aP cP P F l n v
  have hak := fun o v (hv : Pz v aP P) => rtruths_any L N aP cP P F o v hv
  have hok := fun h => rl_ok (L := L) (N := N) (F := F) (P := P) (l := l) (n := n) h
  have hno := fun h => lf_no (L := L) (N := N) (F := F) (P := P) (l := l) (n := n) h
  have hty := fun (X : List (List F3)) K (o : RlOk L N P F l n X K) a c v (hv : Rat v a X) => by
    have := tally_any L N aP cP P F a c X l n v hv o.L5 o.N5 o.hl o.hn o.st o.ln
    rw [← o.kk] at this
    exact this
  unfold TyP at hty
  have hmo := fun a c xs v h => most_any a c xs v h
  have hmx := fun h => (hok h).mx
  have hsh := fun h => (hok h).sh
  generalize lfR L N P F l n = rL at *
  generalize shR L N P F l n = rS at *
  generalize xpR L N P F.toNat = X at *
  generalize (L * N).toNat = K at *
  obtain ⟨q, hq⟩ : ∃ q, q = prB L N l n := ⟨_, rfl⟩
  rw [← hq] at hpr
  have hak1 := hak q
  unfold RkP at hak1
  have hE : Hid (lfE L N P F l n = akE L N P F q) := hid (by rw [hq]; rfl)
  have HT := hid (show lfE L N P F l n = 0 → rkT L N P F q = X from fun h => by rw [hq]; exact (hok h).eq)
  clear hq hak
  have HOK := hid hok
  have HNO := hid hno
  have HMX0 := hid hmx
  have HSH0 := hid hsh
  have HTY := hid hty
  clear hok hno hty hmx hsh
  obtain ⟨E, hEE⟩ : ∃ E, E = lfE L N P F l n := ⟨_, rfl⟩
  rw [← hEE] at HT hE HOK HNO HMX0 HSH0 ⊢
  rw [← hE.out] at hak1
  generalize rkT L N P F q = T at *
  obtain ⟨tn, htn⟩ : ∃ tn, tn = T.length := ⟨_, rfl⟩
  rw [← htn] at hak1
  have HTN := hid htn
  clear htn hE hEE
  go_enter Try.func36, Try.ntmps36
  go_upto_region 1 with fail
  clear hW
  have hbd := (Below.refl W.heap.size W).drew
  have S0 := (And.intro (x0.below hbd) (hP.below hbd (Nat.le_refl _)))
  replace hb := hb.trans (hbd.mono hb.size)
  clear hbd x0 hP
  refine wp_region_head 10 (fun w' => (Bx w' w.heap.size #[.int .i64 L, .int .i64 N, .slice aP P.length cP, .int .i64 F] 24) ∧ (Pz w' aP P)) (by kernel_rfl) rfl ?_
  generalize W.drew = Y0 at *
  refine HeadAt.take (i := 0) (.agg #[.int .i64 L, .int .i64 N, .slice aP P.length cP, .int .i64 F]) rfl (by kernel_rfl) (.inl ⟨rfl, fun w' z => ?_⟩) S0 ?_
  · (have z0 := z.1.cell 0 rfl; have z1 := z.1.cell 1 rfl; have z2 := z.1.cell 2 rfl; have z3 := z.1.cell 3 rfl; simp [go_sem, z0, z1, z2, z3])
  (try simp only [Act.put, List.getElem_toArray, List.getElem_cons_succ, List.getElem_cons_zero, List.setIfInBounds_toArray, List.set_cons_succ, List.set_cons_zero])
  refine HeadAt.take (i := 1) (.agg #[.int .i64 L, .int .i64 N, .slice aP P.length cP, .int .i64 F]) rfl (by kernel_rfl) (.inl ⟨rfl, fun w' z => ?_⟩) S0 ?_
  · (have z0 := z.1.cell 0 rfl; have z1 := z.1.cell 1 rfl; have z2 := z.1.cell 2 rfl; have z3 := z.1.cell 3 rfl; simp [go_sem, z0, z1, z2, z3])
  (try simp only [Act.put, List.getElem_toArray, List.getElem_cons_succ, List.getElem_cons_zero, List.setIfInBounds_toArray, List.set_cons_succ, List.set_cons_zero])
  refine HeadAt.take (i := 2) (.int .i64 l) rfl (by kernel_rfl) (.inl ⟨rfl, fun _ _ => by simp [go_sem]⟩) S0 ?_
  (try simp only [Act.put, List.getElem_toArray, List.getElem_cons_succ, List.getElem_cons_zero, List.setIfInBounds_toArray, List.set_cons_succ, List.set_cons_zero])
  refine HeadAt.take (i := 3) (.int .i64 n) rfl (by kernel_rfl) (.inl ⟨rfl, fun _ _ => by simp [go_sem]⟩) S0 ?_
  (try simp only [Act.put, List.getElem_toArray, List.getElem_cons_succ, List.getElem_cons_zero, List.setIfInBounds_toArray, List.set_cons_succ, List.set_cons_zero])
  refine HeadAt.one (i := 4) rfl (by kernel_rfl) ?_
  generalize hK : Upto _ _ = K0
  (try simp only [Act.put, List.getElem_toArray, List.getElem_cons_succ, List.getElem_cons_zero, List.setIfInBounds_toArray, List.set_cons_succ, List.set_cons_zero])
  go_wp2_with fail
  refine (hpr _).mono ?_
  rintro e V1 ⟨rfl, hb1⟩
  go_wp2_with fail
  replace S0 := (And.intro (S0.1.below hb1) (S0.2.below hb1 (Nat.le_refl _)))
  replace hb := hb.trans (hb1.mono hb.size)
  clear hb1
  subst hK
  refine ⟨S0, ?_⟩
  (try simp only [Act.put, List.getElem_toArray, List.getElem_cons_succ, List.getElem_cons_zero, List.setIfInBounds_toArray, List.set_cons_succ, List.set_cons_zero])
  refine HeadAt.one (i := 5) rfl (by kernel_rfl) ?_
  generalize hK : Upto _ _ = K0
  (try simp only [Act.put, List.getElem_toArray, List.getElem_cons_succ, List.getElem_cons_zero, List.setIfInBounds_toArray, List.set_cons_succ, List.set_cons_zero])
  go_wp2_with fail
  refine (hak1 _ S0.2).mono ?_
  rintro e V2 ⟨hb1, aT, cT, rfl, hrat⟩
  go_wp2_with fail
  replace S0 := (And.intro (S0.1.below hb1) (S0.2.below hb1 (Nat.le_refl _)))
  replace hb := hb.trans (hb1.mono hb.size)
  clear hb1
  subst hK
  refine ⟨S0, ?_⟩
  (try simp only [Act.put, List.getElem_toArray, List.getElem_cons_succ, List.getElem_cons_zero, List.setIfInBounds_toArray, List.set_cons_succ, List.set_cons_zero])
  refine HeadAt.take (i := 6) (.tuple #[.slice aT tn cT, .int .i64 E]) rfl (by kernel_rfl) (.inl ⟨rfl, fun _ _ => by simp [go_sem]⟩) S0 ?_
  (try simp only [Act.put, List.getElem_toArray, List.getElem_cons_succ, List.getElem_cons_zero, List.setIfInBounds_toArray, List.set_cons_succ, List.set_cons_zero])
  refine HeadAt.take (i := 7) (.slice aT tn cT) rfl (by kernel_rfl) (.inl ⟨rfl, fun _ _ => by simp [go_sem]⟩) S0 ?_
  (try simp only [Act.put, List.getElem_toArray, List.getElem_cons_succ, List.getElem_cons_zero, List.setIfInBounds_toArray, List.set_cons_succ, List.set_cons_zero])
  refine HeadAt.take (i := 8) (.int .i64 E) rfl (by kernel_rfl) (.inl ⟨rfl, fun _ _ => by simp [go_sem]⟩) S0 ?_
  (try simp only [Act.put, List.getElem_toArray, List.getElem_cons_succ, List.getElem_cons_zero, List.setIfInBounds_toArray, List.set_cons_succ, List.set_cons_zero])
  refine HeadAt.take (i := 9) (.slice aT tn cT) rfl (by kernel_rfl) (.inl ⟨rfl, fun _ _ => by simp [go_sem]⟩) S0 ?_
  (try simp only [Act.put, List.getElem_toArray, List.getElem_cons_succ, List.getElem_cons_zero, List.setIfInBounds_toArray, List.set_cons_succ, List.set_cons_zero])
  refine HeadAt.done (by kernel_rfl) ?_
  (try simp only [Act.put, List.drop_succ_cons, List.drop_zero, List.getElem_toArray, List.getElem_cons_succ, List.getElem_cons_zero])
  go_wp2_with fail
  refine NoPanic.normal ?_
  obtain ⟨x0, hP⟩ := S0
  clear hpr hak1 hP
  by_cases hE : E = 0
  · obtain ⟨i0, hi0, iz0, iz1, iz2⟩ := info_parts info3i
    have ok := HOK.out hE
    have hTX := HT.out hE
    subst hTX
    have hty := HTY.out T K ok aT cT V2 hrat
    rw [← HTN.out] at hty
    have hln := ok.ln
    have hk25 := ok.k25
    have hQl : (plL N T l n).length ≤ 900000 := by rw [plL, List.length_map]; exact hln
    have HSH := hid (HSH0.out hE)
    generalize plL N T l n = Q at *
    obtain ⟨m, hm⟩ : ∃ m, m = K + 1 := ⟨_, rfl⟩
    have hgt := fun i (h : i < m) => tlV_get (K := K) (Q := Q) (i := i) (by omega)
    rw [tlV_len, ← hm] at hty
    have hm26 : m ≤ 26 := by omega
    have hshl : ∀ i, i ≤ m → (shT K i Q).length ≤ i := fun i _ => by
      unfold shT
      rw [List.length_map]
      have := List.length_filter_le (fun (i : Nat) => decide (0 < Q.count ((i : Int) - 1))) (List.range i)
      rwa [List.length_range] at this
    have hcl : ∀ x, Q.count x ≤ 900000 := fun x => Nat.le_trans List.count_le_length hQl
    have hss := fun j => shT_succ K j Q
    have hsr : ∀ i, ∀ x ∈ shT K i Q, i ≤ m → -9223372036854775808 ≤ x ∧ x ≤ 9223372036854775807 := fun i x hx hi => by
      obtain ⟨j, hj, rfl⟩ := List.mem_map.1 hx
      have := List.mem_range.1 (List.mem_filter.1 hj).1
      omega
    rw [← hm] at HSH
    have HGT := hid hgt
    have HSL := hid hshl
    have HSS := hid hss
    have HSR := hid hsr
    have HCL := hid hcl
    generalize tlV K Q = TL at *
    obtain ⟨R, hR⟩ : ∃ R, R = rS := ⟨_, rfl⟩
    subst hR
    clear HMX0 HSH0 ok hln hk25 hQl hm HOK HNO HTY HT hrat HTN hgt hshl hss hsr hcl hmo
    subst hE
    have c0 := x0.cell 0 rfl; have c1 := x0.cell 1 rfl; have c2 := x0.cell 2 rfl; have c3 := x0.cell 3 rfl
    go_wp2_with fail
    refine hty.mono ?_
    rintro e V8 ⟨hb1, gT, rfl, hy⟩
    replace hb := hb.trans (hb1.mono hb.size)
    have hyl := hy.lt
    clear hb1 c0 c1 c2 c3 x0 hty
    go_wp2
    go_loopw [10, 12] (fun v10 v12 wr => ∃ (i q : Nat) (a : Option Addr) (c : Nat), i ≤ m ∧ Hid (q = (shT K i Q).length) ∧ v12 = .int .i64 (i : Int) ∧ v10 = .slice a q c ∧ wr.ownsRow V8.heap.size 3 1 (.slice a q c) q ((shT K i Q).map (Value.int .i64)) ∧ Below V8.heap.size V8 wr) (fun _ v12 _ => m - (intOf v12).toNat)
    case atStart => exact ⟨0, 0, none, 0, Nat.zero_le _, hid rfl, rfl, rfl, World.ownsRow_nil _ _ _ _, Below.refl _ _⟩
    case round =>
      obtain ⟨i, q, a, c, hi, HQ, rfl, rfl, hown, hbr⟩ := hrel
      by_cases hlt : i < m
      · have hiI : (i : Int) < (m : Int) := by omega
        have hi0' : (0 : Int) ≤ (i : Int) := by omega
        have hcl := HCL.out ((i : Int) - 1)
        have hg := HGT.out i hlt
        have hss := HSS.out i
        have hql := HSL.out i hi
        rw [← HQ.out] at hql
        have yr := hy.below hbr
        have cy := yr.cell i (vrow_at hg)
        have hw1 : IntKind.i64.wrap ((i : Int) - 1) = (i : Int) - 1 := IntWalk.i64_in _ (by omega)
        generalize Q.count ((i : Int) - 1) = k at *
        by_cases hk : 0 < k
        · rw [if_pos hk] at hss
          have hkI : (0 : Int) < (k : Int) := by omega
          have HN := hid hss
          have hba := below_one (w := wr) (.cells #[.int .i64 ((i : Int) - 1)] 3)
          have hcls := Cls.of_bx (Bx.new wr #[.int .i64 ((i : Int) - 1)] 3)
          have hown1 := own_below2 hown hba
          have hge := own_ge2 hown
          have hsz := hbr.size
          clear hss hg yr hk
          go_wp2_with (at_builtin; refine wpList_appAt rfl (.tmp 41) (.tmp 44) 43 rfl V8.heap.size 3 i0 (.int .i64 0) 1 8 under43 hi0 iz0 iz1 iz2 rfl (by decide) (.slice a q c) q _ rfl hown1 (some ⟨wr.heap.size, 0, none⟩) 1 1 [.int .i64 ((i : Int) - 1)] rfl rfl hcls (ints_one [((i : Int) - 1)]) (by unfold maxLen; omega) (by omega) (by simp; omega) ?_; intro v3 W3 hown3 hg3 hat)
          obtain ⟨a3, c3, rfl⟩ := own_slice2 hown3
          have hb3 : Below V8.heap.size V8 W3 := (hbr.trans (hba.mono hsz)).grown hg3 (by simp; omega) hge
          have hown4 : W3.ownsRow V8.heap.size 3 1 (.slice a3 (q + 1) c3) (q + 1) ((shT K (i + 1) Q).map (Value.int .i64)) := by
            rw [HN.out, List.map_append]; exact hown3
          have HQ2 := hid (show q + 1 = (shT K (i + 1) Q).length by rw [HN.out, List.length_append, ← HQ.out]; rfl)
          have HX := hid (And.intro hown4 hb3)
          clear hown3 hown4 hb3 hown hown1 hge hcls hba hg3 hat hbr cy
          go_wp2
          go_roundw
          case rel => exact ⟨i + 1, q + 1, a3, c3, by omega, HQ2, by go_num, rfl, HX.out.1, HX.out.2⟩
          case measure => simp [intOf]; omega
        · rw [if_neg hk, List.append_nil] at hss
          have hkI : ¬ (0 : Int) < (k : Int) := by omega
          have HN := hid hss
          have HX := hid (And.intro hown hbr)
          clear hss hg yr hk hown hbr
          go_wp2
          go_roundw
          case rel => exact ⟨i + 1, q, a, c, by omega, hid (by rw [HN.out]; exact HQ.out), by go_num, rfl, by rw [HN.out]; exact HX.out.1, HX.out.2⟩
          case measure => simp [intOf]; omega
      · obtain rfl : i = m := by omega
        have hiI : ¬ (i : Int) < (i : Int) := by omega
        have hq := HQ.out
        rw [HSH.out] at hq hown
        have hrg := HSR.out i
        rw [HSH.out] at hrg
        have hql := HSL.out i hi
        rw [HSH.out] at hql
        subst hq
        obtain ⟨a2, c2, e2, hin⟩ := Ints.of_own hown (by omega) (fun x hx => hrg x hx hi)
        simp only [Value.slice.injEq, true_and] at e2
        obtain ⟨rfl, rfl⟩ := e2
        have HI := hid hin
        replace hb := hb.trans (hbr.mono hb.size)
        clear hin hown hrg hql
        go_wp2
        go_ret2
        exact ⟨hb, a, ⟨c, rfl⟩, HI.out⟩
  · have hB : (E != 0) = true := by simpa using hE
    obtain ⟨r1, r2⟩ := HNO.out hE
    subst r2
    clear r1
    clear HMX0 HSH0 HOK HNO HTY HT hrat HTN x0 hmo
    go_wp2
    go_ret2
    exact ⟨hb, none, 0, rfl, by simp, by simp, fun i hi => by simp at hi⟩
end Go.Proofs.Ytmpihcencnkpbaa
