import Derived.Test.YtakodllejndfeaaT18
import Derived.Test.YtakodllejndfeaaT13
/-! The reference's gcd and Exact. -/
namespace Go.Proofs.Ytakodllejndfeaa
set_option linter.unusedSimpArgs false
set_option linter.unusedVariables false
open Go Go.RowKit

theorem gcd_step {a b : Nat} (h : a ≠ 0) : Nat.gcd (b % a) a = Nat.gcd a b := (Nat.gcd_rec a b).symm
set_option maxRecDepth 100000 in
set_option maxHeartbeats 1000000 in
theorem gcd_any (a : Nat) : ∀ (b : Nat) (w : World), a ≤ 1000000000000 → b ≤ 1000000000000 → Calls Try.prog 61 #[.int .i64 (a : Int), .int .i64 (b : Int)] w fun e w' => e = .returned (.int .i64 ((Nat.gcd a b : Nat) : Int)) ∧ w = w' := by
  induction a using Nat.strongRecOn with
  | ind a ih =>
    intro b w ha hb
    by_cases h0 : a = 0
    · subst h0
      rw [Nat.gcd_zero_left]
      clear ih
      go_enter Try.func61, Try.ntmps61
      go_wp2
      go_ret
      exact ⟨rfl, rfl⟩
    · have hlt : b % a < a := Nat.mod_lt _ (by omega)
      have ih1 := fun V => ih (b % a) hlt a V (by omega) ha
      rw [gcd_step h0] at ih1
      have hmod : ((b : Int)).tmod (a : Int) = ((b % a : Nat) : Int) := by rw [Int.tmod_eq_emod_of_nonneg (by omega)]; rfl
      have hmod' : (b : Int) % (a : Int) = ((b % a : Nat) : Int) := rfl
      have hane : ¬ (a : Int) = 0 := by omega
      have hB : ((a : Int) == 0) = false := by simp [h0]
      clear ih
      generalize b % a = x at *
      generalize Nat.gcd a b = G at *
      have ew1 : IntKind.i64.wrap (x : Int) = (x : Int) := IntWalk.i64_in _ (by omega)
      go_enter Try.func61, Try.ntmps61
      go_wp2_with fail
      refine (ih1 _).mono ?_
      rintro e V1 ⟨rfl, rfl⟩
      go_wp2
      go_ret
      exact ⟨rfl, rfl⟩

set_option maxRecDepth 100000 in
set_option maxHeartbeats 4000000 in
theorem refExact_any (p : Int) (aS aO : Option Addr) (cS cO : Nat) (S : List Sd) (O : List Int) (who : Int) (w : World) (hX : Ry w aS aO p S O) : Calls Try.prog 36 #[.agg #[.int .i64 p, .slice aS S.length cS, .slice aO O.length cO], .int .i64 who] w fun e w' => e = .returned (.tuple #[.int .i64 (exU p S O who), .int .i64 (exL p S O who), .int .i64 (askE p S O (hasB O who))]) ∧ Below w.heap.size w w' := by
  have hol := hX.ol
  have hsl := hX.sd.len
  have hwr := fun V => IsWriter_any p aS aO cS cO S O who V (by omega)
  have hkn := fun V h => known_any p aS aO cS cO S O (hasB O who) V h
  have hok := fun h => askE_0 (p := p) (S := S) (O := O) (o := hasB O who) h
  have hpt := fun V h hV => Part_any p aS aO cS cO S O who V h hV
  obtain ⟨U, hU⟩ : ∃ U, U = exU p S O who := ⟨_, rfl⟩
  obtain ⟨L, hL⟩ : ∃ L, L = exL p S O who := ⟨_, rfl⟩
  rw [← hU, ← hL]
  unfold exU at hU
  unfold exL at hL
  have HU := hid (And.intro hU hL)
  clear hU hL
  generalize hasB O who = R at *
  generalize askE p S O R = E at *
  obtain ⟨W, hW, hb, _, x0⟩ := boxes1 w #[.int .i64 p, .slice aS S.length cS, .slice aO O.length cO] 25
  have hR := hX.below hb (Nat.le_refl _)
  go_enter Try.func36, Try.ntmps36
  go_upto_region 1 with fail
  clear hW hX
  have hbd := (Below.refl W.heap.size W).drew
  have hbr := hb.trans (hbd.mono hb.size)
  have S0 := And.intro (x0.below hbd) (hR.below hbd (Nat.le_refl _))
  clear hbd hb x0 hR
  refine wp_region_head 5 (fun w' => Bx w' w.heap.size #[.int .i64 p, .slice aS S.length cS, .slice aO O.length cO] 25 ∧ Ry w' aS aO p S O) (by kernel_rfl) rfl ?_
  generalize W.drew = Y0 at *
  refine HeadAt.take (i := 0) (.agg #[.int .i64 p, .slice aS S.length cS, .slice aO O.length cO]) rfl (by kernel_rfl) (.inl ⟨rfl, fun w' z => ?_⟩) S0 ?_
  · (have z0 := z.1.cell 0 rfl; have z1 := z.1.cell 1 rfl; have z2 := z.1.cell 2 rfl; simp [go_sem, z0, z1, z2])
  (try simp only [Act.put, List.getElem_toArray, List.getElem_cons_succ, List.getElem_cons_zero, List.setIfInBounds_toArray, List.set_cons_succ, List.set_cons_zero])
  refine HeadAt.take (i := 1) (.agg #[.int .i64 p, .slice aS S.length cS, .slice aO O.length cO]) rfl (by kernel_rfl) (.inl ⟨rfl, fun w' z => ?_⟩) S0 ?_
  · (have z0 := z.1.cell 0 rfl; have z1 := z.1.cell 1 rfl; have z2 := z.1.cell 2 rfl; simp [go_sem, z0, z1, z2])
  (try simp only [Act.put, List.getElem_toArray, List.getElem_cons_succ, List.getElem_cons_zero, List.setIfInBounds_toArray, List.set_cons_succ, List.set_cons_zero])
  refine HeadAt.take (i := 2) (.int .i64 who) rfl (by kernel_rfl) (.inl ⟨rfl, fun _ _ => by simp [go_sem]⟩) S0 ?_
  (try simp only [Act.put, List.getElem_toArray, List.getElem_cons_succ, List.getElem_cons_zero, List.setIfInBounds_toArray, List.set_cons_succ, List.set_cons_zero])
  refine HeadAt.one (i := 3) rfl (by kernel_rfl) ?_
  generalize hK : Upto _ _ = K0
  (try simp only [Act.put, List.getElem_toArray, List.getElem_cons_succ, List.getElem_cons_zero, List.setIfInBounds_toArray, List.set_cons_succ, List.set_cons_zero])
  go_wp2_with fail
  refine (hwr _).mono ?_
  rintro e V1 ⟨rfl, hb3⟩
  go_wp2_with fail
  replace S0 := And.intro (S0.1.below hb3) (S0.2.below hb3 (Nat.le_refl _))
  replace hbr := hbr.trans (hb3.mono hbr.size)
  clear hb3 hwr
  subst hK
  refine ⟨S0, ?_⟩
  (try simp only [Act.put, List.getElem_toArray, List.getElem_cons_succ, List.getElem_cons_zero, List.setIfInBounds_toArray, List.set_cons_succ, List.set_cons_zero])
  refine HeadAt.one (i := 4) rfl (by kernel_rfl) ?_
  generalize hK : Upto _ _ = K0
  (try simp only [Act.put, List.getElem_toArray, List.getElem_cons_succ, List.getElem_cons_zero, List.setIfInBounds_toArray, List.set_cons_succ, List.set_cons_zero])
  go_wp2_with fail
  refine (hkn _ S0.2).mono ?_
  rintro e V2 ⟨rfl, hb3⟩
  go_wp2_with fail
  replace S0 := And.intro (S0.1.below hb3) (S0.2.below hb3 (Nat.le_refl _))
  replace hbr := hbr.trans (hb3.mono hbr.size)
  clear hb3 hkn
  subst hK
  refine ⟨S0, ?_⟩
  (try simp only [Act.put, List.getElem_toArray, List.getElem_cons_succ, List.getElem_cons_zero, List.setIfInBounds_toArray, List.set_cons_succ, List.set_cons_zero])
  refine HeadAt.done (by kernel_rfl) ?_
  (try simp only [Act.put, List.drop_succ_cons, List.drop_zero, List.getElem_toArray, List.getElem_cons_succ, List.getElem_cons_zero])
  go_wp2_with fail
  refine NoPanic.normal ?_
  obtain ⟨x0, hR⟩ := S0
  by_cases h0 : E = 0
  · obtain ⟨hv, hr1, hal⟩ := hok h0
    have hV := vB_ok hv
    have hpa := fun V h => hpt V h hV
    have hu := HU.out
    rw [if_pos h0, if_pos h0] at hu
    have hr := part_rng hV who S.length
    rw [List.take_length] at hr
    have hal2 := VOk.al hV
    have hN : (exN p S who : Int) = p * clS S who := by unfold exN; omega
    have hD : (exD S : Int) = 100 * alS S := by unfold exD; omega
    rw [← hN, ← hD] at hpa
    subst h0
    clear hok hpt HU hv hr1 hV
    generalize exN p S who = N at *
    generalize exD S = D at *
    have hD0 : 0 < D := by omega
    have hN9 : N ≤ 59994000000 := by omega
    have hD9 : D ≤ 5999400 := by omega
    have hg := fun V => gcd_any N D V (by omega) (by omega)
    have hG0 := Nat.gcd_pos_of_pos_right N hD0
    have hG1 := Nat.le_of_dvd hD0 (Nat.gcd_dvd_right N D)
    clear hr hal hal2 hN hD
    generalize Nat.gcd N D = G at *
    have hdv1 : ((N : Int)).tdiv (G : Int) = U := by rw [Int.tdiv_eq_ediv_of_nonneg (by omega), hu.1]; rfl
    have hdv2 : ((D : Int)).tdiv (G : Int) = L := by rw [Int.tdiv_eq_ediv_of_nonneg (by omega), hu.2]; rfl
    have hdv1' : (N : Int) / (G : Int) = U := by rw [hu.1]; rfl
    have hdv2' : (D : Int) / (G : Int) = L := by rw [hu.2]; rfl
    have hu0 : 0 ≤ U := by rw [hu.1]; exact Int.natCast_nonneg _
    have hl0 : 0 ≤ L := by rw [hu.2]; exact Int.natCast_nonneg _
    have hl1 := Nat.div_le_self N G
    have hl2 := Nat.div_le_self D G
    have ew1 : IntKind.i64.wrap U = U := IntWalk.i64_in _ (by omega)
    have ew2 : IntKind.i64.wrap L = L := IntWalk.i64_in _ (by omega)
    have hGne : ¬ (G : Int) = 0 := by omega
    have hGne' : ¬ G = 0 := by omega
    have hBG : ((G : Int) == 0) = false := by simp; omega
    clear hu hl1 hl2
    have c0 := x0.cell 0 rfl; have c1 := x0.cell 1 rfl; have c2 := x0.cell 2 rfl
    go_wp2_with fail
    refine (hpa _ hR).mono ?_
    rintro e V3 ⟨rfl, hb3⟩
    replace hbr := hbr.trans (hb3.mono hbr.size)
    clear hb3 hpa hR x0 c0 c1 c2
    go_wp2_with fail
    refine (hg _).mono ?_
    rintro e V4 ⟨rfl, rfl⟩
    clear hg
    go_upto_region 6 with fail
    refine wp_region_ext_lit (by kernel_rfl) (by kernel_rfl) ?_
    repeat (quiet_step (fail))
    refine wpQuiet_nil ?_
    intro _ hw'
    obtain ⟨tt, rfl⟩ := hw'
    have hbt := hbr.trans (tt.below.mono hbr.size)
    clear hbr
    go_wp2
    ((try simp only [Exit.inBlock, Exit.then]); refine bodyPost_ret (results_tmp3 rfl _ _ _) rfl ?_)
    exact ⟨rfl, hbt⟩
  · have hB : (E != 0) = true := by simp [h0]
    have hu := HU.out
    rw [if_neg h0, if_neg h0] at hu
    obtain ⟨rfl, rfl⟩ := hu
    clear HU hok hpt hR x0
    go_wp2
    ((try simp only [Exit.inBlock, Exit.then]); refine bodyPost_ret (results_tmp3 rfl _ _ _) rfl ?_)
    exact ⟨rfl, hbr⟩
end Go.Proofs.Ytakodllejndfeaa
