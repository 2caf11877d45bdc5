import Derived.Test.YtakodllejndfeaaT27
/-! The reference's Odd. -/
namespace Go.Proofs.Ytakodllejndfeaa
set_option linter.unusedSimpArgs false
set_option linter.unusedVariables false
open Go Go.RowKit

set_option maxRecDepth 100000 in
set_option maxHeartbeats 1500000 in
theorem refOdd_any (p : Int) (aS aO : Option Addr) (cS cO : Nat) (S : List Sd) (O : List Int) (who : Int) (w : World) (hX : Ry w aS aO p S O) : Calls Try.prog 43 #[.agg #[.int .i64 p, .slice aS S.length cS, .slice aO O.length cO], .int .i64 who] w fun e w' => e = .returned (.tuple #[.int .i64 (odV p S O who), .int .i64 (odE p S O who)]) ∧ Below w.heap.size w w' := by
  have hol := hX.ol
  have hwr := fun V => IsWriter_any p aS aO cS cO S O who V (by omega)
  have hkn := fun V h => known_any p aS aO cS cO S O (hasB O who) V h
  have hok : askE p S O (hasB O who) = 0 → vB p S O = true ∧ hasB O who = true ∧ alS S ≠ 0 := fun h => askE_0 h
  have hlv : odV p S O who = if askE p S O (hasB O who) = 0 then fpV (odF p S O.length who) else 0 := rfl
  have hle : odE p S O who = if askE p S O (hasB O who) = 0 then fpE (odF p S O.length who) else askE p S O (hasB O who) := rfl
  obtain ⟨U, hU⟩ : ∃ u, u = odV p S O who := ⟨_, rfl⟩
  obtain ⟨Z, hZ⟩ : ∃ u, u = odE p S O who := ⟨_, rfl⟩
  rw [← hU] at hlv ⊢
  rw [← hZ] at hle ⊢
  clear hU hZ
  obtain ⟨R, hRr⟩ : ∃ r, r = hasB O who := ⟨_, rfl⟩
  rw [← hRr] at hwr hkn hok hlv hle
  generalize askE p S O R = E at *
  have HU := hid (And.intro hlv hle)
  have HR1 := hid hRr
  clear hlv hle hRr
  obtain ⟨W, hW, hb, _, x0⟩ := boxes1 w #[.int .i64 p, .slice aS S.length cS, .slice aO O.length cO] 25
  have hRy := hX.below hb (Nat.le_refl _)
  clear hX
  go_enter Try.func43, Try.ntmps43
  go_upto_region 1 with fail
  clear hW
  have hbd := (Below.refl W.heap.size W).drew
  have hbr := hb.trans (hbd.mono hb.size)
  have S0 := And.intro (x0.below hbd) (hRy.below hbd (Nat.le_refl _))
  clear hbd hb x0 hRy
  refine wp_region_head 5 (fun w' => Bx w' w.heap.size #[.int .i64 p, .slice aS S.length cS, .slice aO O.length cO] 25 ∧ Ry w' aS aO p S O) (by kernel_rfl) rfl ?_
  generalize W.drew = Y0 at *
  refine HeadAt.take (i := 0) (.agg #[.int .i64 p, .slice aS S.length cS, .slice aO O.length cO]) rfl (by kernel_rfl) (.inl ⟨rfl, fun w' z => ?_⟩) S0 ?_
  · (have z0 := z.1.cell 0 rfl; have z1 := z.1.cell 1 rfl; have z2 := z.1.cell 2 rfl; simp [go_sem, z0, z1, z2])
  (try simp only [Act.put, List.getElem_toArray, List.getElem_cons_succ, List.getElem_cons_zero, List.setIfInBounds_toArray, List.set_cons_succ, List.set_cons_zero])
  refine HeadAt.take (i := 1) (.agg #[.int .i64 p, .slice aS S.length cS, .slice aO O.length cO]) rfl (by kernel_rfl) (.inl ⟨rfl, fun w' z => ?_⟩) S0 ?_
  · (have z0 := z.1.cell 0 rfl; have z1 := z.1.cell 1 rfl; have z2 := z.1.cell 2 rfl; simp [go_sem, z0, z1, z2])
  (try simp only [Act.put, List.getElem_toArray, List.getElem_cons_succ, List.getElem_cons_zero, List.setIfInBounds_toArray, List.set_cons_succ, List.set_cons_zero])
  refine HeadAt.take (i := 2) (.int .i64 who) rfl (by kernel_rfl) (.inl ⟨rfl, fun _ _ => by simp [go_sem]⟩) S0 ?_
  (try simp only [Act.put, List.getElem_toArray, List.getElem_cons_succ, List.getElem_cons_zero, List.setIfInBounds_toArray, List.set_cons_succ, List.set_cons_zero])
  refine HeadAt.one (i := 3) rfl (by kernel_rfl) ?_
  generalize hK : Upto _ _ = K0
  (try simp only [Act.put, List.getElem_toArray, List.getElem_cons_succ, List.getElem_cons_zero, List.setIfInBounds_toArray, List.set_cons_succ, List.set_cons_zero])
  go_wp2_with fail
  refine (hwr _).mono ?_
  rintro e V1 ⟨rfl, hb3⟩
  go_wp2_with fail
  replace S0 := And.intro (S0.1.below hb3) (S0.2.below hb3 (Nat.le_refl _))
  replace hbr := hbr.trans (hb3.mono hbr.size)
  clear hb3 hwr
  subst hK
  refine ⟨S0, ?_⟩
  (try simp only [Act.put, List.getElem_toArray, List.getElem_cons_succ, List.getElem_cons_zero, List.setIfInBounds_toArray, List.set_cons_succ, List.set_cons_zero])
  refine HeadAt.one (i := 4) rfl (by kernel_rfl) ?_
  generalize hK : Upto _ _ = K0
  (try simp only [Act.put, List.getElem_toArray, List.getElem_cons_succ, List.getElem_cons_zero, List.setIfInBounds_toArray, List.set_cons_succ, List.set_cons_zero])
  go_wp2_with fail
  refine (hkn _ S0.2).mono ?_
  rintro e V2 ⟨rfl, hb3⟩
  go_wp2_with fail
  replace S0 := And.intro (S0.1.below hb3) (S0.2.below hb3 (Nat.le_refl _))
  replace hbr := hbr.trans (hb3.mono hbr.size)
  clear hb3 hkn
  subst hK
  refine ⟨S0, ?_⟩
  (try simp only [Act.put, List.getElem_toArray, List.getElem_cons_succ, List.getElem_cons_zero, List.setIfInBounds_toArray, List.set_cons_succ, List.set_cons_zero])
  refine HeadAt.done (by kernel_rfl) ?_
  (try simp only [Act.put, List.drop_succ_cons, List.drop_zero, List.getElem_toArray, List.getElem_cons_succ, List.getElem_cons_zero])
  go_wp2_with fail
  refine NoPanic.normal ?_
  obtain ⟨x0, hR⟩ := S0
  by_cases h0 : E = 0
  · obtain ⟨hv, hr, hal⟩ := hok h0
    have hV := vB_ok hv
    have hu := HU.out
    rw [if_pos h0, if_pos h0] at hu
    clear HU
    have hw : hasB O who = true := by rw [← HR1.out]; exact hr
    unfold hasB at hw
    obtain ⟨hw0, hw1⟩ := inI_iff.1 hw
    obtain ⟨i, rfl⟩ := Int.eq_ofNat_of_zero_le hw0
    have hi : i < O.length := by omega
    have hsh : ∀ P : Int, 0 ≤ P → P ≤ 9999 → ∀ V, Ry V aS aO p S O → Calls Try.prog 63 #[.agg #[.int .i64 p, .slice aS S.length cS, .slice aO O.length cO], .int .i64 (i : Int), .int .i64 P] V fun e w' => e = .returned (.int .i64 (shV P (clL S O.length) (100 * alS S) O.length (i : Nat))) ∧ Below V.heap.size V w' := fun P h1 h9 V h => share_any p aS aO cS cO S O i P V h (hV.pool h1 h9) hal hi
    have hq : ∀ P, odQ S O.length i P = decide (shV P (clL S O.length) (100 * alS S) O.length (i : Nat) < shV (P - 1) (clL S O.length) (100 * alS S) O.length (i : Nat)) := fun _ => rfl
    have hp0 := hV.p0; have hp9 := hV.p9
    obtain ⟨sh, hshd⟩ : ∃ sh : Int → Int, ∀ P, sh P = shV P (clL S O.length) (100 * alS S) O.length (i : Nat) := ⟨_, fun _ => rfl⟩
    simp only [← hshd] at hsh hq
    obtain ⟨q, hqd⟩ : ∃ q, q = odQ S O.length i := ⟨_, rfl⟩
    obtain ⟨N, hN⟩ := Int.eq_ofNat_of_zero_le hp0
    obtain ⟨F, hF⟩ : ∃ F, F = odF p S O.length i := ⟨_, rfl⟩
    have hF2 := hF
    unfold odF at hF2
    rw [← hqd, show p.toNat = N by omega] at hF2
    rw [← hF] at hu
    have HU := hid hu
    clear hu
    rw [← hqd] at hq
    have HF : Hid (firstF q (N + 1 - 1) ((1 : Nat) : Int) = F) := hid (by rw [Nat.add_sub_cancel, hF2]; rfl)
    have HN := hid hN
    have HQ := hid hq
    subst h0
    clear hF hF2 hN hqd hshd hq hok hv hr hal hV hw hw0 hw1 HR1
    have c0 := x0.cell 0 rfl; have c1 := x0.cell 1 rfl; have c2 := x0.cell 2 rfl
    go_wp2
    clear c0 c1 c2
    go_loopw [7] (fun v7 wr => ∃ k : Nat, 1 ≤ k ∧ k ≤ N + 1 ∧ v7 = .int .i64 (k : Int) ∧ Hid (firstF q (N + 1 - k) (k : Int) = F) ∧ Bx wr w.heap.size #[.int .i64 p, .slice aS S.length cS, .slice aO O.length cO] 25 ∧ Ry wr aS aO p S O ∧ Below w.heap.size w wr) (fun v7 _ => N + 1 - (intOf v7).toNat)
    case atStart => exact ⟨1, Nat.le_refl _, by omega, rfl, HF, x0, hR, hbr⟩
    case round =>
      clear x0 hR hbr HF
      obtain ⟨k, hk1, hk, rfl, HF, x0, hR, hbr⟩ := hrel
      have c0 := x0.cell 0 rfl; have c1 := x0.cell 1 rfl; have c2 := x0.cell 2 rfl
      by_cases hlt : k < N + 1
      · have hkI : (k : Int) ≤ p := by have := HN.out; omega
        have hst := firstF_step (q := q) hlt
        rw [HF.out, HQ.out] at hst
        have hs1 := hsh (k : Int) (by omega) (by omega)
        have hs2 := hsh ((k : Int) - 1) (by omega) (by omega)
        obtain ⟨s, hsv⟩ : ∃ s, s = sh (k : Int) := ⟨_, rfl⟩
        obtain ⟨t, htv⟩ : ∃ t, t = sh ((k : Int) - 1) := ⟨_, rfl⟩
        rw [← hsv] at hst hs1
        rw [← htv] at hst hs2
        have ewm : IntKind.i64.wrap ((k : Int) - 1) = (k : Int) - 1 := IntWalk.i64_in _ (by omega)
        have HS := hid hst
        obtain ⟨d, hd⟩ : ∃ d, d = decide (s < t) := ⟨_, rfl⟩
        clear hsv htv HF hst
        go_upto_region 7 with fail
        clear c0 c1 c2
        have hbd := (Below.refl wr.heap.size wr).drew
        replace hbr := hbr.trans (hbd.mono hbr.size)
        have S0 := And.intro (x0.below hbd) (hR.below hbd (Nat.le_refl _))
        clear hbd x0 hR
        refine wp_region_head 9 (fun w' => Bx w' w.heap.size #[.int .i64 p, .slice aS S.length cS, .slice aO O.length cO] 25 ∧ Ry w' aS aO p S O) (by kernel_rfl) rfl ?_
        generalize wr.drew = Y0 at *
        refine HeadAt.take (i := 0) (.agg #[.int .i64 p, .slice aS S.length cS, .slice aO O.length cO]) rfl (by kernel_rfl) (.inl ⟨rfl, fun w' z => ?_⟩) S0 ?_
        · (have z0 := z.1.cell 0 rfl; have z1 := z.1.cell 1 rfl; have z2 := z.1.cell 2 rfl; simp [go_sem, z0, z1, z2])
        (try simp only [Act.put, List.getElem_toArray, List.getElem_cons_succ, List.getElem_cons_zero, List.setIfInBounds_toArray, List.set_cons_succ, List.set_cons_zero])
        refine HeadAt.take (i := 1) (.int .i64 (i : Int)) rfl (by kernel_rfl) (.inl ⟨rfl, fun _ _ => by simp [go_sem]⟩) S0 ?_
        (try simp only [Act.put, List.getElem_toArray, List.getElem_cons_succ, List.getElem_cons_zero, List.setIfInBounds_toArray, List.set_cons_succ, List.set_cons_zero])
        refine HeadAt.take (i := 2) (.int .i64 (k : Int)) rfl (by kernel_rfl) (.inl ⟨rfl, fun _ _ => by simp [go_sem]⟩) S0 ?_
        (try simp only [Act.put, List.getElem_toArray, List.getElem_cons_succ, List.getElem_cons_zero, List.setIfInBounds_toArray, List.set_cons_succ, List.set_cons_zero])
        refine HeadAt.take (i := 4) (.agg #[.int .i64 p, .slice aS S.length cS, .slice aO O.length cO]) rfl (by kernel_rfl) (.inl ⟨rfl, fun w' z => ?_⟩) S0 ?_
        · (have z0 := z.1.cell 0 rfl; have z1 := z.1.cell 1 rfl; have z2 := z.1.cell 2 rfl; simp [go_sem, z0, z1, z2])
        (try simp only [Act.put, List.getElem_toArray, List.getElem_cons_succ, List.getElem_cons_zero, List.setIfInBounds_toArray, List.set_cons_succ, List.set_cons_zero])
        refine HeadAt.take (i := 5) (.int .i64 (i : Int)) rfl (by kernel_rfl) (.inl ⟨rfl, fun _ _ => by simp [go_sem]⟩) S0 ?_
        (try simp only [Act.put, List.getElem_toArray, List.getElem_cons_succ, List.getElem_cons_zero, List.setIfInBounds_toArray, List.set_cons_succ, List.set_cons_zero])
        refine HeadAt.take (i := 6) (.int .i64 (k : Int)) rfl (by kernel_rfl) (.inl ⟨rfl, fun _ _ => by simp [go_sem]⟩) S0 ?_
        (try simp only [Act.put, List.getElem_toArray, List.getElem_cons_succ, List.getElem_cons_zero, List.setIfInBounds_toArray, List.set_cons_succ, List.set_cons_zero])
        refine HeadAt.take (i := 7) (.int .i64 ((k : Int) - 1)) rfl (by kernel_rfl) (.inl ⟨rfl, fun w' z => ?_⟩) S0 ?_
        · (simp [go_sem, ewm])
        (try simp only [Act.put, List.getElem_toArray, List.getElem_cons_succ, List.getElem_cons_zero, List.setIfInBounds_toArray, List.set_cons_succ, List.set_cons_zero])
        refine HeadAt.one (i := 3) rfl (by kernel_rfl) ?_
        generalize hK : Upto _ _ = K0
        (try simp only [Act.put, List.getElem_toArray, List.getElem_cons_succ, List.getElem_cons_zero, List.setIfInBounds_toArray, List.set_cons_succ, List.set_cons_zero])
        go_wp2_with fail
        refine (hs1 _ S0.2).mono ?_
        rintro e V3 ⟨rfl, hb3⟩
        go_wp2_with fail
        replace S0 := And.intro (S0.1.below hb3) (S0.2.below hb3 (Nat.le_refl _))
        replace hbr := hbr.trans (hb3.mono hbr.size)
        clear hb3 hs1
        subst hK
        refine ⟨S0, ?_⟩
        (try simp only [Act.put, List.getElem_toArray, List.getElem_cons_succ, List.getElem_cons_zero, List.setIfInBounds_toArray, List.set_cons_succ, List.set_cons_zero])
        refine HeadAt.one (i := 8) rfl (by kernel_rfl) ?_
        generalize hK : Upto _ _ = K0
        (try simp only [Act.put, List.getElem_toArray, List.getElem_cons_succ, List.getElem_cons_zero, List.setIfInBounds_toArray, List.set_cons_succ, List.set_cons_zero])
        go_wp2_with fail
        refine (hs2 _ S0.2).mono ?_
        rintro e V4 ⟨rfl, hb3⟩
        go_wp2_with fail
        replace S0 := And.intro (S0.1.below hb3) (S0.2.below hb3 (Nat.le_refl _))
        replace hbr := hbr.trans (hb3.mono hbr.size)
        clear hb3 hs2
        subst hK
        refine ⟨S0, ?_⟩
        (try simp only [Act.put, List.getElem_toArray, List.getElem_cons_succ, List.getElem_cons_zero, List.setIfInBounds_toArray, List.set_cons_succ, List.set_cons_zero])
        refine HeadAt.done (by kernel_rfl) ?_
        (try simp only [Act.put, List.drop_succ_cons, List.drop_zero, List.getElem_toArray, List.getElem_cons_succ, List.getElem_cons_zero])
        go_wp2_with fail
        refine NoPanic.normal ?_
        obtain ⟨x0, hR⟩ := S0
        clear hd
        by_cases hc : s < t
        · have hst := HS.out
          rw [if_pos (decide_eq_true hc)] at hst
          have hu := HU.out
          rw [hst] at hu
          obtain ⟨rfl, rfl⟩ := hu
          clear hst HU HS
          go_wp2
          go_ret2
          exact ⟨rfl, hbr⟩
        · have hst := HS.out
          rw [if_neg (by simpa using hc)] at hst
          have HF := hid hst.symm
          have HZ := hid (And.intro x0 (And.intro hR hbr))
          clear hst HS x0 hR hbr
          go_wp2
          go_roundw
          case rel => exact ⟨k + 1, by omega, by omega, by simp, HF, HZ.out⟩
          case measure => simp [intOf]; omega
      · have hkn : k = N + 1 := by omega
        have hkI : ¬ (k : Int) ≤ p := by have := HN.out; omega
        have hF := HF.out
        rw [hkn, Nat.sub_self, firstF] at hF
        have hu := HU.out
        rw [← hF] at hu
        obtain ⟨rfl, rfl⟩ := hu
        clear HF hsh hR hkn hF HU
        go_wp2
        go_ret2
        exact ⟨rfl, hbr⟩
  · have hB : (E != 0) = true := by simp [h0]
    have hu := HU.out
    rw [if_neg h0, if_neg h0] at hu
    obtain ⟨rfl, rfl⟩ := hu
    clear hok hR x0 HR1 HU
    go_wp2
    go_ret2
    exact ⟨rfl, hbr⟩
end Go.Proofs.Ytakodllejndfeaa
