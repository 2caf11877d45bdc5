import Derived.Test.YtakodllejndfeaaT25
/-! The reference's Lost. -/
namespace Go.Proofs.Ytakodllejndfeaa
set_option linter.unusedSimpArgs false
set_option linter.unusedVariables false
open Go Go.RowKit

set_option maxRecDepth 100000 in
set_option maxHeartbeats 6000000 in
theorem refLost_any (p : Int) (aS aO : Option Addr) (cS cO : Nat) (S : List Sd) (O : List Int) (w : World) (hX : Ry w aS aO p S O) : Calls Try.prog 41 #[.agg #[.int .i64 p, .slice aS S.length cS, .slice aO O.length cO]] w fun e w' => e = .returned (.tuple #[.int .i64 (lostV p S O), .int .i64 (askE p S O true)]) ∧ Below w.heap.size w w' := by
  obtain ⟨W, hW, hb, _, x0⟩ := boxes1 w #[.int .i64 p, .slice aS S.length cS, .slice aO O.length cO] 25
  have hR := hX.below hb (Nat.le_refl _)
  have hkn := fun V h => known_any p aS aO cS cO S O true V h
  by_cases hE : askE p S O true = 0
  · obtain ⟨hv, _, hal⟩ := askE_0 hE
    have hV := vB_ok hv
    rw [lostV_ok hE, hE]
    rw [hE] at hkn
    have hal2 := VOk.al hV
    have ha : 0 < alS S := by omega
    have hpl := fun V h => Plays_any p aS aO cS cO S O V h hV
    have hag := fun k => aloneS_rng hV ha k
    have hmg := fun s hs => moneyS_rng hV ha (s := s) hs
    obtain ⟨al, hal3⟩ : ∃ al, al = alS S := ⟨_, rfl⟩
    rw [← hal3] at hpl ha hag hmg hal2 ⊢
    have hm6 := hV.m6
    have hp0 := hV.p0; have hp9 := hV.p9
    obtain ⟨m, hm⟩ : ∃ m, m = S.length := ⟨_, rfl⟩
    rw [← hm] at hm6 x0 hW hkn hpl ⊢
    have HM := hid hm; have HV := hid hV
    have hmI : (m : Int) ≤ 6 := by omega
    have hane : ¬ al = 0 := by omega
    clear hm hX hE hv hal hal3 hV
    have c0 := x0.cell 0 rfl; have c1 := x0.cell 1 rfl; have c2 := x0.cell 2 rfl
    go_enter Try.func41, Try.ntmps41
    go_wp2_with fail
    refine (hkn _ hR).mono ?_
    rintro e W1 ⟨rfl, hb1⟩
    replace hb := hb.trans (hb1.mono hb.size)
    replace hR := hR.below hb1 (Nat.le_refl _)
    replace x0 := x0.below hb1
    clear hW c0 c1 c2 hkn hb1
    have c0 := x0.cell 0 rfl; have c1 := x0.cell 1 rfl; have c2 := x0.cell 2 rfl
    go_wp2
    clear c0 c1 c2
    go_loopw [5, 6] (fun v5 v6 wr => ∃ k : Nat, k ≤ m ∧ v6 = .int .i64 (k : Int) ∧ v5 = .int .i64 (p - aloneS p al (S.take k)) ∧ Below W1.heap.size W1 wr) (fun _ v6 _ => m - (intOf v6).toNat)
    case atStart => exact ⟨0, Nat.zero_le _, rfl, by simp [aloneS], Below.refl _ _⟩
    case round =>
      obtain ⟨k, hk, rfl, rfl, hb1⟩ := hrel
      have y0 := x0.below hb1
      have hRr := hR.below hb1 (Nat.le_refl _)
      have c0 := y0.cell 0 rfl; have c1 := y0.cell 1 rfl; have c2 := y0.cell 2 rfl
      by_cases hlt : k < m
      · obtain ⟨b, off, s, a', c', rfl, hbl, q0, q1, hP, hpl2, hrg, hmem, hg⟩ := hRr.sd.at (k := k) (by rw [← HM.out]; exact hlt)
        have hkI : (k : Int) < m := by omega
        have hk0 : (0 : Int) ≤ (k : Int) := by omega
        have hso := HV.out.sd s hmem
        have hmo := hmg s hmem
        have hst : aloneS p al (S.take (k + 1)) = aloneS p al (S.take k) + aloneP (moneyS p al s) s.ps := by rw [take_snoc hg.out, aloneS_snoc]
        have hr1 := hag k
        have hp2 : 0 ≤ p * s.pl := Int.mul_nonneg hp0 hso.pl.1
        have hp3 : p * s.pl ≤ 9999 * 9999 := Int.mul_le_mul hp9 hso.pl.2 hso.pl.1 (by omega)
        have hdiv : (p * s.pl).tdiv al = moneyS p al s := Int.tdiv_eq_ediv_of_nonneg hp2
        obtain ⟨mo, hmo2⟩ : ∃ mo, mo = moneyS p al s := ⟨_, rfl⟩
        rw [← hmo2] at hmo hst hdiv
        obtain ⟨u, hu⟩ : ∃ u, u = aloneS p al (S.take k) := ⟨_, rfl⟩
        rw [← hu] at hst hr1 ⊢
        obtain ⟨pl, ps⟩ := s
        simp only at q0 q1 hpl2 hrg hst hp2 hp3 hdiv hP
        obtain ⟨q, hq⟩ : ∃ q, q = ps.length := ⟨_, rfl⟩
        rw [← hq] at q1 hpl2
        obtain ⟨N, hN⟩ : ∃ N, N = p * pl := ⟨_, rfl⟩
        have ew1 : IntKind.i64.wrap (p * pl) = N := by rw [hN]; exact IntWalk.i64_in _ (by omega)
        rw [← hN] at hdiv hp2 hp3
        have HQ := hid hq; have HST := hid hst; have HSO := hid hso
        have ew2 : IntKind.i64.wrap mo = mo := IntWalk.i64_in _ (by omega)
        have hpl4 := fun (t : Ext wr) => hpl t.w (hRr.below t.below (Nat.le_refl _))
        have e0 := y0.ext 0 rfl; have e1 := y0.ext 1 rfl; have e2 := y0.ext 2 rfl; have e3 := Ext.cell q0
        clear hq hst hso hu hmo2 hmem hg hN
        go_upto_region 8 with fail
        clear c0 c1 c2
        refine wp_region_ext_lit (by kernel_rfl) (by kernel_rfl) ?_
        repeat (quiet_step (first | (go_at_call 25; exact quiet_ext (hpl4 _))))
        refine wpQuiet_nil ?_
        intro _ hw'
        obtain ⟨tt, rfl⟩ := hw'
        have hb2 := hb1.trans (tt.below.mono hb1.size)
        have z0 := y0.below tt.below
        have z1 := Below.keep tt.below q1
        have hP2 := hP.below tt.below (Nat.le_refl _)
        generalize tt.w = wa at *
        clear e0 e1 e2 e3 hpl4 y0 q0 q1 hP hRr
        have c0 := z0.cell 0 rfl; have c1 := z0.cell 1 rfl; have c2 := z0.cell 2 rfl
        go_wp2
        go_loopw [5, 8] (fun v5 v8 wr => ∃ j : Nat, j ≤ q ∧ v8 = .int .i64 (j : Int) ∧ v5 = .int .i64 (p - u - aloneP mo (ps.take j)) ∧ wr = wa) (fun _ v8 _ => q - (intOf v8).toNat)
        case atStart => exact ⟨0, Nat.zero_le _, rfl, by simp [aloneP], rfl⟩
        case round =>
          obtain ⟨j, hj, rfl, rfl, rfl⟩ := hrel
          by_cases hltj : j < q
          · obtain ⟨b2, off2, x, y, rfl, hbl2, q0, q1, hx1, hy1, hg, _⟩ := hP2.at (k := j) (by rw [← HQ.out]; exact hltj)
            have hpct := HSO.out.pct _ (List.mem_of_getElem? hg.out)
            simp only at hpct
            have hjI : (j : Int) < q := by omega
            have hj0 : (0 : Int) ≤ (j : Int) := by omega
            have hsn := aloneP_snoc mo (ps.take j) (x, y)
            rw [← take_snoc hg.out] at hsn
            have h3 : 0 ≤ mo * y := Int.mul_nonneg hmo.1 (by omega)
            have h4 : mo * y ≤ 99980001 * 100 := Int.mul_le_mul hmo.2 hpct.2 (by omega) (by omega)
            have hpr := aloneP_rng hmo.1 (ps := ps.take j) (fun q hq => HSO.out.pct q (List.mem_of_mem_take hq))
            have hsp := (sumP_rng (ps := ps.take j) (fun q hq => HSO.out.pct q (List.mem_of_mem_take hq)))
            rw [List.length_take] at hsp
            have h5 : mo * sumP (ps.take j) ≤ 99980001 * 100000 := Int.mul_le_mul hmo.2 (by omega) hsp.1 (by omega)
            simp only at hsn
            obtain ⟨t, ht⟩ : ∃ t, t = mo * y := ⟨_, rfl⟩
            rw [← ht] at hsn h3 h4
            have hd100 := quo100_eq h3
            obtain ⟨d, hd⟩ : ∃ d, d = t / 100 := ⟨_, rfl⟩
            rw [← hd] at hd100 hsn
            obtain ⟨z, hz⟩ : ∃ z, z = aloneP mo (ps.take j) := ⟨_, rfl⟩
            rw [← hz] at hsn hpr ⊢
            have ew1 : IntKind.i64.wrap (mo * y) = t := by rw [← ht]; exact IntWalk.i64_in _ (by omega)
            have ew2 : IntKind.i64.wrap d = d := IntWalk.i64_in _ (by omega)
            have ew3 : IntKind.i64.wrap (p - u - z - d) = p - u - z - d := IntWalk.i64_in _ (by omega)
            have HSN := hid hsn
            clear hsn ht hd hz hsp h5 hpr hg h3 h4
            go_wp2
            go_roundw
            case rel => exact ⟨j + 1, by omega, by simp, by rw [HSN.out, show p - u - (z + d) = p - u - z - d by omega], by first | rfl | trivial⟩
            case measure => simp [intOf]; omega
          · have hjq : j = q := by omega
            have hjI : ¬ (j : Int) < q := by omega
            have ht : ps.take j = ps := by rw [hjq, HQ.out, List.take_length]
            rw [ht, show p - u - aloneP mo ps = p - aloneS p al (S.take (k + 1)) by rw [HST.out]; omega]
            clear ht
            go_wp2
            go_roundw
            case rel => exact ⟨k + 1, by omega, by simp, rfl, hb2⟩
            case measure => simp [intOf]; omega
      · have hkm : k = m := by omega
        have hkI : ¬ (k : Int) < m := by omega
        have ht : S.take k = S := by rw [hkm, HM.out, List.take_length]
        rw [ht]
        have hb2 := hb.trans (hb1.mono hb.size)
        clear ht hkm
        go_wp2
        go_ret2
        exact ⟨rfl, hb2⟩
  · rw [lostV_bad hE]
    generalize askE p S O true = E at *
    have hB : (E != 0) = true := by simp [hE]
    have c0 := x0.cell 0 rfl; have c1 := x0.cell 1 rfl; have c2 := x0.cell 2 rfl
    go_enter Try.func41, Try.ntmps41
    go_wp2_with fail
    refine (hkn _ hR).mono ?_
    rintro e W1 ⟨rfl, hb1⟩
    replace hb := hb.trans (hb1.mono hb.size)
    clear hW c0 c1 c2 hkn hb1 x0 hR
    go_wp2
    go_ret2
    exact ⟨rfl, hb⟩
end Go.Proofs.Ytakodllejndfeaa
