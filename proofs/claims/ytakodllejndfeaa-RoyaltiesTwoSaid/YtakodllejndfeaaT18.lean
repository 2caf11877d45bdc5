import Derived.Test.YtakodllejndfeaaT17
/-! The reference: the exact part of a writer. -/
namespace Go.Proofs.Ytakodllejndfeaa
set_option linter.unusedSimpArgs false
set_option linter.unusedVariables false
open Go Go.RowKit

theorem VOk.pool {p P : Int} {S : List Sd} {O : List Int} (h : VOk p S O) (h0 : 0 ≤ P) (h9 : P ≤ 9999) : VOk P S O := ⟨h.n6, h.m6, h.ow, h.sd, h0, h9⟩
theorem part_rng {p : Int} {S : List Sd} {O : List Int} (hV : VOk p S O) (who : Int) (k : Nat) : 0 ≤ p * clS (S.take k) who ∧ p * clS (S.take k) who ≤ 59994000000 := by
  have h1 := clS_rng (VOk.s_take hV k) who
  have h2 := VOk.take hV k
  have h3 := hV.p0; have h4 := hV.p9
  exact ⟨Int.mul_nonneg h3 h1.1, Int.mul_le_mul (c := 9999) (d := 6000000) h4 (by omega) h1.1 (by omega)⟩

set_option maxRecDepth 100000 in
set_option maxHeartbeats 6000000 in
theorem Part_any (p : Int) (aS aO : Option Addr) (cS cO : Nat) (S : List Sd) (O : List Int) (who : Int) (w : World) (hX : Ry w aS aO p S O) (hV : VOk p S O) : Calls Try.prog 18 #[.agg #[.int .i64 p, .slice aS S.length cS, .slice aO O.length cO], .int .i64 who] w fun e w' => e = .returned (.tuple #[.int .i64 (p * clS S who), .int .i64 (100 * alS S)]) ∧ Below w.heap.size w w' := by
  obtain ⟨W, hW, hb, _, x0⟩ := boxes1 w #[.int .i64 p, .slice aS S.length cS, .slice aO O.length cO] 25
  have hXW := hX.below hb (Nat.le_refl _)
  have hX1 := hXW.sd
  have hpl := fun (V : World) (hb : Below W.heap.size W V) => Plays_any p aS aO cS cO S O V (hXW.below hb (Nat.le_refl _)) hV
  have hal := VOk.al hV
  have hp0 := hV.p0; have hp9 := hV.p9
  have hm6 := hV.m6
  obtain ⟨A, hA⟩ : ∃ A, A = alS S := ⟨_, rfl⟩
  rw [← hA] at hpl hal ⊢
  obtain ⟨m, hm⟩ : ∃ m, m = S.length := ⟨_, rfl⟩
  rw [← hm] at hm6 x0 hW hpl ⊢
  have HM := hid hm
  have hmI : (m : Int) ≤ 6 := by omega
  have ewA : IntKind.i64.wrap (100 * A) = 100 * A := IntWalk.i64_in _ (by omega)
  obtain ⟨R, hR⟩ : ∃ R, R = p * clS S who := ⟨_, rfl⟩
  rw [← hR]
  have HR := hid hR
  clear hm hX hXW hA hR
  have c0 := x0.cell 0 rfl; have c1 := x0.cell 1 rfl; have c2 := x0.cell 2 rfl
  go_enter Try.func18, Try.ntmps18
  go_wp2
  clear hW c0 c1 c2
  go_loopw [4, 6] (fun v4 v6 wr => ∃ k : Nat, k ≤ m ∧ v6 = .int .i64 (k : Int) ∧ v4 = .int .i64 (p * clS (S.take k) who) ∧ Below W.heap.size W wr) (fun _ v6 _ => m - (intOf v6).toNat)
  case atStart => exact ⟨0, Nat.zero_le _, rfl, by simp [clS], Below.refl _ _⟩
  case round =>
    obtain ⟨k, hk, rfl, rfl, hb1⟩ := hrel
    have x0k := x0.below hb1
    have c0 := x0k.cell 0 rfl; have c1 := x0k.cell 1 rfl; have c2 := x0k.cell 2 rfl
    by_cases hlt : k < m
    · obtain ⟨b, off, s, a', c', rfl, hbl, q0, q1, hP, hpl2, hrg, hmem, hg⟩ := (hX1.below hb1 (Nat.le_refl _)).at (k := k) (by rw [← HM.out]; exact hlt)
      have hkI : (k : Int) < m := by omega
      have hk0 : (0 : Int) ≤ (k : Int) := by omega
      have hso := hV.sd s hmem
      have hst : p * clS (S.take (k + 1)) who = p * clS (S.take k) who + p * s.pl * pctOf s.ps who := by rw [take_snoc hg.out, clS_snoc, Int.mul_add, Int.mul_assoc]
      have hr1 := part_rng hV who k
      have hp2 : 0 ≤ p * s.pl := Int.mul_nonneg hp0 hso.pl.1
      have hp3 : p * s.pl ≤ 9999 * 9999 := Int.mul_le_mul hp9 hso.pl.2 hso.pl.1 (by omega)
      obtain ⟨u, hu⟩ : ∃ u, u = p * clS (S.take k) who := ⟨_, rfl⟩
      rw [← hu] at hst hr1 ⊢
      obtain ⟨pl, ps⟩ := s
      simp only at q0 q1 hpl2 hrg hst hp2 hp3
      obtain ⟨mo, hmo⟩ : ∃ mo, mo = p * pl := ⟨_, rfl⟩
      rw [← hmo] at hst hp2 hp3
      obtain ⟨q, hq⟩ : ∃ q, q = ps.length := ⟨_, rfl⟩
      rw [← hq] at q1 hpl2
      have HQ := hid hq; have HST := hid hst; have HSO := hid hso
      have ew1 : IntKind.i64.wrap (p * pl) = mo := by rw [← hmo]; exact IntWalk.i64_in _ (by omega)
      have hba := below_one (w := wr) (.cells #[.int .i64 pl, .slice a' q c'] 39)
      have hb2 := hb1.trans (hba.mono hb1.size)
      have HXa := hid (And.intro (x0k.below hba) (And.intro (Bx.new wr #[.int .i64 pl, .slice a' q c'] 39) (And.intro (hP.below hba (Nat.le_refl _)) hb2)))
      clear hq hst hso hu hmo hmem hg hba hb2 hP x0k
      go_upto_region 5 with fail
      obtain ⟨y0, x7, hP, hb2⟩ := HXa.out
      clear HXa q0 q1 hb1 c0 c1 c2
      generalize wr.heap.size = s7 at *
      generalize World.alloc _ _ = wa at *
      go_wp2
      go_loopw [4, 8] (fun v4 v8 wr => ∃ j : Nat, j ≤ q ∧ v8 = .int .i64 (j : Int) ∧ v4 = .int .i64 (u + mo * pctOf (ps.take j) who) ∧ Below wa.heap.size wa wr) (fun _ v8 _ => q - (intOf v8).toNat)
      case atStart => exact ⟨0, Nat.zero_le _, rfl, by simp [pctOf], Below.refl _ _⟩
      case round =>
        obtain ⟨j, hj, rfl, rfl, hb3⟩ := hrel
        have x7j := x7.below hb3
        have y0j := y0.below hb3
        have d0 := x7j.cell 0 rfl; have d1 := x7j.cell 1 rfl
        have c0 := y0j.cell 0 rfl; have c1 := y0j.cell 1 rfl; have c2 := y0j.cell 2 rfl
        by_cases hltj : j < q
        · obtain ⟨b2, off2, x, y, rfl, hbl2, q0, q1, hx1, hy1, hg, _⟩ := (hP.below hb3 (Nat.le_refl _)).at (k := j) (by rw [← HQ.out]; exact hltj)
          have hpct := HSO.out.pct _ (List.mem_of_getElem? hg.out)
          simp only at hpct
          have hjI : (j : Int) < q := by omega
          have hj0 : (0 : Int) ≤ (j : Int) := by omega
          have hsn := pctOf_snoc (ps.take j) (x, y) who
          rw [← take_snoc hg.out] at hsn
          simp only at hsn
          have hpr := pct_rng (ps := ps.take j) (fun q hq => HSO.out.pct q (List.mem_of_mem_take hq)) who
          have hsp := (sumP_rng (ps := ps.take j) (fun q hq => HSO.out.pct q (List.mem_of_mem_take hq)))
          rw [List.length_take] at hsp
          have h3 : 0 ≤ mo * pctOf (ps.take j) who := Int.mul_nonneg hp2 hpr.1
          have h4 : mo * pctOf (ps.take j) who ≤ 99980001 * 100000 := Int.mul_le_mul hp3 (by omega) hpr.1 (by omega)
          have h5 : 0 ≤ mo * y := Int.mul_nonneg hp2 (by omega)
          have h6 : mo * y ≤ 99980001 * 100 := Int.mul_le_mul hp3 hpct.2 (by omega) (by omega)
          by_cases he : x = who
          · rw [if_pos he] at hsn
            have hsn2 : mo * pctOf (ps.take (j + 1)) who = mo * pctOf (ps.take j) who + mo * y := by rw [hsn, Int.mul_add]
            obtain ⟨t, ht⟩ : ∃ t, t = mo * y := ⟨_, rfl⟩
            rw [← ht] at hsn2 h5 h6
            obtain ⟨z, hz⟩ : ∃ z, z = mo * pctOf (ps.take j) who := ⟨_, rfl⟩
            rw [← hz] at hsn2 h3 h4 ⊢
            have HSN := hid hsn2
            have ew2 : IntKind.i64.wrap (mo * y) = t := by rw [← ht]; exact IntWalk.i64_in _ (by omega)
            have ew3 : IntKind.i64.wrap (u + z + t) = u + z + t := IntWalk.i64_in _ (by omega)
            have hB : (x == who) = true := by simp [he]
            clear hsn hsn2 ht hz hsp hpr he hg
            go_upto_region 9 with fail
            have e0 := y0j.ext 0 rfl; have e1 := x7j.ext 0 rfl; have e2 := x7j.ext 1 rfl; have e3 := Ext.cell q1
            clear c0 c1 c2 d0 d1 x7j y0j
            refine wp_region_ext_lit (by kernel_rfl) (by kernel_rfl) ?_
            repeat (quiet_step (fail))
            refine wpQuiet_nil ?_
            intro _ hw'
            obtain ⟨tt, rfl⟩ := hw'
            have hb4 := hb3.trans (tt.below.mono hb3.size)
            clear e0 e1 e2 e3
            go_wp2
            go_roundw
            case rel => exact ⟨j + 1, by omega, by simp, by rw [HSN.out, ← Int.add_assoc], hb4⟩
            case measure => simp [intOf]; omega
          · rw [if_neg he, Int.add_zero] at hsn
            have HSN := hid hsn
            have hB : (x == who) = false := by simp [he]
            clear hsn hsp hpr he hg
            go_wp2
            go_roundw
            case rel => exact ⟨j + 1, by omega, by simp, by rw [HSN.out], hb3⟩
            case measure => simp [intOf]; omega
        · have hjq : j = q := by omega
          have hjI : ¬ (j : Int) < q := by omega
          have ht : ps.take j = ps := by rw [hjq, HQ.out, List.take_length]
          rw [ht, ← HST.out]
          have hb4 := hb2.trans (hb3.mono hb2.size)
          clear ht
          go_wp2
          go_roundw
          case rel => exact ⟨k + 1, by omega, by simp, rfl, hb4⟩
          case measure => simp [intOf]; omega
    · have hkm : k = m := by omega
      have hkI : ¬ (k : Int) < m := by omega
      have ht : S.take k = S := by rw [hkm, HM.out, List.take_length]
      rw [ht, ← HR.out]
      have hpl3 := hpl wr hb1
      have hb2 := hb.trans (hb1.mono hb.size)
      clear ht hkm hpl x0k
      go_wp2_with fail
      refine hpl3.mono ?_
      rintro e V1 ⟨rfl, hb3⟩
      have hb4 := hb2.trans (hb3.mono hb2.size)
      clear hb3 hpl3
      go_wp2
      go_ret2
      exact ⟨rfl, hb4⟩
end Go.Proofs.Ytakodllejndfeaa
