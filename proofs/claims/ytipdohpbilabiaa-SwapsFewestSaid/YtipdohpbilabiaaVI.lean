import Derived.Test.YtipdohpbilabiaaVH
/-! Check of the reference. -/
namespace Go.Proofs.Ytipdohpbilabiaa
set_option linter.unusedSimpArgs false
set_option linter.unusedVariables false
open Go Go.RowKit

def preB (X : Sw) : Bool := decide (X.bs.length ≤ 3) && decide (X.st.length ≤ 6) && decide (X.er.length = X.st.length) && decide (X.ks.length ≤ 4) && inI 0 X.ch 3
def earII (X : Sw) (i k : Nat) : Bool := inI 0 ((X.er.getD i []).getD k 0) 999
def tiI (X : Sw) (i : Nat) : Bool := inI 0 (X.st.getD i 0) 9 && (decide ((X.er.getD i []).length = X.bs.length) && (List.range X.bs.length).all (earII X i))
def chk (X : Sw) : Bool := preB X && ((List.range X.bs.length).all (boxI X) && (List.range X.st.length).all (tiI X) && (List.range X.ks.length).all (keepI X))
theorem chk_vB (X : Sw) : chk X = vB X := by
  rw [Bool.eq_iff_iff]
  unfold chk vB preB eaB upB
  simp only [Bool.and_eq_true, decide_eq_true_eq, List.all_eq_true, List.mem_range]
  constructor
  · rintro ⟨⟨⟨⟨⟨h1, h2⟩, h3⟩, h4⟩, h5⟩, ⟨hb, ht⟩, hk⟩
    refine ⟨⟨⟨⟨⟨h1, h2⟩, h4⟩, hb⟩, hk⟩, ⟨fun i hi => ?_, h3, fun i hi => ?_⟩, h5⟩
    · have h := ht i hi
      unfold tiI at h
      simp only [Bool.and_eq_true] at h
      exact h.1
    · have h := ht i (by omega)
      unfold tiI at h
      simp only [Bool.and_eq_true, decide_eq_true_eq, List.all_eq_true, List.mem_range] at h
      unfold eaI upB
      simp only [Bool.and_eq_true, decide_eq_true_eq, List.all_eq_true, List.mem_range]
      exact ⟨h.2.1, fun k hk => h.2.2 k (by omega)⟩
  · rintro ⟨⟨⟨⟨⟨h1, h2⟩, h4⟩, hb⟩, hk⟩, ⟨hu, h3, he⟩, h5⟩
    refine ⟨⟨⟨⟨⟨h1, h2⟩, h3⟩, h4⟩, h5⟩, ⟨hb, fun i hi => ?_⟩, hk⟩
    have h := he i (by omega)
    unfold eaI upB at h
    simp only [Bool.and_eq_true, decide_eq_true_eq, List.all_eq_true, List.mem_range] at h
    unfold tiI
    simp only [Bool.and_eq_true, decide_eq_true_eq, List.all_eq_true, List.mem_range]
    exact ⟨hu i hi, h.1, fun k hk => h.2 k (by omega)⟩
/-- What Check answers. -/
def cod : Bool → Int
  | true => 0
  | false => 70
theorem ret70 {v : Bool} (h : v = false) : Ending.returned (.int .i64 70) = .returned (.int .i64 (cod v)) := by rw [h]; rfl
theorem ret0 {v : Bool} (h : v = true) : Ending.returned (.int .i64 0) = .returned (.int .i64 (cod v)) := by rw [h]; rfl

set_option maxRecDepth 100000 in
set_option maxHeartbeats 2000000 in
theorem Check_pre (ab ast ae ak : Option Addr) (cb cs ce ck : Nat) (X : Sw) (w : World) (hX : Swp w ab ast ae ak X) (h : preB X = false) : Calls Try.prog 18 #[.agg #[.slice ab X.bs.length cb, .slice ast X.st.length cs, .slice ae X.er.length ce, .slice ak X.ks.length ck, .int .i64 X.ch]] w fun e w' => e = .returned (.int .i64 70) ∧ Below w.heap.size w w' := by
  obtain ⟨W, hW, hb, _, x0⟩ := boxes1 w #[.slice ab X.bs.length cb, .slice ast X.st.length cs, .slice ae X.er.length ce, .slice ak X.ks.length ck, .int .i64 X.ch] 26
  have hl1 := hX.2.1.len
  have hl2 := hX.2.2.1.1
  have hif := within_any X.ch 0 3 W
  have c0 := x0.cell 0 rfl; have c1 := x0.cell 1 rfl; have c2 := x0.cell 2 rfl; have c3 := x0.cell 3 rfl; have c4 := x0.cell 4 rfl
  clear hX
  by_cases h1 : X.bs.length ≤ 3
  · have h1I : (X.bs.length : Int) ≤ 3 := by omega
    by_cases h2 : X.st.length ≤ 6
    · have h2I : (X.st.length : Int) ≤ 6 := by omega
      by_cases h3 : X.er.length = X.st.length
      · have h3I : ((X.er.length : Int) != (X.st.length : Int)) = false := by simp [h3]
        by_cases h4 : X.ks.length ≤ 4
        · have h4I : (X.ks.length : Int) ≤ 4 := by omega
          have h5 : inI 0 X.ch 3 = false := by
            unfold preB at h
            rw [decide_eq_true h1, decide_eq_true h2, decide_eq_true h3, decide_eq_true h4] at h
            simpa using h
          rw [h5] at hif
          clear h h1 h2 h3 h4 h5 hl1 hl2
          go_enter Try.func18, Try.ntmps18
          go_wp2_with fail
          refine hif.mono ?_
          rintro e W1 ⟨rfl, rfl⟩
          go_wp2
          go_ret
          exact ⟨rfl, hb⟩
        · have h4I : (4 : Int) < (X.ks.length : Int) := by omega
          clear h h1 h2 h3 h4 hl1 hl2 hif
          go_enter Try.func18, Try.ntmps18
          go_wp2
          go_ret
          exact ⟨rfl, hb⟩
      · have h3I : ((X.er.length : Int) != (X.st.length : Int)) = true := by simp; omega
        clear h h1 h2 h3 hl1 hl2 hif
        go_enter Try.func18, Try.ntmps18
        go_wp2
        go_ret
        exact ⟨rfl, hb⟩
    · have h2I : (6 : Int) < (X.st.length : Int) := by omega
      clear h h1 h2 hl1 hl2 hif
      go_enter Try.func18, Try.ntmps18
      go_wp2
      go_ret
      exact ⟨rfl, hb⟩
  · have h1I : (3 : Int) < (X.bs.length : Int) := by omega
    clear h h1 hl1 hl2 hif
    go_enter Try.func18, Try.ntmps18
    go_wp2
    go_ret
    exact ⟨rfl, hb⟩

set_option maxRecDepth 100000 in
set_option maxHeartbeats 6000000 in
theorem Check_any (ab ast ae ak : Option Addr) (cb cs ce ck : Nat) (X : Sw) (w : World) (hX : Swp w ab ast ae ak X) : Calls Try.prog 18 #[.agg #[.slice ab X.bs.length cb, .slice ast X.st.length cs, .slice ae X.er.length ce, .slice ak X.ks.length ck, .int .i64 X.ch]] w fun e w' => e = .returned (.int .i64 (cod (vB X))) ∧ Below w.heap.size w w' := by
  rw [← chk_vB]
  cases hpre : preB X
  · have hc : chk X = false := by unfold chk; rw [hpre]; rfl
    rw [hc]
    exact Check_pre ab ast ae ak cb cs ce ck X w hX hpre
  have hp := hpre
  unfold preB at hp
  simp only [Bool.and_eq_true, decide_eq_true_eq] at hp
  obtain ⟨⟨⟨⟨h1, h2⟩, h3⟩, h4⟩, h5⟩ := hp
  have h1I : (X.bs.length : Int) ≤ 3 := by omega
  have h2I : (X.st.length : Int) ≤ 6 := by omega
  have h3I : ((X.er.length : Int) != (X.st.length : Int)) = false := by simp [h3]
  have h4I : (X.ks.length : Int) ≤ 4 := by omega
  have hchk : chk X = ((List.range X.bs.length).all (boxI X) && (List.range X.st.length).all (tiI X) && (List.range X.ks.length).all (keepI X)) := by unfold chk; rw [hpre, Bool.true_and]
  have hbx : ∀ k, k < X.bs.length → boxI X k = false → chk X = false := fun k hk h => by rw [hchk, all_range_no _ hk h]; simp
  have htx : ∀ k, k < X.st.length → tiI X k = false → chk X = false := fun k hk h => by rw [hchk, all_range_no _ hk h]; simp
  have hkx : ∀ k, k < X.ks.length → keepI X k = false → chk X = false := fun k hk h => by rw [hchk, all_range_no _ hk h]; simp
  have hall : (List.range X.bs.length).all (boxI X) = true → (List.range X.st.length).all (tiI X) = true → (List.range X.ks.length).all (keepI X) = true → chk X = true := fun e1 e2 e3 => by rw [hchk, e1, e2, e3]; rfl
  have hbi : ∀ k, boxI X k = (decide ((X.bs.getD k []).length ≤ 3) && risB (ntI X) (X.bs.getD k [])) := fun k => rfl
  have hti : ∀ k, tiI X k = (inI 0 (X.st.getD k 0) 9 && (decide ((X.er.getD k []).length = X.bs.length) && (List.range X.bs.length).all (earII X k))) := fun k => rfl
  have hki : ∀ k, keepI X k = (inI 0 (X.ks.getD k (0, 0)).1 ((X.bs.length : Int) - 1) && inL (X.ks.getD k (0, 0)).2 (X.bs.getD (X.ks.getD k (0, 0)).1.toNat [])) := fun k => rfl
  have hei : ∀ i k, earII X i k = inI 0 ((X.er.getD i []).getD k 0) 999 := fun i k => rfl
  have hnt : ntI X = (X.st.length : Int) - 1 := rfl
  obtain ⟨v, hv⟩ : ∃ v, v = chk X := ⟨_, rfl⟩
  rw [← hv] at hbx htx hkx hall ⊢
  have hris := fun a c l W (hI : Ints W a l) => Rising_any a c l (ntI X) W hI
  obtain ⟨W, hW, hb, _, x0⟩ := boxes1 w #[.slice ab X.bs.length cb, .slice ast X.st.length cs, .slice ae X.er.length ce, .slice ak X.ks.length ck, .int .i64 X.ch] 26
  have hif := within_any X.ch 0 3 W
  rw [h5] at hif
  have H3 := hid h3
  rw [hnt] at hris hbi
  have ewt : IntKind.i64.wrap ((X.st.length : Int) - 1) = (X.st.length : Int) - 1 := IntWalk.i64_in _ (by omega)
  have c0 := x0.cell 0 rfl; have c1 := x0.cell 1 rfl; have c2 := x0.cell 2 rfl; have c3 := x0.cell 3 rfl; have c4 := x0.cell 4 rfl
  clear hv h1 h2 h3 h4 h5 hpre hchk hnt
  go_enter Try.func18, Try.ntmps18
  go_wp2_with fail
  refine hif.mono ?_
  rintro e W1 ⟨rfl, rfl⟩
  clear hif
  go_wp2
  clear hW c0 c1 c2 c3 c4
  obtain ⟨nb, hnb⟩ : ∃ n, n = X.bs.length := ⟨_, rfl⟩
  have HNB := hid hnb
  have hgb : ∀ W', Below W.heap.size W W' → Swp W' ab ast ae ak X := fun W' h => (hX.below hb (Nat.le_refl _)).below h (Nat.le_refl _)
  clear hX hnb
  go_loopw [2, 4] (fun v2 v4 wr => ∃ k : Nat, k ≤ nb ∧ v4 = .int .i64 (k : Int) ∧ Hid ((List.range k).all (boxI X) = true) ∧ Below W.heap.size W wr) (fun _ v4 _ => nb - (intOf v4).toNat)
  case atStart => exact ⟨0, Nat.zero_le _, rfl, hid rfl, Below.refl _ _⟩
  case round =>
    obtain ⟨k, hk, rfl, HA, hb1⟩ := hrel
    by_cases hlt : k < nb
    · have hXr := hgb _ hb1
      obtain ⟨b, off, a', c', rfl, hbl, hc, hi⟩ := hXr.1.at (k := k) (by rw [← HNB.out]; exact hlt)
      have hkI : (k : Int) < (X.bs.length : Int) := by rw [← HNB.out]; omega
      have hk0 : (0 : Int) ≤ (k : Int) := by omega
      have hbk := hbi k
      have hfk := hbx k (by rw [← HNB.out]; exact hlt)
      have hup := fun W' hI => hris a' c' (X.bs.getD k []) W' hI
      have hln := hi.len
      replace x0 := x0.below hb1
      have c0 := x0.cell 0 rfl; have c1 := x0.cell 1 rfl; have c2 := x0.cell 2 rfl; have c3 := x0.cell 3 rfl; have c4 := x0.cell 4 rfl
      have hbr := hb.trans (hb1.mono hb.size)
      obtain ⟨L, hL⟩ : ∃ L, L = X.bs.getD k [] := ⟨_, rfl⟩
      rw [← hL] at hbk hup hc hi hln
      obtain ⟨m, hm⟩ : ∃ m, m = L.length := ⟨_, rfl⟩
      rw [← hm] at hbk hup hc hln
      by_cases hm3 : m ≤ 3
      · have hmI : (m : Int) ≤ 3 := by omega
        rw [decide_eq_true hm3, Bool.true_and] at hbk
        have hup1 := hup _ hi
        clear hm3 hm hL hi hup hris hkx hki htx hti hei hXr
        cases hr : risB ((X.st.length : Int) - 1) L
        · rw [hr] at hbk hup1
          have HR := hid (hfk hbk)
          clear hbk hr hfk hbx hall hbi
          go_wp2_with fail
          refine hup1.mono ?_
          rintro e W1 ⟨rfl, hb2⟩
          clear c0 c1 c2 c3 c4 x0
          replace hbr := hbr.trans (hb2.mono hbr.size)
          go_wp2
          go_ret
          exact ⟨ret70 HR.out, hbr⟩
        · rw [hr] at hbk hup1
          have HR := hid (show (List.range (k + 1)).all (boxI X) = true by rw [all_range_succ, HA.out, hbk]; rfl)
          clear hbk hr hfk hbx hall hbi
          go_wp2_with fail
          refine hup1.mono ?_
          rintro e W1 ⟨rfl, hb2⟩
          have hb12 := hb1.trans (hb2.mono hb1.size)
          clear c0 c1 c2 c3 c4 x0
          go_wp2
          go_roundw
          case rel => exact ⟨k + 1, by omega, by simp, HR, hb12⟩
          case measure => simp [intOf]; omega
      · have hmI : (3 : Int) < (m : Int) := by omega
        rw [decide_eq_false hm3, Bool.false_and] at hbk
        have HR := hid (hfk hbk)
        clear hm3 hm hL hi hup hris hkx hki htx hti hei hXr hbk hfk hbx hall hbi
        go_wp2
        go_ret
        exact ⟨ret70 HR.out, hbr⟩
    · have hkn : k = nb := by omega
      have hbA := HA.out
      rw [hkn, HNB.out] at hbA
      replace hall := hall hbA
      clear hbA hbx hbi hris
      have hkI : ¬ (k : Int) < (X.bs.length : Int) := by rw [← HNB.out]; omega
      replace x0 := x0.below hb1
      have c0 := x0.cell 0 rfl; have c1 := x0.cell 1 rfl; have c2 := x0.cell 2 rfl; have c3 := x0.cell 3 rfl; have c4 := x0.cell 4 rfl
      clear HA hkn
      go_wp2
      clear c0 c1 c2 c3 c4
      have hgr : ∀ W', Below wr.heap.size wr W' → Swp W' ab ast ae ak X := fun W' h => hgb W' (hb1.trans (h.mono hb1.size))
      replace hb := hb.trans (hb1.mono hb.size)
      clear hgb hb1 hk hlt hkI
      obtain ⟨nt, hnt⟩ : ∃ n, n = X.st.length := ⟨_, rfl⟩
      have HNT := hid hnt
      clear hnt
      obtain ⟨wo, rfl⟩ : ∃ wo : World, wo = wr := ⟨_, rfl⟩
      go_loopw [2, 5, 6] (fun v2 v5 v6 wr => ∃ k : Nat, k ≤ nt ∧ v5 = .int .i64 (k : Int) ∧ Hid ((List.range k).all (tiI X) = true) ∧ Below wo.heap.size wo wr) (fun _ v5 _ _ => nt - (intOf v5).toNat)
      case atStart => exact ⟨0, Nat.zero_le _, by simp [HNT.out], hid rfl, Below.refl _ _⟩
      case round =>
        obtain ⟨k, hk, rfl, HA, hb1⟩ := hrel
        by_cases hlt : k < nt
        · have hXr := hgr _ hb1
          have hkl : k < X.st.length := by rw [← HNT.out]; exact hlt
          obtain ⟨b, off, x, rfl, hbl, hc, hx1, hx2, hg, _⟩ := hXr.2.1.at (k := k) hkl
          have hkI : (k : Int) < (X.st.length : Int) := by omega
          have hk0 : (0 : Int) ≤ (k : Int) := by omega
          have htk := hti k
          have hgx : X.st.getD k 0 = x := by rw [List.getD_eq_getElem?_getD, hg.out]; rfl
          rw [hgx] at htk
          have hfk := htx k hkl
          have hbr := hb.trans (hb1.mono hb.size)
          replace x0 := x0.below hb1
          have hif := fun v => within_any x 0 9 v
          have hke : k < X.er.length := by rw [H3.out]; exact hkl
          have hkeI : (k : Int) < (X.er.length : Int) := by omega
          obtain ⟨b2, off2, a2, c2, rfl, hbl2, hc2, hr2⟩ := hXr.2.2.1.at (k := k) hke
          obtain ⟨R, hR⟩ : ∃ R, R = X.er.getD k [] := ⟨_, rfl⟩
          have hek := hei k
          rw [← hR] at hc2 hr2 htk hek
          clear hR hgx hg hXr hkl hke hbl hbl2 hx1 hx2 hti htx hki hei
          cases hr : inI 0 x 9
          · rw [hr, Bool.false_and] at htk
            have HR := hid (hfk htk)
            simp only [hr] at hif
            clear htk hfk hr hall hkx hgr hr2 hc2 hek
            go_upto_region 12 with fail
            have hbd := (Below.refl wr.heap.size wr).drew
            have S0 := And.intro (x0.below hbd) (Below.keep hbd hc)
            replace hbr := hbr.trans (hbd.mono hbr.size)
            clear hbd x0
            refine wp_region_head 18 (fun w' => Bx w' w.heap.size #[.slice ab X.bs.length cb, .slice (some ⟨b, off, none⟩) X.st.length cs, .slice (some ⟨b2, off2, none⟩) X.er.length ce, .slice ak X.ks.length ck, .int .i64 X.ch] 26 ∧ w'.cell? ⟨b, off + k, none⟩ = some (.int .i64 x)) (by kernel_rfl) rfl ?_
            generalize wr.drew = Y0 at *
            refine HeadAt.take (i := 0) (.pointer (some ⟨w.heap.size, 1, none⟩)) rfl (by kernel_rfl) (.inl ⟨rfl, fun _ _ => by simp [go_sem]⟩) S0 ?_
            (try simp only [Act.put, List.getElem_toArray, List.getElem_cons_succ, List.getElem_cons_zero, List.setIfInBounds_toArray, List.set_cons_succ, List.set_cons_zero])
            refine HeadAt.take (i := 1) (.slice (some ⟨b, off, none⟩) X.st.length cs) rfl (by kernel_rfl) (.inl ⟨rfl, fun w' z => ?_⟩) S0 ?_
            · (have z0 := z.1.cell 1 rfl; simp [go_sem, z0])
            refine HeadAt.take (i := 2) (.int .i64 (k : Int)) rfl (by kernel_rfl) (.inl ⟨rfl, fun _ _ => by simp [go_sem]⟩) S0 ?_
            (try simp only [Act.put, List.getElem_toArray, List.getElem_cons_succ, List.getElem_cons_zero, List.setIfInBounds_toArray, List.set_cons_succ, List.set_cons_zero])
            refine HeadAt.take (i := 3) (.pointer (some ⟨b, off + k, none⟩)) rfl (by kernel_rfl) (.inl ⟨rfl, fun w' z => ?_⟩) S0 ?_
            · (simp [go_sem, hkI, hk0])
            (try simp only [Act.put, List.getElem_toArray, List.getElem_cons_succ, List.getElem_cons_zero, List.setIfInBounds_toArray, List.set_cons_succ, List.set_cons_zero])
            refine HeadAt.take (i := 4) (.int .i64 x) rfl (by kernel_rfl) (.inl ⟨rfl, fun w' z => ?_⟩) S0 ?_
            · (simp [go_sem, z.2])
            (try simp only [Act.put, List.getElem_toArray, List.getElem_cons_succ, List.getElem_cons_zero, List.setIfInBounds_toArray, List.set_cons_succ, List.set_cons_zero])
            refine HeadAt.one (i := 5) rfl (by kernel_rfl) ?_
            generalize hK : Upto _ _ = K0
            (try simp only [Act.put, List.getElem_toArray, List.getElem_cons_succ, List.getElem_cons_zero, List.setIfInBounds_toArray, List.set_cons_succ, List.set_cons_zero])
            go_wp2_with fail
            refine (hif _).mono ?_
            rintro e V1 ⟨rfl, rfl⟩
            go_wp2_with fail
            subst hK
            refine ⟨S0, ?_⟩
            (try simp only [Act.put, List.getElem_toArray, List.getElem_cons_succ, List.getElem_cons_zero, List.setIfInBounds_toArray, List.set_cons_succ, List.set_cons_zero])
            refine HeadAt.take (i := 6) (.bool true) rfl (by kernel_rfl) (.inl ⟨rfl, fun _ _ => by simp [go_sem]⟩) S0 ?_
            (try simp only [Act.put, List.getElem_toArray, List.getElem_cons_succ, List.getElem_cons_zero, List.setIfInBounds_toArray, List.set_cons_succ, List.set_cons_zero])
            refine HeadAt.take (i := 7) (.bool true) rfl (by kernel_rfl) (.inl ⟨rfl, fun _ _ => by simp [go_sem]⟩) S0 ?_
            (try simp only [Act.put, List.getElem_toArray, List.getElem_cons_succ, List.getElem_cons_zero, List.setIfInBounds_toArray, List.set_cons_succ, List.set_cons_zero])
            refine HeadAt.take (i := 8) undef rfl (by kernel_rfl) (.inr ⟨by kernel_rfl, rfl⟩) S0 ?_
            (try simp only [Act.put, List.getElem_toArray, List.getElem_cons_succ, List.getElem_cons_zero, List.setIfInBounds_toArray, List.set_cons_succ, List.set_cons_zero])
            refine HeadAt.take (i := 9) undef rfl (by kernel_rfl) (.inr ⟨by kernel_rfl, rfl⟩) S0 ?_
            (try simp only [Act.put, List.getElem_toArray, List.getElem_cons_succ, List.getElem_cons_zero, List.setIfInBounds_toArray, List.set_cons_succ, List.set_cons_zero])
            refine HeadAt.take (i := 10) undef rfl (by kernel_rfl) (.inr ⟨by kernel_rfl, rfl⟩) S0 ?_
            (try simp only [Act.put, List.getElem_toArray, List.getElem_cons_succ, List.getElem_cons_zero, List.setIfInBounds_toArray, List.set_cons_succ, List.set_cons_zero])
            refine HeadAt.take (i := 11) undef rfl (by kernel_rfl) (.inr ⟨by kernel_rfl, rfl⟩) S0 ?_
            (try simp only [Act.put, List.getElem_toArray, List.getElem_cons_succ, List.getElem_cons_zero, List.setIfInBounds_toArray, List.set_cons_succ, List.set_cons_zero])
            refine HeadAt.take (i := 12) undef rfl (by kernel_rfl) (.inr ⟨by kernel_rfl, rfl⟩) S0 ?_
            (try simp only [Act.put, List.getElem_toArray, List.getElem_cons_succ, List.getElem_cons_zero, List.setIfInBounds_toArray, List.set_cons_succ, List.set_cons_zero])
            refine HeadAt.take (i := 13) undef rfl (by kernel_rfl) (.inr ⟨by kernel_rfl, rfl⟩) S0 ?_
            (try simp only [Act.put, List.getElem_toArray, List.getElem_cons_succ, List.getElem_cons_zero, List.setIfInBounds_toArray, List.set_cons_succ, List.set_cons_zero])
            refine HeadAt.take (i := 14) undef rfl (by kernel_rfl) (.inr ⟨by kernel_rfl, rfl⟩) S0 ?_
            (try simp only [Act.put, List.getElem_toArray, List.getElem_cons_succ, List.getElem_cons_zero, List.setIfInBounds_toArray, List.set_cons_succ, List.set_cons_zero])
            refine HeadAt.take (i := 15) undef rfl (by kernel_rfl) (.inr ⟨by kernel_rfl, rfl⟩) S0 ?_
            (try simp only [Act.put, List.getElem_toArray, List.getElem_cons_succ, List.getElem_cons_zero, List.setIfInBounds_toArray, List.set_cons_succ, List.set_cons_zero])
            refine HeadAt.take (i := 16) undef rfl (by kernel_rfl) (.inr ⟨by kernel_rfl, rfl⟩) S0 ?_
            (try simp only [Act.put, List.getElem_toArray, List.getElem_cons_succ, List.getElem_cons_zero, List.setIfInBounds_toArray, List.set_cons_succ, List.set_cons_zero])
            refine HeadAt.take (i := 17) undef rfl (by kernel_rfl) (.inr ⟨by kernel_rfl, rfl⟩) S0 ?_
            (try simp only [Act.put, List.getElem_toArray, List.getElem_cons_succ, List.getElem_cons_zero, List.setIfInBounds_toArray, List.set_cons_succ, List.set_cons_zero])
            refine HeadAt.done (by kernel_rfl) ?_
            (try simp only [Act.put, List.drop_succ_cons, List.drop_zero, List.getElem_toArray, List.getElem_cons_succ, List.getElem_cons_zero])
            clear S0
            go_wp2_with fail
            refine NoPanic.normal ?_
            go_wp2
            go_ret
            exact ⟨ret70 HR.out, hbr⟩
          · rw [hr, Bool.true_and] at htk
            simp only [hr] at hif
            have e1 := x0.ext 1 rfl
            have e2 := x0.ext 2 rfl
            have e3 := x0.ext 0 rfl
            have f1 := fun t => Ext.cell hc t
            have f2 := fun t => Ext.cell hc2 t
            obtain ⟨m, hm⟩ : ∃ m, m = R.length := ⟨_, rfl⟩
            rw [← hm] at htk hc2 f2
            by_cases hmn : m = X.bs.length
            · rw [decide_eq_true hmn, Bool.true_and] at htk
              have hne : ((m : Int) != (X.bs.length : Int)) = false := by simp [hmn]
              have HMN := hid hmn
              have HM := hid hm
              clear hmn hm hr
              have HT := hid (And.intro htk hfk)
              clear htk hfk
              have HAL := hid hall
              have HKX := hid hkx
              clear hall hkx
              go_upto_region 12 with fail
              refine wp_region_ext_lit (by kernel_rfl) (by kernel_rfl) ?_
              repeat (quiet_step (first | (go_at_call 50; exact quiet_ext ((hif _).mono (fun e w' h => ⟨h.1, Below.of_eq h.2⟩)))))
              refine wpQuiet_nil ?_
              intro _ hw'
              obtain ⟨t, rfl⟩ := hw'
              have hb14 := hb1.trans (t.below.mono hb1.size)
              have hbr4 := hbr.trans (t.below.mono hbr.size)
              have hr4 := hr2.below t.below (Nat.le_refl _)
              have hgr4 : ∀ W', Below t.w.heap.size t.w W' → Below wo.heap.size wo W' := fun W' h => hb14.trans (h.mono hb14.size)
              have x4 := x0.below t.below
              have g2 := f2 t
              clear e1 e2 e3 f1 f2 hc hc2 hr2 x0 hif
              go_wp2
              obtain ⟨w4, hw4⟩ : ∃ w4, w4 = t.w := ⟨_, rfl⟩
              rw [← hw4] at hb14 hbr4 hr4 hgr4 x4 g2 ⊢
              clear hw4
              go_loopw [2, 6] (fun v2 v6 w5 => ∃ j : Nat, j ≤ nb ∧ v6 = .int .i64 (j : Int) ∧ Hid ((List.range j).all (earII X k) = true) ∧ w5 = w4) (fun _ v6 _ => nb - (intOf v6).toNat)
              case atStart => exact ⟨0, Nat.zero_le _, rfl, hid rfl, rfl⟩
              case round =>
                obtain ⟨j, hj, rfl, HJ, rfl⟩ := hrel
                by_cases hjn : j < nb
                · obtain ⟨b3, off3, y, rfl, hbl3, hc3, hy1, hy2, hg3, _⟩ := hr4.at (k := j) (by rw [← HM.out, HMN.out, ← HNB.out]; exact hjn)
                  have hjI : (j : Int) < (X.bs.length : Int) := by rw [← HNB.out]; omega
                  have hjm : (j : Int) < (m : Int) := by rw [HMN.out]; exact hjI
                  have hj0 : (0 : Int) ≤ (j : Int) := by omega
                  have hej := hek j
                  have hgy : R.getD j 0 = y := by rw [List.getD_eq_getElem?_getD, hg3.out]; rfl
                  rw [hgy] at hej
                  have hiy := fun v => within_any y 0 999 v
                  have c0 := x4.cell 0 rfl; have c1 := x4.cell 1 rfl; have c2 := x4.cell 2 rfl; have c3 := x4.cell 3 rfl; have c4 := x4.cell 4 rfl
                  cases hry : inI 0 y 999
                  · rw [hry] at hej
                    simp only [hry] at hiy
                    have HR := hid (show v = false from HT.out.2 (by rw [HT.out.1]; exact all_range_no (earII X k) (by rw [← HNB.out]; exact hjn) hej))
                    clear hej hry hgy hg3 hek
                    go_wp2_with fail
                    refine (hiy _).mono ?_
                    rintro e W1 ⟨rfl, rfl⟩
                    clear c0 c1 c2 c3 c4
                    go_wp2
                    go_ret
                    exact ⟨ret70 HR.out, hbr4⟩
                  · rw [hry] at hej
                    simp only [hry] at hiy
                    have HJ' := hid (show (List.range (j + 1)).all (earII X k) = true by rw [all_range_succ, HJ.out, hej]; rfl)
                    clear hej hry hgy hg3 hek
                    go_wp2_with fail
                    refine (hiy _).mono ?_
                    rintro e W1 ⟨rfl, rfl⟩
                    clear c0 c1 c2 c3 c4
                    go_wp2
                    go_roundw
                    case rel => exact ⟨j + 1, by omega, by simp, HJ', trivial⟩
                    case measure => simp [intOf]; omega
                · obtain rfl : j = nb := by omega
                  have hjI : ¬ (j : Int) < (X.bs.length : Int) := by rw [← HNB.out]; omega
                  have HR := hid (show (List.range (k + 1)).all (tiI X) = true by rw [all_range_succ, HA.out, HT.out.1, ← HNB.out, HJ.out]; rfl)
                  have c0 := x4.cell 0 rfl; have c1 := x4.cell 1 rfl; have c2 := x4.cell 2 rfl; have c3 := x4.cell 3 rfl; have c4 := x4.cell 4 rfl
                  clear hr4 hek g2
                  go_wp2
                  clear c0 c1 c2 c3 c4
                  go_roundw
                  case rel => exact ⟨k + 1, by omega, by simp, HR, hb14⟩
                  case measure => simp [intOf]; omega
            · rw [decide_eq_false hmn, Bool.false_and] at htk
              have hne : ((m : Int) != (X.bs.length : Int)) = true := by simp; omega
              have HR := hid (hfk htk)
              clear htk hfk hr hall hkx hgr hr2 hc2 hek hm hmn
              go_upto_region 12 with fail
              refine wp_region_ext_lit (by kernel_rfl) (by kernel_rfl) ?_
              repeat (quiet_step (first | (go_at_call 50; exact quiet_ext ((hif _).mono (fun e w' h => ⟨h.1, Below.of_eq h.2⟩)))))
              refine wpQuiet_nil ?_
              intro _ hw'
              obtain ⟨t, rfl⟩ := hw'
              have hbr4 := hbr.trans (t.below.mono hbr.size)
              clear e1 e2 e3 f1 f2 hc x0 hif
              go_wp2
              go_ret
              exact ⟨ret70 HR.out, hbr4⟩
        · have hkn : k = nt := by omega
          have hbA := HA.out
          rw [hkn, HNT.out] at hbA
          replace hall := hall hbA
          clear hbA htx hti
          have hkI : ¬ (k : Int) < (X.st.length : Int) := by rw [← HNT.out]; omega
          replace x0 := x0.below hb1
          have c0 := x0.cell 0 rfl; have c1 := x0.cell 1 rfl; have c2 := x0.cell 2 rfl; have c3 := x0.cell 3 rfl; have c4 := x0.cell 4 rfl
          clear HA hkn hei
          go_wp2
          clear c0 c1 c2 c3 c4
          have hgr2 : ∀ W', Below wr.heap.size wr W' → Swp W' ab ast ae ak X := fun W' h => hgr W' (hb1.trans (h.mono hb1.size))
          replace hb := hb.trans (hb1.mono hb.size)
          clear hgr hb1 hk hlt hkI
          have hgr := hgr2
          clear hgr2
          obtain ⟨nk, hnk⟩ : ∃ n, n = X.ks.length := ⟨_, rfl⟩
          have HNK := hid hnk
          clear hnk
          obtain ⟨wo, rfl⟩ : ∃ wo : World, wo = wr := ⟨_, rfl⟩
          go_loopw [2, 7, 8] (fun v2 v7 v8 w2 => ∃ k : Nat, k ≤ nk ∧ v7 = .int .i64 (k : Int) ∧ Hid ((List.range k).all (keepI X) = true) ∧ Below wo.heap.size wo w2) (fun _ v7 _ _ => nk - (intOf v7).toNat)
          case atStart => exact ⟨0, Nat.zero_le _, rfl, hid rfl, Below.refl _ _⟩
          case round =>
            obtain ⟨k, hk, rfl, HA, hb1⟩ := hrel
            by_cases hlt : k < nk
            · have hXr := hgr _ hb1
              obtain ⟨b, off, kb, kt, rfl, hbl, hc, hd, hk1, hk2, hg, _⟩ := hXr.2.2.2.at (k := k) (by rw [← HNK.out]; exact hlt)
              have hkI : (k : Int) < (X.ks.length : Int) := by rw [← HNK.out]; omega
              have hk0 : (0 : Int) ≤ (k : Int) := by omega
              have hgk : X.ks.getD k (0, 0) = (kb, kt) := by rw [List.getD_eq_getElem?_getD, hg.out]; rfl
              have hki1 := hki k
              rw [hgk] at hki1
              have hfk := hkx k (by rw [← HNK.out]; exact hlt)
              have x0r := x0.below hb1
              have c0 := x0r.cell 0 rfl; have c1 := x0r.cell 1 rfl; have c2 := x0r.cell 2 rfl; have c3 := x0r.cell 3 rfl; have c4 := x0r.cell 4 rfl
              have hX3 := hgr (wr.alloc (.cells #[.int .i64 kb, .int .i64 kt] 55)) (hb1.trans ((below_one _).mono hb1.size))
              have hbr := (hb.trans (hb1.mono hb.size)).trans ((below_one (w := wr) (.cells #[.int .i64 kb, .int .i64 kt] 55)).mono (by have := hb.size; have := hb1.size; omega))
              have hb13 := hb1.trans ((below_one (w := wr) (.cells #[.int .i64 kb, .int .i64 kt] 55)).mono hb1.size)
              have x03 := (x0.below hb1).alloc (.cells #[.int .i64 kb, .int .i64 kt] 55)
              have x6 := Bx.new wr #[.int .i64 kb, .int .i64 kt] 55
              clear hXr hgk hg hki hkx hall hgr x0
              have ew : IntKind.i64.wrap ((X.bs.length : Int) - 1) = (X.bs.length : Int) - 1 := IntWalk.i64_in _ (by omega)
              go_upto_region 23 with fail
              clear c0 c1 c2 c3 c4 x0r
              obtain ⟨b6, hb6⟩ : ∃ b, b = wr.heap.size := ⟨_, rfl⟩
              obtain ⟨W3, hW3⟩ : ∃ W, W = wr.alloc (.cells #[.int .i64 kb, .int .i64 kt] 55) := ⟨_, rfl⟩
              rw [← hb6] at x6 ⊢
              rw [← hW3] at x03 x6 hX3 hbr hb13 ⊢
              clear hb6 hW3 hc hd hb1
              have hif := fun v => within_any kb 0 ((X.bs.length : Int) - 1) v
              cases hr : inI 0 kb ((X.bs.length : Int) - 1)
              · rw [hr, Bool.false_and] at hki1
                have HR := hid (hfk hki1)
                simp only [hr] at hif
                clear hki1 hfk hr hX3
                refine wp_region_head 19 (fun w' => Bx w' w.heap.size #[.slice ab X.bs.length cb, .slice ast X.st.length cs, .slice ae X.er.length ce, .slice (some ⟨b, off, none⟩) X.ks.length ck, .int .i64 X.ch] 26 ∧ Bx w' b6 #[.int .i64 kb, .int .i64 kt] 55) (by kernel_rfl) rfl ?_
                have hbd := (Below.refl W3.heap.size W3).drew
                have S0 := And.intro (x03.below hbd) (x6.below hbd)
                replace hbr := hbr.trans (hbd.mono hbr.size)
                clear hbd x03 x6 hb13
                generalize W3.drew = Y0 at *
                refine HeadAt.take (i := 0) (.pointer (some ⟨b6, 0, none⟩)) rfl (by kernel_rfl) (.inl ⟨rfl, fun _ _ => by simp [go_sem]⟩) S0 ?_
                (try simp only [Act.put, List.getElem_toArray, List.getElem_cons_succ, List.getElem_cons_zero, List.setIfInBounds_toArray, List.set_cons_succ, List.set_cons_zero])
                refine HeadAt.take (i := 1) (.int .i64 kb) rfl (by kernel_rfl) (.inl ⟨rfl, fun w' z => ?_⟩) S0 ?_
                · (have z0 := z.2.cell 0 rfl; simp [go_sem, z0])
                refine HeadAt.take (i := 2) (.pointer (some ⟨w.heap.size, 0, none⟩)) rfl (by kernel_rfl) (.inl ⟨rfl, fun _ _ => by simp [go_sem]⟩) S0 ?_
                (try simp only [Act.put, List.getElem_toArray, List.getElem_cons_succ, List.getElem_cons_zero, List.setIfInBounds_toArray, List.set_cons_succ, List.set_cons_zero])
                refine HeadAt.take (i := 3) (.slice ab X.bs.length cb) rfl (by kernel_rfl) (.inl ⟨rfl, fun w' z => ?_⟩) S0 ?_
                · (have z0 := z.1.cell 0 rfl; simp [go_sem, z0])
                (try simp only [Act.put, List.getElem_toArray, List.getElem_cons_succ, List.getElem_cons_zero, List.setIfInBounds_toArray, List.set_cons_succ, List.set_cons_zero])
                refine HeadAt.take (i := 4) (.int .i64 (X.bs.length : Int)) rfl (by kernel_rfl) (.inl ⟨rfl, fun w' z => ?_⟩) S0 ?_
                · (simp [go_sem])
                (try simp only [Act.put, List.getElem_toArray, List.getElem_cons_succ, List.getElem_cons_zero, List.setIfInBounds_toArray, List.set_cons_succ, List.set_cons_zero])
                refine HeadAt.take (i := 5) (.int .i64 ((X.bs.length : Int) - 1)) rfl (by kernel_rfl) (.inl ⟨rfl, fun w' z => ?_⟩) S0 ?_
                · (simp [go_sem, ew])
                (try simp only [Act.put, List.getElem_toArray, List.getElem_cons_succ, List.getElem_cons_zero, List.setIfInBounds_toArray, List.set_cons_succ, List.set_cons_zero])
                refine HeadAt.one (i := 6) rfl (by kernel_rfl) ?_
                generalize hK : Upto _ _ = K0
                (try simp only [Act.put, List.getElem_toArray, List.getElem_cons_succ, List.getElem_cons_zero, List.setIfInBounds_toArray, List.set_cons_succ, List.set_cons_zero])
                go_wp2_with fail
                refine (hif _).mono ?_
                rintro e V1 ⟨rfl, rfl⟩
                go_wp2_with fail
                subst hK
                refine ⟨S0, ?_⟩
                (try simp only [Act.put, List.getElem_toArray, List.getElem_cons_succ, List.getElem_cons_zero, List.setIfInBounds_toArray, List.set_cons_succ, List.set_cons_zero])
                refine HeadAt.take (i := 7) (.bool true) rfl (by kernel_rfl) (.inl ⟨rfl, fun _ _ => by simp [go_sem]⟩) S0 ?_
                (try simp only [Act.put, List.getElem_toArray, List.getElem_cons_succ, List.getElem_cons_zero, List.setIfInBounds_toArray, List.set_cons_succ, List.set_cons_zero])
                refine HeadAt.take (i := 8) (.bool true) rfl (by kernel_rfl) (.inl ⟨rfl, fun _ _ => by simp [go_sem]⟩) S0 ?_
                (try simp only [Act.put, List.getElem_toArray, List.getElem_cons_succ, List.getElem_cons_zero, List.setIfInBounds_toArray, List.set_cons_succ, List.set_cons_zero])
                refine HeadAt.take (i := 9) undef rfl (by kernel_rfl) (.inr ⟨by kernel_rfl, rfl⟩) S0 ?_
                (try simp only [Act.put, List.getElem_toArray, List.getElem_cons_succ, List.getElem_cons_zero, List.setIfInBounds_toArray, List.set_cons_succ, List.set_cons_zero])
                refine HeadAt.take (i := 10) undef rfl (by kernel_rfl) (.inr ⟨by kernel_rfl, rfl⟩) S0 ?_
                (try simp only [Act.put, List.getElem_toArray, List.getElem_cons_succ, List.getElem_cons_zero, List.setIfInBounds_toArray, List.set_cons_succ, List.set_cons_zero])
                refine HeadAt.take (i := 11) undef rfl (by kernel_rfl) (.inr ⟨by kernel_rfl, rfl⟩) S0 ?_
                (try simp only [Act.put, List.getElem_toArray, List.getElem_cons_succ, List.getElem_cons_zero, List.setIfInBounds_toArray, List.set_cons_succ, List.set_cons_zero])
                refine HeadAt.take (i := 12) undef rfl (by kernel_rfl) (.inr ⟨by kernel_rfl, rfl⟩) S0 ?_
                (try simp only [Act.put, List.getElem_toArray, List.getElem_cons_succ, List.getElem_cons_zero, List.setIfInBounds_toArray, List.set_cons_succ, List.set_cons_zero])
                refine HeadAt.take (i := 13) undef rfl (by kernel_rfl) (.inr ⟨by kernel_rfl, rfl⟩) S0 ?_
                (try simp only [Act.put, List.getElem_toArray, List.getElem_cons_succ, List.getElem_cons_zero, List.setIfInBounds_toArray, List.set_cons_succ, List.set_cons_zero])
                refine HeadAt.take (i := 14) undef rfl (by kernel_rfl) (.inr ⟨by kernel_rfl, rfl⟩) S0 ?_
                (try simp only [Act.put, List.getElem_toArray, List.getElem_cons_succ, List.getElem_cons_zero, List.setIfInBounds_toArray, List.set_cons_succ, List.set_cons_zero])
                refine HeadAt.take (i := 15) undef rfl (by kernel_rfl) (.inr ⟨by kernel_rfl, rfl⟩) S0 ?_
                (try simp only [Act.put, List.getElem_toArray, List.getElem_cons_succ, List.getElem_cons_zero, List.setIfInBounds_toArray, List.set_cons_succ, List.set_cons_zero])
                refine HeadAt.take (i := 16) undef rfl (by kernel_rfl) (.inr ⟨by kernel_rfl, rfl⟩) S0 ?_
                (try simp only [Act.put, List.getElem_toArray, List.getElem_cons_succ, List.getElem_cons_zero, List.setIfInBounds_toArray, List.set_cons_succ, List.set_cons_zero])
                refine HeadAt.take (i := 17) undef rfl (by kernel_rfl) (.inr ⟨by kernel_rfl, rfl⟩) S0 ?_
                (try simp only [Act.put, List.getElem_toArray, List.getElem_cons_succ, List.getElem_cons_zero, List.setIfInBounds_toArray, List.set_cons_succ, List.set_cons_zero])
                refine HeadAt.take (i := 18) undef rfl (by kernel_rfl) (.inr ⟨by kernel_rfl, rfl⟩) S0 ?_
                (try simp only [Act.put, List.getElem_toArray, List.getElem_cons_succ, List.getElem_cons_zero, List.setIfInBounds_toArray, List.set_cons_succ, List.set_cons_zero])
                
                refine HeadAt.done (by kernel_rfl) ?_
                (try simp only [Act.put, List.drop_succ_cons, List.drop_zero, List.getElem_toArray, List.getElem_cons_succ, List.getElem_cons_zero])
                go_wp2_with fail
                refine NoPanic.normal ?_
                go_wp2
                go_ret
                exact ⟨ret70 HR.out, hbr⟩
              · rw [hr, Bool.true_and] at hki1
                simp only [hr] at hif
                unfold inI at hr
                simp only [Bool.and_eq_true, decide_eq_true_eq] at hr
                obtain ⟨j, rfl⟩ := Int.eq_ofNat_of_zero_le hr.1
                have hjn : j < X.bs.length := by omega
                obtain ⟨bb, ob, a', c', rfl, hbb, hcb, hi⟩ := hX3.1.at (k := j) hjn
                rw [Int.toNat_natCast] at hki1
                have hct := fun (t : Ext W3) => in_any a' c' _ kt t.w (hi.below t.below (Nat.le_refl _))
                obtain ⟨L, hL⟩ : ∃ L, L = X.bs.getD j [] := ⟨_, rfl⟩
                rw [← hL] at hki1 hct hcb
                obtain ⟨m, hm⟩ : ∃ m, m = L.length := ⟨_, rfl⟩
                rw [← hm] at hct hcb
                have hjI : (j : Int) < (X.bs.length : Int) := by omega
                have hj0 : (0 : Int) ≤ (j : Int) := by omega
                have u0 := Ext.cell hcb
                have u1 := x03.ext 0 rfl
                have v0 := x6.ext 0 rfl; have v1 := x6.ext 1 rfl
                clear hm hL hi hX3 hr hjn
                cases hri : inL kt L
                · rw [hri] at hki1
                  simp only [hri] at hct
                  have HR := hid (hfk hki1)
                  clear hki1 hfk hri
                  refine wp_region_ext_lit (by kernel_rfl) (by kernel_rfl) ?_
                  repeat (quiet_step (first | (go_at_call 50; exact quiet_ext ((hif _).mono (fun e w' h => ⟨h.1, Below.of_eq h.2⟩))) | (go_at_call 52; exact quiet_ext ((hct _).mono (fun e w' h => ⟨h.1, Below.of_eq h.2⟩)))))
                  refine wpQuiet_nil ?_
                  intro _ hw'
                  obtain ⟨t, rfl⟩ := hw'
                  go_wp2
                  go_ret
                  exact ⟨ret70 HR.out, hbr.trans (t.below.mono hbr.size)⟩
                · rw [hri] at hki1
                  simp only [hri] at hct
                  have HR := hid (show (List.range (k + 1)).all (keepI X) = true by rw [all_range_succ, HA.out, hki1]; rfl)
                  clear hki1 hfk hri
                  refine wp_region_ext_lit (by kernel_rfl) (by kernel_rfl) ?_
                  repeat (quiet_step (first | (go_at_call 50; exact quiet_ext ((hif _).mono (fun e w' h => ⟨h.1, Below.of_eq h.2⟩))) | (go_at_call 52; exact quiet_ext ((hct _).mono (fun e w' h => ⟨h.1, Below.of_eq h.2⟩)))))
                  refine wpQuiet_nil ?_
                  intro _ hw'
                  obtain ⟨t, rfl⟩ := hw'
                  have hb14 := hb13.trans (t.below.mono hb13.size)
                  go_wp2
                  go_roundw
                  case rel => exact ⟨k + 1, by omega, by simp, HR, hb14⟩
                  case measure => simp [intOf]; omega
            · have hkn : k = nk := by omega
              have hbA := HA.out
              rw [hkn, HNK.out] at hbA
              have HV := hid (hall hbA)
              have hkI : ¬ (k : Int) < (X.ks.length : Int) := by rw [← HNK.out]; omega
              have hbr := hb.trans (hb1.mono hb.size)
              replace x0 := x0.below hb1
              have c0 := x0.cell 0 rfl; have c1 := x0.cell 1 rfl; have c2 := x0.cell 2 rfl; have c3 := x0.cell 3 rfl; have c4 := x0.cell 4 rfl
              clear hall hbA HA hkn hgr hkx hki
              go_wp2
              go_ret
              exact ⟨ret0 HV.out, hbr⟩
end Go.Proofs.Ytipdohpbilabiaa
