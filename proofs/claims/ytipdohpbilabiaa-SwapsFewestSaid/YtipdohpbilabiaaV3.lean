import Derived.Test.YtipdohpbilabiaaV2
/-! Whether a visit is valid. -/
namespace Go.Proofs.Ytipdohpbilabiaa
set_option linter.unusedSimpArgs false
set_option linter.unusedVariables false
open Go Go.RowKit

theorem vB_box {X : Sw} {k : Nat} (hk : k < X.bs.length) (h : boxI X k = false) : vB X = false := by
  unfold vB; rw [all_range_no _ hk h]; simp
theorem vB_keep {X : Sw} {k : Nat} (hk : k < X.ks.length) (h : keepI X k = false) : vB X = false := by
  unfold vB; rw [all_range_no _ hk h]; simp

set_option maxRecDepth 100000 in
set_option maxHeartbeats 1000000 in
theorem valid_far (ab ast ae ak : Option Addr) (cb cs ce ck : Nat) (X : Sw) (w : World) (hX : Swp w ab ast ae ak X) (h : ¬ (X.bs.length ≤ 3 ∧ X.st.length ≤ 6 ∧ X.ks.length ≤ 4)) : Calls Try.prog 49 #[.agg #[.slice ab X.bs.length cb, .slice ast X.st.length cs, .slice ae X.er.length ce, .slice ak X.ks.length ck, .int .i64 X.ch]] w fun e w' => e = .returned (.bool (vB X)) ∧ Below w.heap.size w w' := by
  have hv : vB X = false := by
    unfold vB
    by_cases h1 : X.bs.length ≤ 3
    · by_cases h2 : X.st.length ≤ 6
      · have h3 : ¬ X.ks.length ≤ 4 := fun h3 => h ⟨h1, h2, h3⟩
        rw [decide_eq_false h3]; simp
      · rw [decide_eq_false h2]; simp
    · rw [decide_eq_false h1]; simp
  rw [hv]
  obtain ⟨W, hW, hb, _, x0⟩ := boxes1 w #[.slice ab X.bs.length cb, .slice ast X.st.length cs, .slice ae X.er.length ce, .slice ak X.ks.length ck, .int .i64 X.ch] 26
  have c0 := x0.cell 0 rfl; have c1 := x0.cell 1 rfl; have c2 := x0.cell 2 rfl; have c3 := x0.cell 3 rfl; have c4 := x0.cell 4 rfl
  by_cases h1 : X.bs.length ≤ 3
  · have h1I : (X.bs.length : Int) ≤ 3 := by omega
    by_cases h2 : X.st.length ≤ 6
    · have h2I : (X.st.length : Int) ≤ 6 := by omega
      have h3I : (4 : Int) < (X.ks.length : Int) := by
        have : ¬ X.ks.length ≤ 4 := fun h3 => h ⟨h1, h2, h3⟩
        omega
      clear h h1 h2 hv hX
      go_enter Try.func49, Try.ntmps49
      go_wp2
      go_ret
      exact ⟨rfl, hb⟩
    · have h2I : (6 : Int) < (X.st.length : Int) := by omega
      clear h h1 h2 hv hX
      go_enter Try.func49, Try.ntmps49
      go_wp2
      go_ret
      exact ⟨rfl, hb⟩
  · have h1I : (3 : Int) < (X.bs.length : Int) := by omega
    clear h h1 hv hX
    go_enter Try.func49, Try.ntmps49
    go_wp2
    go_ret
    exact ⟨rfl, hb⟩

set_option maxRecDepth 100000 in
set_option maxHeartbeats 6000000 in
theorem valid_any (ab ast ae ak : Option Addr) (cb cs ce ck : Nat) (X : Sw) (w : World) (hX : Swp w ab ast ae ak X) : Calls Try.prog 49 #[.agg #[.slice ab X.bs.length cb, .slice ast X.st.length cs, .slice ae X.er.length ce, .slice ak X.ks.length ck, .int .i64 X.ch]] w fun e w' => e = .returned (.bool (vB X)) ∧ Below w.heap.size w w' := by
  by_cases h : ¬ (X.bs.length ≤ 3 ∧ X.st.length ≤ 6 ∧ X.ks.length ≤ 4)
  · exact valid_far ab ast ae ak cb cs ce ck X w hX h
  obtain ⟨h1, h2, h3⟩ := Classical.not_not.1 h
  clear h
  have h1I : (X.bs.length : Int) ≤ 3 := by omega
  have h2I : (X.st.length : Int) ≤ 6 := by omega
  have h3I : (X.ks.length : Int) ≤ 4 := by omega
  have hbx := fun k (hk : k < X.bs.length) h => vB_box (X := X) hk h
  have hkx := fun k (hk : k < X.ks.length) h => vB_keep (X := X) hk h
  have hall : (List.range X.bs.length).all (boxI X) = true → (List.range X.ks.length).all (keepI X) = true → vB X = (upB 9 X.st && eaB X && inI 0 X.ch 3) := fun e1 e2 => by
    unfold vB; rw [e1, e2, decide_eq_true h1, decide_eq_true h2, decide_eq_true h3]; simp
  have hbi : ∀ k, boxI X k = (decide ((X.bs.getD k []).length ≤ 3) && risB (ntI X) (X.bs.getD k [])) := fun k => rfl
  have hki : ∀ k, keepI X k = (inI 0 (X.ks.getD k (0, 0)).1 ((X.bs.length : Int) - 1) && inL (X.ks.getD k (0, 0)).2 (X.bs.getD (X.ks.getD k (0, 0)).1.toNat [])) := fun k => rfl
  obtain ⟨v, hv⟩ : ∃ v, v = vB X := ⟨_, rfl⟩
  rw [← hv] at hbx hkx hall ⊢
  have hat := fun a c l W hI => areTitles_any ab ast ae ak cb cs ce ck X a c l W (by omega) hI
  have hhe := fun W h => hasEarnings_any ab ast ae ak cb cs ce ck X W h
  obtain ⟨W, hW, hb, _, x0⟩ := boxes1 w #[.slice ab X.bs.length cb, .slice ast X.st.length cs, .slice ae X.er.length ce, .slice ak X.ks.length ck, .int .i64 X.ch] 26
  have c0 := x0.cell 0 rfl; have c1 := x0.cell 1 rfl; have c2 := x0.cell 2 rfl; have c3 := x0.cell 3 rfl; have c4 := x0.cell 4 rfl
  clear hv h1 h2 h3
  go_enter Try.func49, Try.ntmps49
  go_wp2
  clear hW c0 c1 c2 c3 c4
  obtain ⟨nb, hnb⟩ : ∃ n, n = X.bs.length := ⟨_, rfl⟩
  have HNB := hid hnb
  have hgb : ∀ W', Below W.heap.size W W' → Swp W' ab ast ae ak X := fun W' h => (hX.below hb (Nat.le_refl _)).below h (Nat.le_refl _)
  clear hX hnb
  go_loopw [4, 26] (fun v4 v26 wr => ∃ k : Nat, k ≤ nb ∧ v26 = .int .i64 (k : Int) ∧ Hid ((List.range k).all (boxI X) = true) ∧ Below W.heap.size W wr) (fun _ v26 _ => nb - (intOf v26).toNat)
  case atStart => exact ⟨0, Nat.zero_le _, rfl, hid rfl, Below.refl _ _⟩
  case round =>
    obtain ⟨k, hk, rfl, HA, hb1⟩ := hrel
    by_cases hlt : k < nb
    · have hXr := hgb _ hb1
      obtain ⟨b, off, a', c', rfl, hbl, hc, hi⟩ := hXr.1.at (k := k) (by rw [← HNB.out]; exact hlt)
      have hkI : (k : Int) < (X.bs.length : Int) := by rw [← HNB.out]; omega
      have hk0 : (0 : Int) ≤ (k : Int) := by omega
      have hbk := hbi k
      have hfk := hbx k (by rw [← HNB.out]; exact hlt)
      have hup := fun W' hI => hat a' c' (X.bs.getD k []) W' hI
      have hln := hi.len
      replace x0 := x0.below hb1
      have c0 := x0.cell 0 rfl; have c1 := x0.cell 1 rfl; have c2 := x0.cell 2 rfl; have c3 := x0.cell 3 rfl; have c4 := x0.cell 4 rfl
      have hbr := hb.trans (hb1.mono hb.size)
      obtain ⟨L, hL⟩ : ∃ L, L = X.bs.getD k [] := ⟨_, rfl⟩
      rw [← hL] at hbk hup hc hi hln
      obtain ⟨m, hm⟩ : ∃ m, m = L.length := ⟨_, rfl⟩
      rw [← hm] at hbk hup hc hln
      by_cases hm3 : m ≤ 3
      · have hmI : (m : Int) ≤ 3 := by omega
        rw [decide_eq_true hm3, Bool.true_and] at hbk
        have hup1 := hup _ hi
        clear hm3 hm hL hi hup hat hhe hki hkx
        cases hr : risB (ntI X) L
        · rw [hr] at hbk hup1
          have HR := hid (hfk hbk)
          clear hbk hr hfk hbx hall hbi
          go_wp2_with fail
          refine hup1.mono ?_
          rintro e W1 ⟨rfl, hb2⟩
          clear c0 c1 c2 c3 c4 x0
          replace hbr := hbr.trans (hb2.mono hbr.size)
          go_wp2
          go_ret
          exact ⟨ret_bool (by rw [HR.out]), hbr⟩
        · rw [hr] at hbk hup1
          have HR := hid (show (List.range (k + 1)).all (boxI X) = true by rw [all_range_succ, HA.out, hbk]; rfl)
          clear hbk hr hfk hbx hall hbi
          go_wp2_with fail
          refine hup1.mono ?_
          rintro e W1 ⟨rfl, hb2⟩
          have hb12 := hb1.trans (hb2.mono hb1.size)
          clear c0 c1 c2 c3 c4 x0
          go_wp2
          go_roundw
          case rel => exact ⟨k + 1, by omega, by simp, HR, hb12⟩
          case measure => simp [intOf]; omega
      · have hmI : (3 : Int) < (m : Int) := by omega
        rw [decide_eq_false hm3, Bool.false_and] at hbk
        have HR := hid (hfk hbk)
        clear hm3 hm hL hi hup hat hhe hki hkx hbk hfk hbx hall hbi
        go_wp2
        go_ret
        exact ⟨ret_bool (by rw [HR.out]), hbr⟩
    · have hkn : k = nb := by omega
      have hbA := HA.out
      rw [hkn, HNB.out] at hbA
      have hall2 := hall hbA
      clear hall hbA hbx hbi hat
      have hkI : ¬ (k : Int) < (X.bs.length : Int) := by rw [← HNB.out]; omega
      replace x0 := x0.below hb1
      have c0 := x0.cell 0 rfl; have c1 := x0.cell 1 rfl; have c2 := x0.cell 2 rfl; have c3 := x0.cell 3 rfl; have c4 := x0.cell 4 rfl
      clear HA hkn
      go_wp2
      clear c0 c1 c2 c3 c4
      have hgr : ∀ W', Below wr.heap.size wr W' → Swp W' ab ast ae ak X := fun W' h => hgb W' (hb1.trans (h.mono hb1.size))
      replace hb := hb.trans (hb1.mono hb.size)
      clear hgb hb1 hk hlt hkI
      obtain ⟨nk, hnk⟩ : ∃ n, n = X.ks.length := ⟨_, rfl⟩
      have HNK := hid hnk
      clear hnk
      obtain ⟨wo, rfl⟩ : ∃ wo : World, wo = wr := ⟨_, rfl⟩
      go_loopw [6, 43] (fun v6 v43 w2 => ∃ k : Nat, k ≤ nk ∧ v43 = .int .i64 (k : Int) ∧ Hid ((List.range k).all (keepI X) = true) ∧ Below wo.heap.size wo w2) (fun _ v43 _ => nk - (intOf v43).toNat)
      case atStart => exact ⟨0, Nat.zero_le _, rfl, hid rfl, Below.refl _ _⟩
      case round =>
        obtain ⟨k, hk, rfl, HA, hb1⟩ := hrel
        by_cases hlt : k < nk
        · have hXr := hgr _ hb1
          obtain ⟨b, off, kb, kt, rfl, hbl, hc, hd, hk1, hk2, hg, _⟩ := hXr.2.2.2.at (k := k) (by rw [← HNK.out]; exact hlt)
          have hkI : (k : Int) < (X.ks.length : Int) := by rw [← HNK.out]; omega
          have hk0 : (0 : Int) ≤ (k : Int) := by omega
          have hgk : X.ks.getD k (0, 0) = (kb, kt) := by rw [List.getD_eq_getElem?_getD, hg.out]; rfl
          have hki1 := hki k
          rw [hgk] at hki1
          have hfk := hkx k (by rw [← HNK.out]; exact hlt)
          have hX3 := hgr (wr.alloc (.cells #[.int .i64 kb, .int .i64 kt] 55)) (hb1.trans ((below_one _).mono hb1.size))
          have hbr := (hb.trans (hb1.mono hb.size)).trans ((below_one (w := wr) (.cells #[.int .i64 kb, .int .i64 kt] 55)).mono (by have := hb.size; have := hb1.size; omega))
          have hb13 := hb1.trans ((below_one (w := wr) (.cells #[.int .i64 kb, .int .i64 kt] 55)).mono hb1.size)
          have x03 := (x0.below hb1).alloc (.cells #[.int .i64 kb, .int .i64 kt] 55)
          have x6 := Bx.new wr #[.int .i64 kb, .int .i64 kt] 55
          clear hXr hgk hg hki hkx hall2 hhe hgr x0
          have ew : IntKind.i64.wrap ((X.bs.length : Int) - 1) = (X.bs.length : Int) - 1 := IntWalk.i64_in _ (by omega)
          go_upto_region 12 with fail
          obtain ⟨b6, hb6⟩ : ∃ b, b = wr.heap.size := ⟨_, rfl⟩
          obtain ⟨W3, hW3⟩ : ∃ W, W = wr.alloc (.cells #[.int .i64 kb, .int .i64 kt] 55) := ⟨_, rfl⟩
          rw [← hb6] at x6 ⊢
          rw [← hW3] at x03 x6 hX3 hbr hb13 ⊢
          clear hb6 hW3 hc hd hb1
          have hif := fun v => isFrom_any 0 kb ((X.bs.length : Int) - 1) v
          cases hr : inI 0 kb ((X.bs.length : Int) - 1)
          · rw [hr, Bool.false_and] at hki1
            have HR := hid (hfk hki1)
            simp only [hr] at hif
            clear hki1 hfk hr hX3
            refine wp_region_head 19 (fun w' => Bx w' w.heap.size #[.slice ab X.bs.length cb, .slice ast X.st.length cs, .slice ae X.er.length ce, .slice (some ⟨b, off, none⟩) X.ks.length ck, .int .i64 X.ch] 26 ∧ Bx w' b6 #[.int .i64 kb, .int .i64 kt] 55) (by kernel_rfl) rfl ?_
            have hbd := (Below.refl W3.heap.size W3).drew
            have S0 := And.intro (x03.below hbd) (x6.below hbd)
            replace hbr := hbr.trans (hbd.mono hbr.size)
            clear hbd x03 x6 hb13
            generalize W3.drew = Y0 at *
            refine HeadAt.take (i := 0) (.pointer (some ⟨b6, 0, none⟩)) rfl (by kernel_rfl) (.inl ⟨rfl, fun _ _ => by simp [go_sem]⟩) S0 ?_
            (try simp only [Act.put, List.getElem_toArray, List.getElem_cons_succ, List.getElem_cons_zero, List.setIfInBounds_toArray, List.set_cons_succ, List.set_cons_zero])
            refine HeadAt.take (i := 1) (.int .i64 kb) rfl (by kernel_rfl) (.inl ⟨rfl, fun w' z => ?_⟩) S0 ?_
            · (have z0 := z.2.cell 0 rfl; simp [go_sem, z0])
            refine HeadAt.take (i := 2) (.pointer (some ⟨w.heap.size, 0, none⟩)) rfl (by kernel_rfl) (.inl ⟨rfl, fun _ _ => by simp [go_sem]⟩) S0 ?_
            (try simp only [Act.put, List.getElem_toArray, List.getElem_cons_succ, List.getElem_cons_zero, List.setIfInBounds_toArray, List.set_cons_succ, List.set_cons_zero])
            refine HeadAt.take (i := 3) (.slice ab X.bs.length cb) rfl (by kernel_rfl) (.inl ⟨rfl, fun w' z => ?_⟩) S0 ?_
            · (have z0 := z.1.cell 0 rfl; simp [go_sem, z0])
            (try simp only [Act.put, List.getElem_toArray, List.getElem_cons_succ, List.getElem_cons_zero, List.setIfInBounds_toArray, List.set_cons_succ, List.set_cons_zero])
            refine HeadAt.take (i := 4) (.int .i64 (X.bs.length : Int)) rfl (by kernel_rfl) (.inl ⟨rfl, fun w' z => ?_⟩) S0 ?_
            · (simp [go_sem])
            (try simp only [Act.put, List.getElem_toArray, List.getElem_cons_succ, List.getElem_cons_zero, List.setIfInBounds_toArray, List.set_cons_succ, List.set_cons_zero])
            refine HeadAt.take (i := 5) (.int .i64 ((X.bs.length : Int) - 1)) rfl (by kernel_rfl) (.inl ⟨rfl, fun w' z => ?_⟩) S0 ?_
            · (simp [go_sem, ew])
            (try simp only [Act.put, List.getElem_toArray, List.getElem_cons_succ, List.getElem_cons_zero, List.setIfInBounds_toArray, List.set_cons_succ, List.set_cons_zero])
            refine HeadAt.one (i := 6) rfl (by kernel_rfl) ?_
            generalize hK : Upto _ _ = K0
            (try simp only [Act.put, List.getElem_toArray, List.getElem_cons_succ, List.getElem_cons_zero, List.setIfInBounds_toArray, List.set_cons_succ, List.set_cons_zero])
            go_wp2_with fail
            refine (hif _).mono ?_
            rintro e V1 ⟨rfl, rfl⟩
            go_wp2_with fail
            subst hK
            refine ⟨S0, ?_⟩
            (try simp only [Act.put, List.getElem_toArray, List.getElem_cons_succ, List.getElem_cons_zero, List.setIfInBounds_toArray, List.set_cons_succ, List.set_cons_zero])
            refine HeadAt.take (i := 7) (.bool true) rfl (by kernel_rfl) (.inl ⟨rfl, fun _ _ => by simp [go_sem]⟩) S0 ?_
            (try simp only [Act.put, List.getElem_toArray, List.getElem_cons_succ, List.getElem_cons_zero, List.setIfInBounds_toArray, List.set_cons_succ, List.set_cons_zero])
            refine HeadAt.take (i := 8) (.bool true) rfl (by kernel_rfl) (.inl ⟨rfl, fun _ _ => by simp [go_sem]⟩) S0 ?_
            (try simp only [Act.put, List.getElem_toArray, List.getElem_cons_succ, List.getElem_cons_zero, List.setIfInBounds_toArray, List.set_cons_succ, List.set_cons_zero])
            refine HeadAt.take (i := 9) undef rfl (by kernel_rfl) (.inr ⟨by kernel_rfl, rfl⟩) S0 ?_
            (try simp only [Act.put, List.getElem_toArray, List.getElem_cons_succ, List.getElem_cons_zero, List.setIfInBounds_toArray, List.set_cons_succ, List.set_cons_zero])
            refine HeadAt.take (i := 10) undef rfl (by kernel_rfl) (.inr ⟨by kernel_rfl, rfl⟩) S0 ?_
            (try simp only [Act.put, List.getElem_toArray, List.getElem_cons_succ, List.getElem_cons_zero, List.setIfInBounds_toArray, List.set_cons_succ, List.set_cons_zero])
            refine HeadAt.take (i := 11) undef rfl (by kernel_rfl) (.inr ⟨by kernel_rfl, rfl⟩) S0 ?_
            (try simp only [Act.put, List.getElem_toArray, List.getElem_cons_succ, List.getElem_cons_zero, List.setIfInBounds_toArray, List.set_cons_succ, List.set_cons_zero])
            refine HeadAt.take (i := 12) undef rfl (by kernel_rfl) (.inr ⟨by kernel_rfl, rfl⟩) S0 ?_
            (try simp only [Act.put, List.getElem_toArray, List.getElem_cons_succ, List.getElem_cons_zero, List.setIfInBounds_toArray, List.set_cons_succ, List.set_cons_zero])
            refine HeadAt.take (i := 13) undef rfl (by kernel_rfl) (.inr ⟨by kernel_rfl, rfl⟩) S0 ?_
            (try simp only [Act.put, List.getElem_toArray, List.getElem_cons_succ, List.getElem_cons_zero, List.setIfInBounds_toArray, List.set_cons_succ, List.set_cons_zero])
            refine HeadAt.take (i := 14) undef rfl (by kernel_rfl) (.inr ⟨by kernel_rfl, rfl⟩) S0 ?_
            (try simp only [Act.put, List.getElem_toArray, List.getElem_cons_succ, List.getElem_cons_zero, List.setIfInBounds_toArray, List.set_cons_succ, List.set_cons_zero])
            refine HeadAt.take (i := 15) undef rfl (by kernel_rfl) (.inr ⟨by kernel_rfl, rfl⟩) S0 ?_
            (try simp only [Act.put, List.getElem_toArray, List.getElem_cons_succ, List.getElem_cons_zero, List.setIfInBounds_toArray, List.set_cons_succ, List.set_cons_zero])
            refine HeadAt.take (i := 16) undef rfl (by kernel_rfl) (.inr ⟨by kernel_rfl, rfl⟩) S0 ?_
            (try simp only [Act.put, List.getElem_toArray, List.getElem_cons_succ, List.getElem_cons_zero, List.setIfInBounds_toArray, List.set_cons_succ, List.set_cons_zero])
            refine HeadAt.take (i := 17) undef rfl (by kernel_rfl) (.inr ⟨by kernel_rfl, rfl⟩) S0 ?_
            (try simp only [Act.put, List.getElem_toArray, List.getElem_cons_succ, List.getElem_cons_zero, List.setIfInBounds_toArray, List.set_cons_succ, List.set_cons_zero])
            refine HeadAt.take (i := 18) undef rfl (by kernel_rfl) (.inr ⟨by kernel_rfl, rfl⟩) S0 ?_
            (try simp only [Act.put, List.getElem_toArray, List.getElem_cons_succ, List.getElem_cons_zero, List.setIfInBounds_toArray, List.set_cons_succ, List.set_cons_zero])
            
            refine HeadAt.done (by kernel_rfl) ?_
            (try simp only [Act.put, List.drop_succ_cons, List.drop_zero, List.getElem_toArray, List.getElem_cons_succ, List.getElem_cons_zero])
            go_wp2_with fail
            refine NoPanic.normal ?_
            go_wp2
            go_ret
            exact ⟨ret_bool (by rw [HR.out]), hbr⟩
          · rw [hr, Bool.true_and] at hki1
            simp only [hr] at hif
            unfold inI at hr
            simp only [Bool.and_eq_true, decide_eq_true_eq] at hr
            obtain ⟨j, rfl⟩ := Int.eq_ofNat_of_zero_le hr.1
            have hjn : j < X.bs.length := by omega
            obtain ⟨bb, ob, a', c', rfl, hbb, hcb, hi⟩ := hX3.1.at (k := j) hjn
            rw [Int.toNat_natCast] at hki1
            have hct := fun (t : Ext W3) => contains_any a' c' _ kt t.w (hi.below t.below (Nat.le_refl _))
            obtain ⟨L, hL⟩ : ∃ L, L = X.bs.getD j [] := ⟨_, rfl⟩
            rw [← hL] at hki1 hct hcb
            obtain ⟨m, hm⟩ : ∃ m, m = L.length := ⟨_, rfl⟩
            rw [← hm] at hct hcb
            have hjI : (j : Int) < (X.bs.length : Int) := by omega
            have hj0 : (0 : Int) ≤ (j : Int) := by omega
            have u0 := Ext.cell hcb
            have u1 := x03.ext 0 rfl
            have v0 := x6.ext 0 rfl; have v1 := x6.ext 1 rfl
            clear hm hL hi hX3 hr hjn
            cases hri : inL kt L
            · rw [hri] at hki1
              simp only [hri] at hct
              have HR := hid (hfk hki1)
              clear hki1 hfk hri
              refine wp_region_ext_lit (by kernel_rfl) (by kernel_rfl) ?_
              repeat (quiet_step (first | (go_at_call 70; exact quiet_ext ((hif _).mono (fun e w' h => ⟨h.1, Below.of_eq h.2⟩))) | (go_at_call 76; exact quiet_ext ((hct _).mono (fun e w' h => ⟨h.1, Below.of_eq h.2⟩)))))
              refine wpQuiet_nil ?_
              intro _ hw'
              obtain ⟨t, rfl⟩ := hw'
              go_wp2
              go_ret
              exact ⟨ret_bool (by rw [HR.out]), hbr.trans (t.below.mono hbr.size)⟩
            · rw [hri] at hki1
              simp only [hri] at hct
              have HR := hid (show (List.range (k + 1)).all (keepI X) = true by rw [all_range_succ, HA.out, hki1]; rfl)
              clear hki1 hfk hri
              refine wp_region_ext_lit (by kernel_rfl) (by kernel_rfl) ?_
              repeat (quiet_step (first | (go_at_call 70; exact quiet_ext ((hif _).mono (fun e w' h => ⟨h.1, Below.of_eq h.2⟩))) | (go_at_call 76; exact quiet_ext ((hct _).mono (fun e w' h => ⟨h.1, Below.of_eq h.2⟩)))))
              refine wpQuiet_nil ?_
              intro _ hw'
              obtain ⟨t, rfl⟩ := hw'
              have hb14 := hb13.trans (t.below.mono hb13.size)
              go_wp2
              go_roundw
              case rel => exact ⟨k + 1, by omega, by simp, HR, hb14⟩
              case measure => simp [intOf]; omega
        · have hkn : k = nk := by omega
          have hbA := HA.out
          rw [hkn, HNK.out] at hbA
          have hv := hall2 hbA
          have hXr := hgr _ hb1
          have hkI : ¬ (k : Int) < (X.ks.length : Int) := by rw [← HNK.out]; omega
          have hbr := hb.trans (hb1.mono hb.size)
          have hup := areUpTo_any 9 ast cs X.st wr hXr.2.1
          have hhe1 := hhe _ hXr
          replace x0 := x0.below hb1
          have c0 := x0.cell 0 rfl; have c1 := x0.cell 1 rfl; have c2 := x0.cell 2 rfl; have c3 := x0.cell 3 rfl; have c4 := x0.cell 4 rfl
          clear hall2 hbA HA hkn hgr hkx hki hhe hXr
          cases hr1 : upB 9 X.st
          · rw [hr1] at hv hup
            simp only [Bool.false_and] at hv
            have HV := hid hv
            clear hv hr1
            go_wp2_with fail
            refine hup.mono ?_
            rintro e W1 ⟨rfl, rfl⟩
            go_wp2
            go_ret
            exact ⟨ret_bool (by rw [HV.out]), hbr⟩
          · rw [hr1] at hv hup
            cases hr2 : eaB X
            · rw [hr2] at hv hhe1
              simp only [Bool.true_and, Bool.false_and] at hv
              have HV := hid hv
              clear hv hr1 hr2
              go_wp2_with fail
              refine hup.mono ?_
              rintro e W1 ⟨rfl, rfl⟩
              go_wp2_with fail
              refine hhe1.mono ?_
              rintro e W1 ⟨rfl, hb2⟩
              replace hbr := hbr.trans (hb2.mono hbr.size)
              clear c0 c1 c2 c3 c4 x0
              go_wp2
              go_ret
              exact ⟨ret_bool (by rw [HV.out]), hbr⟩
            · rw [hr2] at hv hhe1
              simp only [Bool.true_and] at hv
              have HV := hid hv
              clear hv hr1 hr2
              go_wp2_with fail
              refine hup.mono ?_
              rintro e W1 ⟨rfl, rfl⟩
              go_wp2_with fail
              refine hhe1.mono ?_
              rintro e W1 ⟨rfl, hb2⟩
              replace hbr := hbr.trans (hb2.mono hbr.size)
              clear c0 c1 c2 c3 c4
              replace x0 := x0.below hb2
              have hif := isFrom_any 0 X.ch 3 W1
              have c0 := x0.cell 0 rfl; have c1 := x0.cell 1 rfl; have c2 := x0.cell 2 rfl; have c3 := x0.cell 3 rfl; have c4 := x0.cell 4 rfl
              go_wp2_with fail
              refine hif.mono ?_
              rintro e W4 ⟨rfl, rfl⟩
              go_wp2
              go_ret
              exact ⟨ret_bool (by rw [HV.out]), hbr⟩
end Go.Proofs.Ytipdohpbilabiaa
