import Derived.Test.YtipdohpbilabiaaM2
import Derived.Test.YtipdohpbilabiaaVK
/-! DoesFit of the reference. -/
namespace Go.Proofs.Ytipdohpbilabiaa
set_option linter.unusedSimpArgs false
set_option linter.unusedVariables false
open Go Go.RowKit

def df1 (X : Sw) (P : List (List Int)) (i : Nat) : Bool := decide ((coF (P.getD i []) (X.bs.getD i []) : Int) ≤ X.ch)
def df2 (X : Sw) (P : List (List Int)) (i : Nat) : Bool := inL (X.ks.getD i (0, 0)).2 (P.getD (X.ks.getD i (0, 0)).1.toNat [])
def df3 (X : Sw) (P : List (List Int)) (i : Nat) : Bool := decide ((cnF P (i : Int) : Int) ≤ X.st.getD i 0 + (cnF X.bs (i : Int) : Int))
/-- Whether a plan fits. -/
def dfB (X : Sw) (P : List (List Int)) : Bool := (List.range P.length).all (df1 X P) && (List.range X.ks.length).all (df2 X P) && (List.range X.st.length).all (df3 X P)
set_option maxRecDepth 100000 in
set_option maxHeartbeats 6000000 in
theorem DoesFit_any (ab ast ae ak : Option Addr) (cb cs ce ck : Nat) (X : Sw) (hok : XOk X) (ap : Option Addr) (cp : Nat) (P : List (List Int)) (hPl : P.length = X.bs.length) (w : World) (hX : Swp w ab ast ae ak X) (hL : Lss w ap P) : Calls Try.prog 36 #[.agg #[.slice ab X.bs.length cb, .slice ast X.st.length cs, .slice ae X.er.length ce, .slice ak X.ks.length ck, .int .i64 X.ch], .slice ap P.length cp] w fun e w' => e = .returned (.bool (dfB X P)) ∧ Below w.heap.size w w' := by
  obtain ⟨W, hW, hb, _, x0⟩ := boxes1 w #[.slice ab X.bs.length cb, .slice ast X.st.length cs, .slice ae X.er.length ce, .slice ak X.ks.length ck, .int .i64 X.ch] 26
  have hn3 : P.length ≤ 3 := by rw [hPl]; exact hok.nb3
  have hk4 := hok.k4
  have ht6 := hok.t6
  have HKM := hid hok.kmem
  have HS9 := hid hok.st9
  have hd1 : ∀ k, k < P.length → df1 X P k = false → dfB X P = false := fun k hk h => by unfold dfB; rw [all_range_no _ hk h]; rfl
  have hd2 : ∀ k, k < X.ks.length → df2 X P k = false → dfB X P = false := fun k hk h => by unfold dfB; rw [all_range_no _ hk h]; simp
  have hd3 : ∀ k, k < X.st.length → df3 X P k = false → dfB X P = false := fun k hk h => by unfold dfB; rw [all_range_no _ hk h]; simp
  have hall : (List.range P.length).all (df1 X P) = true → (List.range X.ks.length).all (df2 X P) = true → (List.range X.st.length).all (df3 X P) = true → dfB X P = true := fun e1 e2 e3 => by unfold dfB; rw [e1, e2, e3]; rfl
  have hi1 : ∀ i, df1 X P i = decide ((coF (P.getD i []) (X.bs.getD i []) : Int) ≤ X.ch) := fun i => rfl
  have hi2 : ∀ i, df2 X P i = inL (X.ks.getD i (0, 0)).2 (P.getD (X.ks.getD i (0, 0)).1.toNat []) := fun i => rfl
  have hi3 : ∀ i, df3 X P i = decide ((cnF P (i : Int) : Int) ≤ X.st.getD i 0 + (cnF X.bs (i : Int) : Int)) := fun i => rfl
  have hcb : ∀ t, cnF X.bs t ≤ 3 := fun t => Nat.le_trans (cnF_le _ _) hok.nb3
  obtain ⟨v, hv⟩ : ∃ v, v = dfB X P := ⟨_, rfl⟩
  rw [← hv] at hd1 hd2 hd3 hall ⊢
  have hgX : ∀ W', Below W.heap.size W W' → Swp W' ab ast ae ak X := fun W' h => (hX.below hb (Nat.le_refl _)).below h (Nat.le_refl _)
  have hgL : ∀ W', Below W.heap.size W W' → Lss W' ap P := fun W' h => (hL.below hb (Nat.le_refl _)).below h (Nat.le_refl _)
  have HPL := hid hPl
  clear hX hL hPl hv hok
  obtain ⟨n, hn⟩ : ∃ n, n = P.length := ⟨_, rfl⟩
  rw [← hn] at hn3 hd1 hall ⊢
  have HN := hid hn
  clear hn
  have H2 := hid (And.intro hd2 hi2)
  have H3 := hid (And.intro hd3 (And.intro hi3 hcb))
  clear hd2 hi2 hd3 hi3 hcb
  have c0 := x0.cell 0 rfl; have c1 := x0.cell 1 rfl; have c2 := x0.cell 2 rfl; have c3 := x0.cell 3 rfl; have c4 := x0.cell 4 rfl
  go_enter Try.func36, Try.ntmps36
  go_wp2
  clear hW c0 c1 c2 c3 c4
  go_loopw [4, 5] (fun v4 v5 wr => ∃ j : Nat, j ≤ n ∧ v5 = .int .i64 (j : Int) ∧ Hid ((List.range j).all (df1 X P) = true) ∧ Below W.heap.size W wr) (fun _ v5 _ => n - (intOf v5).toNat)
  case atStart => exact ⟨0, Nat.zero_le _, rfl, hid rfl, Below.refl _ _⟩
  case round =>
    obtain ⟨j, hj, rfl, HA, hb1⟩ := hrel
    by_cases hlt : j < n
    · have hbr := hb.trans (hb1.mono hb.size)
      have hjb : j < X.bs.length := by rw [← HPL.out, ← HN.out]; exact hlt
      obtain ⟨b, off, a', c', hap, hbl, hc, hI⟩ := (hgL _ hb1).at (k := j) (by rw [← HN.out]; exact hlt)
      subst hap
      obtain ⟨b2, off2, a2, c2, hab, hbl2, hc2, hI2⟩ := (hgX _ hb1).1.at (k := j) hjb
      subst hab
      replace x0 := x0.below hb1
      have hjI : (j : Int) < n := by omega
      have hjB : (j : Int) < (X.bs.length : Int) := by omega
      have hj0 : (0 : Int) ≤ (j : Int) := by omega
      have hij := hi1 j
      have hdj := hd1 j hlt
      have hco := fun (t : Ext wr) => ChangesOf_any a2 a' c2 c' _ _ t.w (hI2.below t.below (Nat.le_refl _)) (hI.below t.below (Nat.le_refl _))
      generalize coF (P.getD j []) (X.bs.getD j []) = s at *
      generalize (X.bs.getD j []).length = m2 at *
      generalize (P.getD j []).length = m at *
      have e1 := x0.ext 0 rfl
      have e2 := x0.ext 4 rfl
      have f1 := fun t => Ext.cell hc t
      have f2 := fun t => Ext.cell hc2 t
      clear hI hI2 hjb hbl hbl2 hgX hgL hi1 hd1 hall
      by_cases hsc : (s : Int) ≤ X.ch
      · rw [decide_eq_true hsc] at hij
        have HR := hid (show (List.range (j + 1)).all (df1 X P) = true by rw [all_range_succ, HA.out, hij]; rfl)
        clear hij hdj
        go_upto_region 4 with fail
        refine wp_region_ext_lit (by kernel_rfl) (by kernel_rfl) ?_
        repeat (quiet_step (first | (go_at_call 68; exact quiet_ext ((hco _).mono (fun e w' h => ⟨h.1, Below.of_eq h.2⟩)))))
        refine wpQuiet_nil ?_
        intro _ hw'
        obtain ⟨t, rfl⟩ := hw'
        have hb14 := hb1.trans (t.below.mono hb1.size)
        clear e1 e2 f1 f2 hc hc2 x0 hco
        go_wp2
        go_roundw
        case rel => exact ⟨j + 1, by omega, by simp, HR, hb14⟩
        case measure => simp [intOf]; omega
      · rw [decide_eq_false hsc] at hij
        have hsc' : X.ch < (s : Int) := by omega
        have HR := hid (hdj hij)
        clear hij hdj hsc
        go_upto_region 4 with fail
        refine wp_region_ext_lit (by kernel_rfl) (by kernel_rfl) ?_
        repeat (quiet_step (first | (go_at_call 68; exact quiet_ext ((hco _).mono (fun e w' h => ⟨h.1, Below.of_eq h.2⟩)))))
        refine wpQuiet_nil ?_
        intro _ hw'
        obtain ⟨t, rfl⟩ := hw'
        have hbr4 := hbr.trans (t.below.mono hbr.size)
        clear e1 e2 f1 f2 hc hc2 x0 hco
        go_wp2
        go_ret
        exact ⟨ret_bool (by rw [HR.out]), hbr4⟩
    · have hjn : j = n := by omega
      have hA := HA.out
      rw [hjn] at hA
      replace hall := hall hA
      have hjI : ¬ (j : Int) < n := by omega
      replace x0 := x0.below hb1
      clear hA HA hd1 hi1
      go_wp2
      have hgX2 : ∀ W', Below wr.heap.size wr W' → Swp W' ab ast ae ak X := fun W' h => hgX W' (hb1.trans (h.mono hb1.size))
      have hgL2 : ∀ W', Below wr.heap.size wr W' → Lss W' ap P := fun W' h => hgL W' (hb1.trans (h.mono hb1.size))
      replace hb := hb.trans (hb1.mono hb.size)
      clear hgX hgL hb1 hj hlt hjI hjn
      obtain ⟨nk, hnk⟩ : ∃ n, n = X.ks.length := ⟨_, rfl⟩
      have HNK := hid hnk
      clear hnk
      obtain ⟨wo, rfl⟩ : ∃ wo : World, wo = wr := ⟨_, rfl⟩
      go_loopw [4, 6] (fun v4 v6 wr => ∃ k : Nat, k ≤ nk ∧ v6 = .int .i64 (k : Int) ∧ Hid ((List.range k).all (df2 X P) = true) ∧ Below wo.heap.size wo wr) (fun _ v6 _ => nk - (intOf v6).toNat)
      case atStart => exact ⟨0, Nat.zero_le _, rfl, hid rfl, Below.refl _ _⟩
      case round =>
        obtain ⟨k, hk, rfl, HA, hb1⟩ := hrel
        by_cases hlt : k < nk
        · have hkl : k < X.ks.length := by rw [← HNK.out]; exact hlt
          have hXr := hgX2 _ hb1
          have hLr := hgL2 _ hb1
          obtain ⟨b, off, kb, kt, hak, hbl, hc, hd, hk1, hk2, hg, _⟩ := hXr.2.2.2.at (k := k) hkl
          subst hak
          have hkI : (k : Int) < (X.ks.length : Int) := by omega
          have hk0 : (0 : Int) ≤ (k : Int) := by omega
          have hgk : X.ks.getD k (0, 0) = (kb, kt) := by rw [List.getD_eq_getElem?_getD, hg.out]; rfl
          obtain ⟨q0, q1, _⟩ := HKM.out (kb, kt) (List.mem_of_getElem? hg.out)
          replace q0 : 0 ≤ kb := q0
          replace q1 : kb < (X.bs.length : Int) := q1
          obtain ⟨j, rfl⟩ := Int.eq_ofNat_of_zero_le q0
          have hjP : j < P.length := by rw [HPL.out]; omega
          have hjn : (j : Int) < (n : Int) := by have := HN.out; omega
          have hj0 : (0 : Int) ≤ (j : Int) := by omega
          obtain ⟨b2, off2, a2, c2, hap, hbl2, hc2, hI2⟩ := hLr.at (k := j) hjP
          subst hap
          have hik := H2.out.2 k
          rw [hgk] at hik
          replace hik : df2 X P k = inL kt (P.getD j []) := hik
          have hdk := H2.out.1 k hkl
          have hbr := hb.trans (hb1.mono hb.size)
          replace x0 := x0.below hb1
          have hin := fun (t : Ext wr) => in_any a2 c2 _ kt t.w (hI2.below t.below (Nat.le_refl _))
          obtain ⟨L, hLd⟩ : ∃ L, L = P.getD j [] := ⟨_, rfl⟩
          rw [← hLd] at hik hin hc2
          clear hLd hI2 hLr hXr hgk hg q0 q1 hjP hbl hbl2 hkl hgX2 hgL2
          obtain ⟨m, hm⟩ : ∃ m, m = L.length := ⟨_, rfl⟩
          rw [← hm] at hin hc2
          clear hm
          have c0 := x0.cell 0 rfl; have c1 := x0.cell 1 rfl; have c2 := x0.cell 2 rfl; have c3 := x0.cell 3 rfl; have c4 := x0.cell 4 rfl
          have e1 := x0.ext 3 rfl
          have f1 := fun t => Ext.cell hc t
          have f2 := fun t => Ext.cell hd t
          have f3 := fun t => Ext.cell hc2 t
          cases hr : inL kt L
          · rw [hr] at hik
            simp only [hr] at hin
            have HR := hid (hdk hik)
            clear hik hdk hr hall
            go_upto_region 9 with fail
            refine wp_region_ext_lit (by kernel_rfl) (by kernel_rfl) ?_
            repeat (quiet_step (first | (go_at_call 52; exact quiet_ext ((hin _).mono (fun e w' h => ⟨h.1, Below.of_eq h.2⟩)))))
            refine wpQuiet_nil ?_
            intro _ hw'
            obtain ⟨t, rfl⟩ := hw'
            have hbr4 := hbr.trans (t.below.mono hbr.size)
            clear e1 f1 f2 f3 hc hd hc2 x0 hin c0 c1 c2 c3 c4
            go_wp2
            go_ret
            exact ⟨ret_bool (by rw [HR.out]), hbr4⟩
          · rw [hr] at hik
            simp only [hr] at hin
            have HR := hid (show (List.range (k + 1)).all (df2 X P) = true by rw [all_range_succ, HA.out, hik]; rfl)
            clear hik hdk hr hall
            go_upto_region 9 with fail
            refine wp_region_ext_lit (by kernel_rfl) (by kernel_rfl) ?_
            repeat (quiet_step (first | (go_at_call 52; exact quiet_ext ((hin _).mono (fun e w' h => ⟨h.1, Below.of_eq h.2⟩)))))
            refine wpQuiet_nil ?_
            intro _ hw'
            obtain ⟨t, rfl⟩ := hw'
            have hb14 := hb1.trans (t.below.mono hb1.size)
            clear e1 f1 f2 f3 hc hd hc2 x0 hin c0 c1 c2 c3 c4
            go_wp2
            go_roundw
            case rel => exact ⟨k + 1, by omega, by simp, HR, hb14⟩
            case measure => simp [intOf]; omega
        · have hkn : k = nk := by omega
          have hA := HA.out
          rw [hkn, HNK.out] at hA
          replace hall := hall hA
          have hkI : ¬ (k : Int) < (X.ks.length : Int) := by rw [← HNK.out]; omega
          replace x0 := x0.below hb1
          have c0 := x0.cell 0 rfl; have c1 := x0.cell 1 rfl; have c2 := x0.cell 2 rfl; have c3 := x0.cell 3 rfl; have c4 := x0.cell 4 rfl
          clear hA HA H2
          go_wp2
          clear c0 c1 c2 c3 c4
          have hgX : ∀ W', Below wr.heap.size wr W' → Swp W' ab ast ae ak X := fun W' h => hgX2 W' (hb1.trans (h.mono hb1.size))
          have hgL : ∀ W', Below wr.heap.size wr W' → Lss W' ap P := fun W' h => hgL2 W' (hb1.trans (h.mono hb1.size))
          replace hb := hb.trans (hb1.mono hb.size)
          clear hgX2 hgL2 hb1 hk hlt hkI hkn
          obtain ⟨nt, hnt⟩ : ∃ n, n = X.st.length := ⟨_, rfl⟩
          have HNT := hid hnt
          clear hnt
          obtain ⟨wo2, rfl⟩ : ∃ wo : World, wo = wr := ⟨_, rfl⟩
          go_loopw [4, 7] (fun v4 v7 wr => ∃ k : Nat, k ≤ nt ∧ v7 = .int .i64 (k : Int) ∧ Hid ((List.range k).all (df3 X P) = true) ∧ Below wo2.heap.size wo2 wr) (fun _ v7 _ => nt - (intOf v7).toNat)
          case atStart => exact ⟨0, Nat.zero_le _, rfl, hid rfl, Below.refl _ _⟩
          case round =>
            obtain ⟨k, hk, rfl, HA, hb1⟩ := hrel
            by_cases hlt : k < nt
            · have hkl : k < X.st.length := by rw [← HNT.out]; exact hlt
              have hXr := hgX _ hb1
              have hLr := hgL _ hb1
              have hc1 := fun (t : Ext wr) => count_lists ap cp P (k : Int) t.w (hLr.below t.below (Nat.le_refl _))
              have hc2 := fun (t : Ext wr) => count_lists ab cb X.bs (k : Int) t.w (hXr.1.below t.below (Nat.le_refl _))
              rw [← HN.out] at hc1
              obtain ⟨b, off, x, has, hbl, hc, hx1, hx2, hg, _⟩ := hXr.2.1.at (k := k) hkl
              subst has
              have hx9 := HS9.out x (List.mem_of_getElem? hg.out)
              have hgx : X.st.getD k 0 = x := by rw [List.getD_eq_getElem?_getD, hg.out]; rfl
              have hkI : (k : Int) < (X.st.length : Int) := by omega
              have hk0 : (0 : Int) ≤ (k : Int) := by omega
              have hik := H3.out.2.1 k
              have hdk := H3.out.1 k hkl
              have hcb := H3.out.2.2 (k : Int)
              rw [hgx] at hik
              have hbr := hb.trans (hb1.mono hb.size)
              replace x0 := x0.below hb1
              generalize cnF P (k : Int) = s1 at *
              generalize cnF X.bs (k : Int) = s2 at *
              have hwr : IntKind.i64.wrap (x + (s2 : Int)) = x + (s2 : Int) := IntWalk.i64_in _ (by omega)
              clear hLr hXr hgx hg hkl hgX hgL hbl hx1 hx2
              have c0 := x0.cell 0 rfl; have c1 := x0.cell 1 rfl; have c2 := x0.cell 2 rfl; have c3 := x0.cell 3 rfl; have c4 := x0.cell 4 rfl
              have e1 := x0.ext 0 rfl
              have e2 := x0.ext 1 rfl
              have f1 := fun t => Ext.cell hc t
              by_cases hss : (s1 : Int) ≤ x + (s2 : Int)
              · rw [decide_eq_true hss] at hik
                have HR := hid (show (List.range (k + 1)).all (df3 X P) = true by rw [all_range_succ, HA.out, hik]; rfl)
                clear hik hdk hall
                go_upto_region 14 with fail
                refine wp_region_ext_lit (by kernel_rfl) (by kernel_rfl) ?_
                iterate 3 (quiet_step (first | (go_at_call 69; exact quiet_ext ((hc1 _).mono (fun e w' h => ⟨h.1, Below.of_eq h.2⟩)))))
                repeat (quiet_step (first | (go_at_call 69; exact quiet_ext ((hc2 _).mono (fun e w' h => ⟨h.1, Below.of_eq h.2⟩)))))
                refine wpQuiet_nil ?_
                intro _ hw'
                obtain ⟨t, rfl⟩ := hw'
                have hb14 := hb1.trans (t.below.mono hb1.size)
                clear e1 e2 f1 hc x0 hc1 hc2 c0 c1 c2 c3 c4
                go_wp2
                go_roundw
                case rel => exact ⟨k + 1, by omega, by simp, HR, hb14⟩
                case measure => simp [intOf]; omega
              · rw [decide_eq_false hss] at hik
                have hss' : x + (s2 : Int) < (s1 : Int) := by omega
                have HR := hid (hdk hik)
                clear hik hdk hall hss
                go_upto_region 14 with fail
                refine wp_region_ext_lit (by kernel_rfl) (by kernel_rfl) ?_
                iterate 3 (quiet_step (first | (go_at_call 69; exact quiet_ext ((hc1 _).mono (fun e w' h => ⟨h.1, Below.of_eq h.2⟩)))))
                repeat (quiet_step (first | (go_at_call 69; exact quiet_ext ((hc2 _).mono (fun e w' h => ⟨h.1, Below.of_eq h.2⟩)))))
                refine wpQuiet_nil ?_
                intro _ hw'
                obtain ⟨t, rfl⟩ := hw'
                have hbr4 := hbr.trans (t.below.mono hbr.size)
                clear e1 e2 f1 hc x0 hc1 hc2 c0 c1 c2 c3 c4
                go_wp2
                go_ret
                exact ⟨ret_bool (by rw [HR.out]), hbr4⟩
            · have hkn : k = nt := by omega
              have hA := HA.out
              rw [hkn, HNT.out] at hA
              have HV := hid (hall hA)
              have hkI : ¬ (k : Int) < (X.st.length : Int) := by rw [← HNT.out]; omega
              replace x0 := x0.below hb1
              have hbr := hb.trans (hb1.mono hb.size)
              have c0 := x0.cell 0 rfl; have c1 := x0.cell 1 rfl; have c2 := x0.cell 2 rfl; have c3 := x0.cell 3 rfl; have c4 := x0.cell 4 rfl
              clear hA HA H3 hall hkn
              go_wp2
              go_ret
              exact ⟨ret_bool (by rw [HV.out]), hbr⟩
end Go.Proofs.Ytipdohpbilabiaa
