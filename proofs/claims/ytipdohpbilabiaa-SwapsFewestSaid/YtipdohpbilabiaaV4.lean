import Derived.Test.YtipdohpbilabiaaV3
/-! Whether lists are a plan of a visit; whether a plan fits. -/
namespace Go.Proofs.Ytipdohpbilabiaa
set_option linter.unusedSimpArgs false
set_option linter.unusedVariables false
open Go Go.RowKit

def plI (X : Sw) (P : List (List Int)) (i : Nat) : Bool := decide ((P.getD i []).length = (X.bs.getD i []).length) && risB (ntI X) (P.getD i [])
/-- Whether lists are a plan. -/
def plB (X : Sw) (P : List (List Int)) : Bool := decide (P.length = X.bs.length) && (List.range P.length).all (plI X P)

set_option maxRecDepth 100000 in
set_option maxHeartbeats 3000000 in
theorem isPlan_any (ab ast ae ak : Option Addr) (cb cs ce ck : Nat) (X : Sw) (ap : Option Addr) (cp : Nat) (P : List (List Int)) (w : World) (hX : Swp w ab ast ae ak X) (hP : Lss w ap P) : Calls Try.prog 54 #[.agg #[.slice ab X.bs.length cb, .slice ast X.st.length cs, .slice ae X.er.length ce, .slice ak X.ks.length ck, .int .i64 X.ch], .slice ap P.length cp] w fun e w' => e = .returned (.bool (plB X P)) ∧ Below w.heap.size w w' := by
  obtain ⟨W, hW, hb, _, x0⟩ := boxes1 w #[.slice ab X.bs.length cb, .slice ast X.st.length cs, .slice ae X.er.length ce, .slice ak X.ks.length ck, .int .i64 X.ch] 26
  have hl1 := hP.1; have hl2 := hX.1.1
  have hs := hX.2.1.len
  have hat := fun a c l W hI => areTitles_any ab ast ae ak cb cs ce ck X a c l W hs hI
  have hgb : ∀ W', Below W.heap.size W W' → Lss W' ab X.bs ∧ Lss W' ap P := fun W' h => ⟨(hX.1.below hb (Nat.le_refl _)).below h (Nat.le_refl _), (hP.below hb (Nat.le_refl _)).below h (Nat.le_refl _)⟩
  clear hX hP hs
  obtain ⟨np, hnp⟩ : ∃ n, n = P.length := ⟨_, rfl⟩
  obtain ⟨nb, hnb⟩ : ∃ n, n = X.bs.length := ⟨_, rfl⟩
  have hea : plB X P = (decide (np = nb) && (List.range np).all (plI X P)) := by unfold plB; rw [hnp, hnb]
  have hpi : ∀ i, plI X P i = (decide ((P.getD i []).length = (X.bs.getD i []).length) && risB (ntI X) (P.getD i [])) := fun i => rfl
  rw [hea]
  rw [← hnb] at x0 hW hl2 hat
  rw [← hnp] at hl1 ⊢
  rw [← hnb]
  have HNP := hid hnp; have HNB := hid hnb
  clear hea hnp hnb
  have c0 := x0.cell 0 rfl; have c1 := x0.cell 1 rfl; have c2 := x0.cell 2 rfl; have c3 := x0.cell 3 rfl; have c4 := x0.cell 4 rfl
  by_cases h : np = nb
  · have hB : ((np : Int) != (nb : Int)) = false := by simp; omega
    have HH := hid h
    rw [decide_eq_true h, Bool.true_and]
    clear h
    go_enter Try.func54, Try.ntmps54
    go_wp2
    clear hW c0 c1 c2 c3 c4
    go_loopw [5, 6, 15] (fun v5 v6 v15 wr => ∃ k : Nat, k ≤ np ∧ v15 = .int .i64 (k : Int) ∧ Hid ((List.range k).all (plI X P) = true) ∧ Below W.heap.size W wr) (fun _ _ v15 _ => np - (intOf v15).toNat)
    case atStart => exact ⟨0, Nat.zero_le _, rfl, hid rfl, Below.refl _ _⟩
    case round =>
      obtain ⟨k, hk, rfl, HA, hb1⟩ := hrel
      by_cases hlt : k < np
      · obtain ⟨g1, g2⟩ := hgb _ hb1
        obtain ⟨b, off, a', c', rfl, hbl, hc, hi⟩ := g2.at (k := k) (by rw [← HNP.out]; exact hlt)
        obtain ⟨b2, off2, a2, c2', rfl, hbl2, hc2, hi2⟩ := g1.at (k := k) (by rw [← HNB.out, ← HH.out]; exact hlt)
        have hkI : (k : Int) < np := by omega
        have hkB : (k : Int) < nb := by rw [← HH.out]; omega
        have hk0 : (0 : Int) ≤ (k : Int) := by omega
        have hui := hpi k
        have hup := hat a' c' _ wr hi
        have hln := hi.len; have hln2 := hi2.len
        obtain ⟨L, hL⟩ : ∃ L, L = P.getD k [] := ⟨_, rfl⟩
        rw [← hL] at hui hup hc hln
        obtain ⟨m, hm⟩ : ∃ m, m = L.length := ⟨_, rfl⟩
        rw [← hm] at hui hup hc hln
        obtain ⟨m2, hm2⟩ : ∃ m, m = (X.bs.getD k []).length := ⟨_, rfl⟩
        rw [← hm2] at hui hc2 hln2
        replace x0 := x0.below hb1
        have c0 := x0.cell 0 rfl; have c1 := x0.cell 1 rfl; have c2 := x0.cell 2 rfl; have c3 := x0.cell 3 rfl; have c4 := x0.cell 4 rfl
        have hbr := hb.trans (hb1.mono hb.size)
        by_cases hmn : m = m2
        · have hB2 : ((m : Int) != (m2 : Int)) = false := by simp; omega
          rw [decide_eq_true hmn, Bool.true_and] at hui
          clear hm hL hi hmn hpi hm2 hi2 hat hgb
          cases hr : risB (ntI X) L
          · rw [hr] at hui hup
            have HR := hid (all_range_no (plI X P) hlt hui)
            clear hui hr
            go_wp2_with fail
            refine hup.mono ?_
            rintro e W1 ⟨rfl, hb2⟩
            clear c0 c1 c2 c3 c4 x0
            replace hbr := hbr.trans (hb2.mono hbr.size)
            go_wp2
            go_ret
            exact ⟨ret_bool (by rw [HR.out]), hbr⟩
          · rw [hr] at hui hup
            have HR := hid (show (List.range (k + 1)).all (plI X P) = true by rw [all_range_succ, HA.out, hui]; rfl)
            clear hui hr
            go_wp2_with fail
            refine hup.mono ?_
            rintro e W1 ⟨rfl, hb2⟩
            have hb12 := hb1.trans (hb2.mono hb1.size)
            clear c0 c1 c2 c3 c4 x0
            go_wp2
            go_roundw
            case rel => exact ⟨k + 1, by omega, by simp, HR, hb12⟩
            case measure => simp [intOf]; omega
        · have hB2 : ((m : Int) != (m2 : Int)) = true := by simp; omega
          rw [decide_eq_false hmn, Bool.false_and] at hui
          have HR := hid (all_range_no (plI X P) hlt hui)
          clear hm hL hi hmn hpi hui hup hm2 hi2 hat hgb
          go_wp2
          go_ret
          exact ⟨ret_bool (by rw [HR.out]), hbr⟩
      · obtain rfl : k = np := by omega
        have hA := HA.out
        go_wp2
        go_ret
        exact ⟨ret_bool (by rw [hA]), hb.trans (hb1.mono hb.size)⟩
  · have hB : ((np : Int) != (nb : Int)) = true := by simp; omega
    rw [decide_eq_false h, Bool.false_and]
    clear h
    go_enter Try.func54, Try.ntmps54
    go_wp2
    go_ret
    exact ⟨rfl, hb⟩

/-- Whether a plan fits. -/
def fitA (V : Vz) (p : Pl) : Bool := (List.range V.nb).all (fitB V p) && hasC V p

set_option maxRecDepth 100000 in
set_option maxHeartbeats 3000000 in
theorem fits_any (ab ast ae ak : Option Addr) (cb cs ce nk ck : Nat) (V : Vz) (hV : VOk V) (p : Pl) (hp : p.ok 64) (w : World) (hR : Ints w ast V.st) : Calls Try.prog 55 #[.agg #[.slice ab V.nb cb, .slice ast V.st.length cs, .slice ae V.er.length ce, .slice ak nk ck, .int .i64 V.ch, .int .u8 (V.now.a : Int), .int .u8 (V.now.b : Int), .int .u8 (V.now.c : Int), .int .u8 (V.stay.a : Int), .int .u8 (V.stay.b : Int), .int .u8 (V.stay.c : Int)], .agg #[.int .u8 (p.a : Int), .int .u8 (p.b : Int), .int .u8 (p.c : Int)]] w fun e w' => e = .returned (.bool (fitA V p)) ∧ Below w.heap.size w w' := by
  have h3 := hV.nb3
  have hfb := fun k (hk : k < 3) v => fitsBox_any ab ast ae ak cb cs ce nk ck V hV p hp k hk v
  obtain ⟨W, hW, hb, _, x0, x1⟩ := boxes2 w #[.slice ab V.nb cb, .slice ast V.st.length cs, .slice ae V.er.length ce, .slice ak nk ck, .int .i64 V.ch, .int .u8 (V.now.a : Int), .int .u8 (V.now.b : Int), .int .u8 (V.now.c : Int), .int .u8 (V.stay.a : Int), .int .u8 (V.stay.b : Int), .int .u8 (V.stay.c : Int)] 72 #[.int .u8 (p.a : Int), .int .u8 (p.b : Int), .int .u8 (p.c : Int)] 70
  have hhc := fun W' (h : Below W.heap.size W W') => hasCopies_any ab ast ae ak cb cs ce nk ck V hV p hp W' ((hR.below hb (Nat.le_refl _)).below h (Nat.le_refl _))
  have hfa : fitA V p = ((List.range V.nb).all (fitB V p) && hasC V p) := rfl
  have hnI : (V.nb : Int) ≤ 3 := by omega
  rw [hfa]
  have c0 := x0.cell 0 rfl; have c1 := x0.cell 1 rfl; have c2 := x0.cell 2 rfl; have c3 := x0.cell 3 rfl; have c4 := x0.cell 4 rfl; have c5 := x0.cell 5 rfl; have c6 := x0.cell 6 rfl; have c7 := x0.cell 7 rfl; have c8 := x0.cell 8 rfl; have c9 := x0.cell 9 rfl; have c10 := x0.cell 10 rfl; have d0 := x1.cell 0 rfl; have d1 := x1.cell 1 rfl; have d2 := x1.cell 2 rfl
  clear hfa hR hV
  go_enter Try.func55, Try.ntmps55
  go_wp2
  clear hW c0 c1 c2 c3 c4 c5 c6 c7 c8 c9 c10 d0 d1 d2
  go_loopw [5, 10] (fun v5 v10 wr => ∃ k : Nat, k ≤ V.nb ∧ v10 = .int .i64 (k : Int) ∧ Hid ((List.range k).all (fitB V p) = true) ∧ Below W.heap.size W wr) (fun _ v10 _ => V.nb - (intOf v10).toNat)
  case atStart => exact ⟨0, Nat.zero_le _, rfl, hid rfl, Below.refl _ _⟩
  case round =>
    obtain ⟨k, hk, rfl, HA, hb1⟩ := hrel
    replace x0 := x0.below hb1; replace x1 := x1.below hb1
    have c0 := x0.cell 0 rfl; have c1 := x0.cell 1 rfl; have c2 := x0.cell 2 rfl; have c3 := x0.cell 3 rfl; have c4 := x0.cell 4 rfl; have c5 := x0.cell 5 rfl; have c6 := x0.cell 6 rfl; have c7 := x0.cell 7 rfl; have c8 := x0.cell 8 rfl; have c9 := x0.cell 9 rfl; have c10 := x0.cell 10 rfl; have d0 := x1.cell 0 rfl; have d1 := x1.cell 1 rfl; have d2 := x1.cell 2 rfl
    have hbr := hb.trans (hb1.mono hb.size)
    by_cases hlt : k < V.nb
    · have hkI : (k : Int) < V.nb := by omega
      have hf := fun v => hfb k (by omega) v
      clear hfb hhc
      cases hr : fitB V p k
      · simp only [hr] at hf
        have HR := hid (show ((List.range V.nb).all (fitB V p) && hasC V p) = false by rw [all_range_no _ hlt hr]; rfl)
        clear hr
        go_wp2_with fail
        refine (hf _).mono ?_
        rintro e W1 ⟨rfl, hb2⟩
        replace hbr := hbr.trans (hb2.mono hbr.size)
        clear c0 c1 c2 c3 c4 c5 c6 c7 c8 c9 c10 d0 d1 d2 x0 x1
        go_wp2
        go_ret
        exact ⟨ret_bool (by rw [HR.out]), hbr⟩
      · simp only [hr] at hf
        have HR := hid (show (List.range (k + 1)).all (fitB V p) = true by rw [all_range_succ, HA.out, hr]; rfl)
        clear hr
        go_wp2_with fail
        refine (hf _).mono ?_
        rintro e W1 ⟨rfl, hb2⟩
        have hb12 := hb1.trans (hb2.mono hb1.size)
        clear c0 c1 c2 c3 c4 c5 c6 c7 c8 c9 c10 d0 d1 d2 x0 x1
        go_wp2
        go_roundw
        case rel => exact ⟨k + 1, by omega, by simp, HR, hb12⟩
        case measure => simp [intOf]; omega
    · obtain rfl : k = V.nb := by omega
      have hh := hhc _ hb1
      have HR := hid (show ((List.range V.nb).all (fitB V p) && hasC V p) = hasC V p by rw [HA.out, Bool.true_and])
      clear HA hhc hfb
      go_wp2_with fail
      refine hh.mono ?_
      rintro e W1 ⟨rfl, hb2⟩
      replace hbr := hbr.trans (hb2.mono hbr.size)
      clear c0 c1 c2 c3 c4 c5 c6 c7 c8 c9 c10 d0 d1 d2 x0 x1
      go_wp2
      go_ret
      exact ⟨ret_bool (by rw [HR.out]), hbr⟩

/-! The visit that is made of what comes in. -/
def stayF (l : List (Int × Int)) : Pl := l.foldl (fun p k => p.set k.1.toNat (p.get k.1.toNat ||| mask [k.2])) pl0
theorem stayF_snoc (l : List (Int × Int)) (k : Int × Int) : stayF (l ++ [k]) = (stayF l).set k.1.toNat ((stayF l).get k.1.toNat ||| mask [k.2]) := by unfold stayF; rw [List.foldl_append]; rfl
def Sw.vz (X : Sw) : Vz := { nb := X.bs.length, st := X.st, er := X.er, ch := X.ch, now := planM X.bs, stay := stayF X.ks }
end Go.Proofs.Ytipdohpbilabiaa
