import Derived.Test.YtipdohpbilabiaaVH
/-! Plans, changes and copies of the reference. -/
namespace Go.Proofs.Ytipdohpbilabiaa
set_option linter.unusedSimpArgs false
set_option linter.unusedVariables false
open Go Go.RowKit

/-- How many titles of a list are not in another. -/
def coF (l : List Int) (now : List Int) : Nat := (l.filter fun x => !inL x now).length
theorem coF_snoc (l : List Int) (x : Int) (now : List Int) : coF (l ++ [x]) now = coF l now + (if inL x now = true then 0 else 1) := by
  unfold coF
  rw [List.filter_append, List.length_append]
  cases h : inL x now <;> simp [h]
theorem coF_le (l now : List Int) : coF l now ≤ l.length := List.length_filter_le _ _
set_option maxRecDepth 100000 in
set_option maxHeartbeats 2000000 in
theorem ChangesOf_any (a1 a2 : Option Addr) (c1 c2 : Nat) (now l : List Int) (w : World) (h1 : Ints w a1 now) (h2 : Ints w a2 l) : Calls Try.prog 68 #[.slice a1 now.length c1, .slice a2 l.length c2] w fun e w' => e = .returned (.int .i64 ((coF l now : Nat) : Int)) ∧ w = w' := by
  have hin := fun x => in_any a1 c1 now x w h1
  have hlen := h2.len
  have hle : ∀ j, coF (l.take j) now ≤ j := fun j => Nat.le_trans (coF_le _ _) (by rw [List.length_take]; omega)
  have HLE := hid hle
  clear hle h1
  generalize now.length = m at *
  obtain ⟨n, hn⟩ : ∃ n, n = l.length := ⟨_, rfl⟩
  rw [← hn] at hlen ⊢
  have HN := hid hn
  clear hn
  go_enter Try.func68, Try.ntmps68
  go_wp2
  go_loopw [5, 6] (fun v5 v6 wr => ∃ j : Nat, j ≤ n ∧ v6 = .int .i64 (j : Int) ∧ v5 = .int .i64 ((coF (l.take j) now : Nat) : Int) ∧ wr = w) (fun _ v6 _ => n - (intOf v6).toNat)
  case atStart => exact ⟨0, Nat.zero_le _, rfl, rfl, rfl⟩
  case round =>
    obtain ⟨j, hj, rfl, rfl, rfl⟩ := hrel
    by_cases hlt : j < n
    · obtain ⟨b, off, x, rfl, hbl, hc, hx1, hx2, hg, _⟩ := h2.at (k := j) (by rw [← HN.out]; exact hlt)
      have hjI : (j : Int) < n := by omega
      have hj0 : (0 : Int) ≤ (j : Int) := by omega
      have hs : coF (l.take (j + 1)) now = coF (l.take j) now + (if inL x now = true then 0 else 1) := by rw [List.take_add_one, hg.out, Option.toList_some, coF_snoc]
      have hb := HLE.out j
      have hix := hin x
      obtain ⟨s, hsd⟩ : ∃ s, s = coF (l.take j) now := ⟨_, rfl⟩
      rw [← hsd] at hs hb ⊢
      cases hr : inL x now
      · rw [hr] at hs hix
        have HS := hid hs
        have hwr : IntKind.i64.wrap ((s : Int) + 1) = (s : Int) + 1 := IntWalk.i64_in _ (by omega)
        clear hs hsd hr hg hin
        go_wp2_with fail
        refine hix.mono ?_
        rintro e W1 ⟨rfl, rfl⟩
        go_wp2
        go_roundw
        case rel => exact ⟨j + 1, by omega, by simp, by rw [HS.out]; rfl, trivial⟩
        case measure => simp [intOf]; omega
      · rw [hr] at hs hix
        have HS := hid hs
        clear hs hsd hr hg hin
        go_wp2_with fail
        refine hix.mono ?_
        rintro e W1 ⟨rfl, rfl⟩
        go_wp2
        go_roundw
        case rel => exact ⟨j + 1, by omega, by simp, by rw [HS.out]; rfl, trivial⟩
        case measure => simp [intOf]; omega
    · obtain rfl : j = n := by omega
      have hA : l.take j = l := List.take_of_length_le (by rw [← HN.out]; exact Nat.le_refl _)
      rw [hA]
      clear hA
      go_wp2
      go_ret
      exact ⟨rfl, rfl⟩

/-- In how many of some lists a title is. -/
def cnF (P : List (List Int)) (t : Int) : Nat := (P.filter (inL t)).length
theorem cnF_snoc (P : List (List Int)) (l : List Int) (t : Int) : cnF (P ++ [l]) t = cnF P t + (if inL t l = true then 1 else 0) := by
  unfold cnF
  rw [List.filter_append, List.length_append]
  cases h : inL t l <;> simp [h]
theorem cnF_le (P : List (List Int)) (t : Int) : cnF P t ≤ P.length := List.length_filter_le _ _
set_option maxRecDepth 100000 in
set_option maxHeartbeats 2000000 in
theorem count_lists (a : Option Addr) (c : Nat) (P : List (List Int)) (t : Int) (w : World) (hL : Lss w a P) : Calls Try.prog 69 #[.slice a P.length c, .int .i64 t] w fun e w' => e = .returned (.int .i64 ((cnF P t : Nat) : Int)) ∧ w = w' := by
  have hlen := hL.1
  have hle : ∀ j, cnF (P.take j) t ≤ j := fun j => Nat.le_trans (cnF_le _ _) (by rw [List.length_take]; omega)
  have HLE := hid hle
  clear hle
  obtain ⟨n, hn⟩ : ∃ n, n = P.length := ⟨_, rfl⟩
  rw [← hn] at hlen ⊢
  have HN := hid hn
  clear hn
  go_enter Try.func69, Try.ntmps69
  go_wp2
  go_loopw [5, 6] (fun v5 v6 wr => ∃ j : Nat, j ≤ n ∧ v6 = .int .i64 (j : Int) ∧ v5 = .int .i64 ((cnF (P.take j) t : Nat) : Int) ∧ wr = w) (fun _ v6 _ => n - (intOf v6).toNat)
  case atStart => exact ⟨0, Nat.zero_le _, rfl, rfl, rfl⟩
  case round =>
    obtain ⟨j, hj, rfl, rfl, rfl⟩ := hrel
    by_cases hlt : j < n
    · have hjl : j < P.length := by rw [← HN.out]; exact hlt
      obtain ⟨b, off, a', c', rfl, hbl, hc, hI⟩ := hL.at (k := j) hjl
      have hjI : (j : Int) < n := by omega
      have hj0 : (0 : Int) ≤ (j : Int) := by omega
      have hs : cnF (P.take (j + 1)) t = cnF (P.take j) t + (if inL t (P.getD j []) = true then 1 else 0) := by
        rw [List.take_add_one, List.getElem?_eq_getElem hjl, Option.toList_some, cnF_snoc, List.getD_eq_getElem?_getD, List.getElem?_eq_getElem hjl]
        rfl
      have hb := HLE.out j
      have hix := in_any a' c' _ t wr hI
      obtain ⟨s, hsd⟩ : ∃ s, s = cnF (P.take j) t := ⟨_, rfl⟩
      rw [← hsd] at hs hb ⊢
      clear hI hjl
      obtain ⟨L, hLd⟩ : ∃ L, L = P.getD j [] := ⟨_, rfl⟩
      rw [← hLd] at hs hc hix
      clear hLd
      obtain ⟨m, hm⟩ : ∃ m, m = L.length := ⟨_, rfl⟩
      rw [← hm] at hc hix
      clear hm
      cases hr : inL t L
      · rw [hr] at hs hix
        have HS := hid hs
        clear hs hsd hr
        go_wp2_with fail
        refine hix.mono ?_
        rintro e W1 ⟨rfl, rfl⟩
        go_wp2
        go_roundw
        case rel => exact ⟨j + 1, by omega, by simp, by rw [HS.out]; rfl, trivial⟩
        case measure => simp [intOf]; omega
      · rw [hr] at hs hix
        have HS := hid hs
        have hwr : IntKind.i64.wrap ((s : Int) + 1) = (s : Int) + 1 := IntWalk.i64_in _ (by omega)
        clear hs hsd hr
        go_wp2_with fail
        refine hix.mono ?_
        rintro e W1 ⟨rfl, rfl⟩
        go_wp2
        go_roundw
        case rel => exact ⟨j + 1, by omega, by simp, by rw [HS.out]; rfl, trivial⟩
        case measure => simp [intOf]; omega
    · obtain rfl : j = n := by omega
      have hA : P.take j = P := List.take_of_length_le (by rw [← HN.out]; exact Nat.le_refl _)
      rw [hA]
      clear hA
      go_wp2
      go_ret
      exact ⟨rfl, rfl⟩

set_option maxRecDepth 100000 in
set_option maxHeartbeats 4000000 in
theorem IsPlan_any (ab ast ae ak : Option Addr) (cb cs ce ck : Nat) (X : Sw) (ap : Option Addr) (cp : Nat) (P : List (List Int)) (w : World) (hX : Swp w ab ast ae ak X) (hL : Lss w ap P) : Calls Try.prog 35 #[.agg #[.slice ab X.bs.length cb, .slice ast X.st.length cs, .slice ae X.er.length ce, .slice ak X.ks.length ck, .int .i64 X.ch], .slice ap P.length cp] w fun e w' => e = .returned (.bool (plB X P)) ∧ Below w.heap.size w w' := by
  obtain ⟨W, hW, hb, _, x0⟩ := boxes1 w #[.slice ab X.bs.length cb, .slice ast X.st.length cs, .slice ae X.er.length ce, .slice ak X.ks.length ck, .int .i64 X.ch] 26
  have hl1 := hX.1.1
  have hl2 := hL.1
  have hl3 := hX.2.1.len
  by_cases hPl : P.length = X.bs.length
  · have hne0 : ((P.length : Int) != (X.bs.length : Int)) = false := by simp [hPl]
    have hpv : plB X P = (List.range P.length).all (plI X P) := by unfold plB; rw [decide_eq_true hPl, Bool.true_and]
    have hpi : ∀ i, plI X P i = (decide ((P.getD i []).length = (X.bs.getD i []).length) && risB ((X.st.length : Int) - 1) (P.getD i [])) := fun i => rfl
    have hris := fun a c l W (hI : Ints W a l) => Rising_any a c l ((X.st.length : Int) - 1) W hI
    have ewt : IntKind.i64.wrap ((X.st.length : Int) - 1) = (X.st.length : Int) - 1 := IntWalk.i64_in _ (by omega)
    have hgX : ∀ W', Below W.heap.size W W' → Swp W' ab ast ae ak X := fun W' h => (hX.below hb (Nat.le_refl _)).below h (Nat.le_refl _)
    have hgL : ∀ W', Below W.heap.size W W' → Lss W' ap P := fun W' h => (hL.below hb (Nat.le_refl _)).below h (Nat.le_refl _)
    have HPL := hid hPl
    rw [hpv]
    clear hX hL hPl hpv
    obtain ⟨n, hn⟩ : ∃ n, n = P.length := ⟨_, rfl⟩
    rw [← hn] at hl2 hne0 ⊢
    have HN := hid hn
    clear hn
    have c0 := x0.cell 0 rfl; have c1 := x0.cell 1 rfl; have c2 := x0.cell 2 rfl; have c3 := x0.cell 3 rfl; have c4 := x0.cell 4 rfl
    go_enter Try.func35, Try.ntmps35
    go_wp2
    clear hW c0 c1 c2 c3 c4 hne0
    go_loopw [4, 5] (fun v4 v5 wr => ∃ j : Nat, j ≤ n ∧ v5 = .int .i64 (j : Int) ∧ Hid ((List.range j).all (plI X P) = true) ∧ Below W.heap.size W wr) (fun _ v5 _ => n - (intOf v5).toNat)
    case atStart => exact ⟨0, Nat.zero_le _, rfl, hid rfl, Below.refl _ _⟩
    case round =>
      obtain ⟨j, hj, rfl, HA, hb1⟩ := hrel
      by_cases hlt : j < n
      · have hbr := hb.trans (hb1.mono hb.size)
        have hjb : j < X.bs.length := by rw [← HPL.out, ← HN.out]; exact hlt
        obtain ⟨b, off, a', c', hap, hbl, hc, hI⟩ := (hgL _ hb1).at (k := j) (by rw [← HN.out]; exact hlt)
        subst hap
        obtain ⟨b2, off2, a2, c2, hab, hbl2, hc2, hI2⟩ := (hgX _ hb1).1.at (k := j) hjb
        subst hab
        replace x0 := x0.below hb1
        have hjI : (j : Int) < n := by omega
        have hjB : (j : Int) < (X.bs.length : Int) := by omega
        have hj0 : (0 : Int) ≤ (j : Int) := by omega
        have hpj := hpi j
        have hrj := fun (t : Ext wr) => hris a' c' (P.getD j []) t.w (hI.below t.below (Nat.le_refl _))
        obtain ⟨m2, hm2⟩ : ∃ m, m = (X.bs.getD j []).length := ⟨_, rfl⟩
        obtain ⟨L, hLd⟩ : ∃ L, L = P.getD j [] := ⟨_, rfl⟩
        rw [← hm2] at hpj hc2
        rw [← hLd] at hpj hc hrj
        clear hm2 hLd hI hI2 hgX hgL hjb hbl hbl2 hris hpi
        obtain ⟨m, hm⟩ : ∃ m, m = L.length := ⟨_, rfl⟩
        rw [← hm] at hpj hc hrj
        clear hm
        by_cases hmm : m = m2
        · rw [decide_eq_true hmm, Bool.true_and] at hpj
          have hne : ((m : Int) != (m2 : Int)) = false := by simp [hmm]
          have e1 := x0.ext 0 rfl
          have e2 := x0.ext 1 rfl
          have f1 := fun t => Ext.cell hc t
          have f2 := fun t => Ext.cell hc2 t
          clear hmm
          cases hr : risB ((X.st.length : Int) - 1) L
          · rw [hr] at hpj
            simp only [hr] at hrj
            have HR := hid (all_range_no (plI X P) hlt hpj)
            clear hpj hr
            go_upto_region 6 with fail
            refine wp_region_ext_lit (by kernel_rfl) (by kernel_rfl) ?_
            repeat (quiet_step (first | (go_at_call 51; exact quiet_ext (hrj _))))
            refine wpQuiet_nil ?_
            intro _ hw'
            obtain ⟨t, rfl⟩ := hw'
            have hbr4 := hbr.trans (t.below.mono hbr.size)
            clear e1 e2 f1 f2 hc hc2 x0 hrj
            go_wp2
            go_ret
            exact ⟨ret_bool (by rw [HR.out]), hbr4⟩
          · rw [hr] at hpj
            simp only [hr] at hrj
            have HR := hid (show (List.range (j + 1)).all (plI X P) = true by rw [all_range_succ, HA.out, hpj]; rfl)
            clear hpj hr
            go_upto_region 6 with fail
            refine wp_region_ext_lit (by kernel_rfl) (by kernel_rfl) ?_
            repeat (quiet_step (first | (go_at_call 51; exact quiet_ext (hrj _))))
            refine wpQuiet_nil ?_
            intro _ hw'
            obtain ⟨t, rfl⟩ := hw'
            have hb14 := hb1.trans (t.below.mono hb1.size)
            clear e1 e2 f1 f2 hc hc2 x0 hrj
            go_wp2
            go_roundw
            case rel => exact ⟨j + 1, by omega, by simp, HR, hb14⟩
            case measure => simp [intOf]; omega
        · rw [decide_eq_false hmm, Bool.false_and] at hpj
          have hne : ((m : Int) != (m2 : Int)) = true := by simp; omega
          have HR := hid (all_range_no (plI X P) hlt hpj)
          clear hpj hmm hrj
          go_upto_region 6 with fail
          have hbd := (Below.refl wr.heap.size wr).drew
          have S0 := And.intro (x0.below hbd) (And.intro (Below.keep hbd hc) (Below.keep hbd hc2))
          replace hbr := hbr.trans (hbd.mono hbr.size)
          clear hbd x0
          refine wp_region_head 23 (fun w' => Bx w' w.heap.size #[.slice (some ⟨b2, off2, none⟩) X.bs.length cb, .slice ast X.st.length cs, .slice ae X.er.length ce, .slice ak X.ks.length ck, .int .i64 X.ch] 26 ∧ w'.cell? ⟨b, off + j, none⟩ = some (.slice a' m c') ∧ w'.cell? ⟨b2, off2 + j, none⟩ = some (.slice a2 m2 c2)) (by kernel_rfl) rfl ?_
          generalize wr.drew = Y0 at *
          refine HeadAt.take (i := 0) (.slice (some ⟨b, off, none⟩) n cp) rfl (by kernel_rfl) (.inl ⟨rfl, fun _ _ => by simp [go_sem]⟩) S0 ?_
          refine HeadAt.take (i := 1) (.int .i64 (j : Int)) rfl (by kernel_rfl) (.inl ⟨rfl, fun _ _ => by simp [go_sem]⟩) S0 ?_
          refine HeadAt.take (i := 5) (.pointer (some ⟨w.heap.size, 0, none⟩)) rfl (by kernel_rfl) (.inl ⟨rfl, fun _ _ => by simp [go_sem]⟩) S0 ?_
          refine HeadAt.take (i := 7) (.int .i64 (j : Int)) rfl (by kernel_rfl) (.inl ⟨rfl, fun _ _ => by simp [go_sem]⟩) S0 ?_
          (try simp only [Act.put, List.getElem_toArray, List.getElem_cons_succ, List.getElem_cons_zero, List.setIfInBounds_toArray, List.set_cons_succ, List.set_cons_zero])
          refine HeadAt.take (i := 2) (.pointer (some ⟨b, off + j, none⟩)) rfl (by kernel_rfl) (.inl ⟨rfl, fun w' z => ?_⟩) S0 ?_
          · (simp [go_sem, hjI, hj0])
          (try simp only [Act.put, List.getElem_toArray, List.getElem_cons_succ, List.getElem_cons_zero, List.setIfInBounds_toArray, List.set_cons_succ, List.set_cons_zero])
          refine HeadAt.take (i := 3) (.slice a' m c') rfl (by kernel_rfl) (.inl ⟨rfl, fun w' z => ?_⟩) S0 ?_
          · (simp [go_sem, z.2.1])
          (try simp only [Act.put, List.getElem_toArray, List.getElem_cons_succ, List.getElem_cons_zero, List.setIfInBounds_toArray, List.set_cons_succ, List.set_cons_zero])
          refine HeadAt.take (i := 4) (.int .i64 (m : Int)) rfl (by kernel_rfl) (.inl ⟨rfl, fun w' z => ?_⟩) S0 ?_
          · (simp [go_sem])
          refine HeadAt.take (i := 6) (.slice (some ⟨b2, off2, none⟩) X.bs.length cb) rfl (by kernel_rfl) (.inl ⟨rfl, fun w' z => ?_⟩) S0 ?_
          · (have z0 := z.1.cell 0 rfl; simp [go_sem, z0])
          (try simp only [Act.put, List.getElem_toArray, List.getElem_cons_succ, List.getElem_cons_zero, List.setIfInBounds_toArray, List.set_cons_succ, List.set_cons_zero])
          refine HeadAt.take (i := 8) (.pointer (some ⟨b2, off2 + j, none⟩)) rfl (by kernel_rfl) (.inl ⟨rfl, fun w' z => ?_⟩) S0 ?_
          · (simp [go_sem, hjB, hj0])
          (try simp only [Act.put, List.getElem_toArray, List.getElem_cons_succ, List.getElem_cons_zero, List.setIfInBounds_toArray, List.set_cons_succ, List.set_cons_zero])
          refine HeadAt.take (i := 9) (.slice a2 m2 c2) rfl (by kernel_rfl) (.inl ⟨rfl, fun w' z => ?_⟩) S0 ?_
          · (simp [go_sem, z.2.2])
          (try simp only [Act.put, List.getElem_toArray, List.getElem_cons_succ, List.getElem_cons_zero, List.setIfInBounds_toArray, List.set_cons_succ, List.set_cons_zero])
          refine HeadAt.take (i := 10) (.int .i64 (m2 : Int)) rfl (by kernel_rfl) (.inl ⟨rfl, fun w' z => ?_⟩) S0 ?_
          · (simp [go_sem])
          (try simp only [Act.put, List.getElem_toArray, List.getElem_cons_succ, List.getElem_cons_zero, List.setIfInBounds_toArray, List.set_cons_succ, List.set_cons_zero])
          refine HeadAt.take (i := 11) (.bool true) rfl (by kernel_rfl) (.inl ⟨rfl, fun w' z => ?_⟩) S0 ?_
          · (simp [go_sem, hne])
          (try simp only [Act.put, List.getElem_toArray, List.getElem_cons_succ, List.getElem_cons_zero, List.setIfInBounds_toArray, List.set_cons_succ, List.set_cons_zero])
          refine HeadAt.take (i := 12) (.bool true) rfl (by kernel_rfl) (.inl ⟨rfl, fun _ _ => by simp [go_sem]⟩) S0 ?_
          (try simp only [Act.put, List.getElem_toArray, List.getElem_cons_succ, List.getElem_cons_zero, List.setIfInBounds_toArray, List.set_cons_succ, List.set_cons_zero])
          refine HeadAt.take (i := 13) undef rfl (by kernel_rfl) (.inr ⟨by kernel_rfl, rfl⟩) S0 ?_
          (try simp only [Act.put, List.getElem_toArray, List.getElem_cons_succ, List.getElem_cons_zero, List.setIfInBounds_toArray, List.set_cons_succ, List.set_cons_zero])
          refine HeadAt.take (i := 14) undef rfl (by kernel_rfl) (.inr ⟨by kernel_rfl, rfl⟩) S0 ?_
          (try simp only [Act.put, List.getElem_toArray, List.getElem_cons_succ, List.getElem_cons_zero, List.setIfInBounds_toArray, List.set_cons_succ, List.set_cons_zero])
          refine HeadAt.take (i := 15) undef rfl (by kernel_rfl) (.inr ⟨by kernel_rfl, rfl⟩) S0 ?_
          (try simp only [Act.put, List.getElem_toArray, List.getElem_cons_succ, List.getElem_cons_zero, List.setIfInBounds_toArray, List.set_cons_succ, List.set_cons_zero])
          refine HeadAt.take (i := 16) undef rfl (by kernel_rfl) (.inr ⟨by kernel_rfl, rfl⟩) S0 ?_
          (try simp only [Act.put, List.getElem_toArray, List.getElem_cons_succ, List.getElem_cons_zero, List.setIfInBounds_toArray, List.set_cons_succ, List.set_cons_zero])
          refine HeadAt.take (i := 17) undef rfl (by kernel_rfl) (.inr ⟨by kernel_rfl, rfl⟩) S0 ?_
          (try simp only [Act.put, List.getElem_toArray, List.getElem_cons_succ, List.getElem_cons_zero, List.setIfInBounds_toArray, List.set_cons_succ, List.set_cons_zero])
          refine HeadAt.take (i := 18) undef rfl (by kernel_rfl) (.inr ⟨by kernel_rfl, rfl⟩) S0 ?_
          (try simp only [Act.put, List.getElem_toArray, List.getElem_cons_succ, List.getElem_cons_zero, List.setIfInBounds_toArray, List.set_cons_succ, List.set_cons_zero])
          refine HeadAt.take (i := 19) undef rfl (by kernel_rfl) (.inr ⟨by kernel_rfl, rfl⟩) S0 ?_
          (try simp only [Act.put, List.getElem_toArray, List.getElem_cons_succ, List.getElem_cons_zero, List.setIfInBounds_toArray, List.set_cons_succ, List.set_cons_zero])
          refine HeadAt.take (i := 20) undef rfl (by kernel_rfl) (.inr ⟨by kernel_rfl, rfl⟩) S0 ?_
          (try simp only [Act.put, List.getElem_toArray, List.getElem_cons_succ, List.getElem_cons_zero, List.setIfInBounds_toArray, List.set_cons_succ, List.set_cons_zero])
          refine HeadAt.take (i := 21) undef rfl (by kernel_rfl) (.inr ⟨by kernel_rfl, rfl⟩) S0 ?_
          (try simp only [Act.put, List.getElem_toArray, List.getElem_cons_succ, List.getElem_cons_zero, List.setIfInBounds_toArray, List.set_cons_succ, List.set_cons_zero])
          refine HeadAt.take (i := 22) undef rfl (by kernel_rfl) (.inr ⟨by kernel_rfl, rfl⟩) S0 ?_
          (try simp only [Act.put, List.getElem_toArray, List.getElem_cons_succ, List.getElem_cons_zero, List.setIfInBounds_toArray, List.set_cons_succ, List.set_cons_zero])
          refine HeadAt.done (by kernel_rfl) ?_
          (try simp only [Act.put, List.drop_succ_cons, List.drop_zero, List.getElem_toArray, List.getElem_cons_succ, List.getElem_cons_zero])
          clear S0
          go_wp2_with fail
          refine NoPanic.normal ?_
          go_wp2
          go_ret
          exact ⟨ret_bool (by rw [HR.out]), hbr⟩
      · obtain rfl : j = n := by omega
        have hA := HA.out
        go_wp2
        go_ret
        exact ⟨ret_bool (by rw [hA]), hb.trans (hb1.mono hb.size)⟩
  · have hne0 : ((P.length : Int) != (X.bs.length : Int)) = true := by simp; omega
    have hpv : plB X P = false := by unfold plB; rw [decide_eq_false hPl, Bool.false_and]
    rw [hpv]
    have c0 := x0.cell 0 rfl; have c1 := x0.cell 1 rfl; have c2 := x0.cell 2 rfl; have c3 := x0.cell 3 rfl; have c4 := x0.cell 4 rfl
    clear hX hL hPl hpv
    go_enter Try.func35, Try.ntmps35
    go_wp2
    go_ret
    exact ⟨rfl, hb⟩
end Go.Proofs.Ytipdohpbilabiaa
