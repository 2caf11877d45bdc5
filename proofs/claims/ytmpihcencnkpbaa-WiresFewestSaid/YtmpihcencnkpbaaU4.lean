import Derived.Test.YtmpihcencnkpbaaU3
/-! The reference's Fewest, First. -/
namespace Go.Proofs.Ytmpihcencnkpbaa
set_option linter.unusedSimpArgs false
set_option linter.unusedVariables false
open Go Go.RowKit

set_option maxRecDepth 100000 in
set_option maxHeartbeats 6000000 in
theorem rFewest_any (L N : Int) (aP : Option Addr) (cP : Nat) (P : List F3) (F : Int) (w : World) (hP : Pz w aP P) : Calls Try.prog 26 #[.agg #[.int .i64 L, .int .i64 N, .slice aP P.length cP, .int .i64 F]] w fun e w' => e = .returned (.tuple #[.int .i64 (fwR L N P F : Nat), .int .i64 (fwE L N P F)]) ∧ Below w.heap.size w w' := by
  obtain ⟨W, hW, hb, _, x0⟩ := boxes1 w #[.int .i64 L, .int .i64 N, .slice aP P.length cP, .int .i64 F] 24
  replace hP := hP.below hb (Nat.le_refl _)
  have hck := fun V (h : Pz V aP P) => rCheck_any L N aP cP P F V h.2 h.1
  cases hv : vB L N P F with
  | false =>
    have hE := fw_bad (L := L) (N := N) (F := F) (P := P) (by unfold chE; rw [hv]; decide)
    have hc2 : chE L N P F true = 110 := by unfold chE; rw [hv]; rfl
    rw [hc2] at hE
    have hc : ckE L N P F = 110 := by unfold ckE; rw [hv]; rfl
    rw [hc] at hck
    generalize fwE L N P F = rE at *
    generalize fwR L N P F = r at *
    have HE := hid hE
    clear hv hc hc2 hE
    have c0 := x0.cell 0 rfl; have c1 := x0.cell 1 rfl; have c2 := x0.cell 2 rfl; have c3 := x0.cell 3 rfl
    go_enter Try.func26, Try.ntmps26
    go_wp2_with fail
    refine (hck _ hP).mono ?_
    rintro e W1 ⟨rfl, hb1⟩
    replace hb := hb.trans (hb1.mono hb.size)
    clear hW hb1 c0 c1 c2 c3 hck x0 hP
    go_wp2
    go_ret2
    exact ⟨by rw [HE.out.1, HE.out.2]; rfl, hb⟩
  | true =>
    have hc : ckE L N P F = 0 := by unfold ckE; rw [hv]; rfl
    have hc2 : chE L N P F true = 0 := by unfold chE; rw [hv]; rfl
    rw [hc] at hck
    obtain ⟨hL, hN, hP8, hF3, _⟩ := vB_siz hv
    have hpr := vB_pr hv
    have hto := fun v (h : Fz v aP P) => explained_any L N aP cP P F 3 (by omega) v h hL hN hpr
    have hcase := fw_eq hL hN P
    have hn0 := fun h => fw_none (L := L) (N := N) (F := F) (P := P) hc2 h
    have hs0 := fun s h => fw_some (L := L) (N := N) (F := F) (P := P) (s := s) hc2 h
    have hXl : (xpR L N P 3).length ≤ 226981 := Nat.le_trans (List.length_filter_le _ _) (rsL_len3 (Nat.le_refl _) _ _ (allF_len hL hN))
    have hX3 : ∀ s ∈ xpR L N P 3, s.length ≤ 3 := fun s hs => ((setsL_mem hL hN).1 ((exR_mem hL hN).1 hs).1).2
    generalize xpR L N P 3 = X at *
    generalize fwE L N P F = rE at *
    generalize fwR L N P F = r at *
    have HC := hid (show (X = [] ∧ rE = 3 ∧ r = 0) ∨ ∃ u, X[0]? = some u ∧ rE = 0 ∧ r = mnL u.length X from by
      rcases hcase with ⟨h1, h2⟩ | ⟨s, u, h1, h2, h3⟩
      · exact .inl ⟨h1, hn0 h2⟩
      · obtain ⟨q1, q2⟩ := hs0 s h1
        exact .inr ⟨u, h2, q1, by rw [q2, h3]⟩)
    have HX3 := hid hX3
    clear hv hL hN hpr hcase hn0 hs0 hc hc2 hX3
    have c0 := x0.cell 0 rfl; have c1 := x0.cell 1 rfl; have c2 := x0.cell 2 rfl; have c3 := x0.cell 3 rfl
    go_enter Try.func26, Try.ntmps26
    go_wp2_with fail
    refine (hck _ hP).mono ?_
    rintro e W1 ⟨rfl, hb1⟩
    replace hb := hb.trans (hb1.mono hb.size)
    replace x0 := x0.below hb1
    replace hP := hP.below hb1 (Nat.le_refl _)
    clear hW hb1 c0 c1 c2 c3 hck
    have c0 := x0.cell 0 rfl; have c1 := x0.cell 1 rfl; have c2 := x0.cell 2 rfl; have c3 := x0.cell 3 rfl
    go_wp2_with fail
    refine (hto _ (hP.2 (by omega))).mono ?_
    rintro e W2 ⟨hb1, aT, cT, rfl, hrat, _⟩
    replace hb := hb.trans (hb1.mono hb.size)
    clear hb1 c0 c1 c2 c3 x0 hP hto
    obtain ⟨n, hn⟩ : ∃ n, n = X.length := ⟨_, rfl⟩
    rw [← hn] at hXl ⊢
    have HN := hid hn
    clear hn
    rcases HC.out with ⟨h1, h2, h3⟩ | ⟨u, h1, h2, h3⟩
    · obtain rfl : n = 0 := by rw [HN.out, h1]; rfl
      have HR := hid (And.intro h2 h3)
      clear h1 h2 h3 hrat
      go_wp2
      go_ret2
      exact ⟨by rw [HR.out.1, HR.out.2]; rfl, hb⟩
    · have hn0 : 0 < n := by
        obtain ⟨q, _⟩ := List.getElem?_eq_some_iff.1 h1
        rw [HN.out]; exact q
      obtain ⟨bR, oR, s0, a0, c0, rfl, hbl, hc, hsc, hfy, hmem, hgt, htk⟩ := hrat.at (k := 0) (by rw [← HN.out]; exact hn0)
      have hus : s0 = u := by
        have := hgt.out
        rw [h1] at this
        exact (Option.some.inj this).symm
      subst hus
      have hs3 := HX3.out s0 hmem
      have hnz : ¬ (n : Int) = 0 := by omega
      have hB : ((n : Int) == 0) = false := by rw [beq_eq_false_iff_ne]; omega
      have hnI : (0 : Int) < (n : Int) := by omega
      have hnI2 : ¬ (n : Int) ≤ 0 := by omega
      have hc' : W2.cell? ⟨bR, oR, none⟩ = some (.slice a0 s0.length c0) := hc
      obtain ⟨l0, hl0⟩ : ∃ l0, l0 = s0.length := ⟨_, rfl⟩
      rw [← hl0] at hc' hs3
      have HR := hid (show rE = 0 ∧ r = mnL l0 (X.take n) by rw [hl0, HN.out, List.take_length]; exact ⟨h2, h3⟩)
      clear h1 h2 h3 hc hgt htk hfy hmem hsc hl0
      go_wp2
      clear hc'
      go_loopg [6, 7] n (fun g v6 v7 wr => ∃ j : Nat, j + g = n ∧ v7 = .int .i64 (j : Int) ∧ v6 = .int .i64 ((mnL l0 (X.take j) : Nat) : Int) ∧ wr = W2)
      case atStart => exact ⟨0, by omega, rfl, rfl, rfl⟩
      case round =>
        obtain ⟨j, hjg, rfl, rfl, rfl⟩ := hrel
        cases gk with
        | zero =>
          obtain rfl : j = n := by omega
          have hjI : ¬ (j : Int) < (j : Int) := by omega
          obtain ⟨m, hm⟩ : ∃ m, m = mnL l0 (X.take j) := ⟨_, rfl⟩
          rw [← hm] at HR ⊢
          clear hm hrat
          go_wp2
          go_ret2
          exact ⟨by rw [HR.out.1, HR.out.2]; rfl, hb⟩
        | succ g =>
          have hjn : j < n := by omega
          obtain ⟨bS, oS, s, a', c', hEq, _, hc, hsc, hfy, hmem, hgt, htk⟩ := hrat.at (k := j) (by rw [← HN.out]; exact hjn)
          cases hEq
          have hjI : (j : Int) < n := by omega
          have hz0 : (0 : Int) ≤ (j : Int) := by omega
          have hsn := mnL_snoc l0 (X.take j) s
          rw [← htk.out] at hsn
          have hsl := HX3.out s hmem
          obtain ⟨ls, hls⟩ : ∃ ls, ls = s.length := ⟨_, rfl⟩
          rw [← hls] at hc hsn hsl
          obtain ⟨t, ht⟩ : ∃ t, t = mnL l0 (X.take j) := ⟨_, rfl⟩
          rw [← ht] at hsn ⊢
          have HSN := hid hsn
          clear hsc hfy hmem hgt htk hls ht hsn
          go_wp2
          go_roundg g
          case measure => omega
          case rel => exact ⟨j + 1, by omega, by go_num, by rw [HSN.out]; congr 1; omega, rfl⟩

set_option maxRecDepth 100000 in
set_option maxHeartbeats 6000000 in
theorem rFirst_any (L N : Int) (aP : Option Addr) (cP : Nat) (P : List F3) (F : Int) (w : World) (hP : Pz w aP P) (hcap : P.length ≤ cP) : Calls Try.prog 28 #[.agg #[.int .i64 L, .int .i64 N, .slice aP P.length cP, .int .i64 F]] w fun e w' => e = .returned (.tuple #[.int .i64 (fiR L N P F : Nat), .int .i64 (fiE L N P F)]) ∧ Below w.heap.size w w' := by
  obtain ⟨W, hW, hb, _, x0⟩ := boxes1 w #[.int .i64 L, .int .i64 N, .slice aP P.length cP, .int .i64 F] 24
  replace hP := hP.below hb (Nat.le_refl _)
  have hck := fun V (h : Pz V aP P) => rCheck_any L N aP cP P F V h.2 h.1
  cases hv : vB L N P F with
  | false =>
    have hE := fi_bad (L := L) (N := N) (F := F) (P := P) (by unfold chE; rw [hv]; decide)
    have hc2 : chE L N P F true = 110 := by unfold chE; rw [hv]; rfl
    rw [hc2] at hE
    have hc : ckE L N P F = 110 := by unfold ckE; rw [hv]; rfl
    rw [hc] at hck
    generalize fiE L N P F = rE at *
    generalize fiR L N P F = r at *
    have HE := hid hE
    clear hv hc hc2 hE
    have c0 := x0.cell 0 rfl; have c1 := x0.cell 1 rfl; have c2 := x0.cell 2 rfl; have c3 := x0.cell 3 rfl
    go_enter Try.func28, Try.ntmps28
    go_wp2_with fail
    refine (hck _ hP).mono ?_
    rintro e W1 ⟨rfl, hb1⟩
    replace hb := hb.trans (hb1.mono hb.size)
    clear hW hb1 c0 c1 c2 c3 hck x0 hP
    go_wp2
    go_ret2
    exact ⟨by rw [HE.out.1, HE.out.2]; rfl, hb⟩
  | true =>
    have hc : ckE L N P F = 0 := by unfold ckE; rw [hv]; rfl
    have hc2 : chE L N P F true = 0 := by unfold chE; rw [hv]; rfl
    rw [hc] at hck
    obtain ⟨hL, hN, hP8, hF3, _⟩ := vB_siz hv
    have hpr := vB_pr hv
    have h2 := fun i hs => fi_some (L := L) (N := N) (F := F) (P := P) (i := i) hc2 hs
    have h3 := fun hs => fi_none (L := L) (N := N) (F := F) (P := P) hc2 hs
    generalize fiE L N P F = rE at *
    generalize fiR L N P F = r at *
    obtain ⟨f, hf⟩ : ∃ f : Nat, F = (f : Int) := ⟨F.toNat, by omega⟩
    subst hf
    rw [Int.toNat_natCast] at h2 h3
    have hes := fun Q => ex_some hL hN Q f
    obtain ⟨m, hm⟩ : ∃ m, m = P.length := ⟨_, rfl⟩
    have hto : ∀ k, k ≤ m → ∀ v, Fz v aP P → Calls Try.prog 64 #[.agg #[.int .i64 L, .int .i64 N, .slice aP k cP, .int .i64 (f : Int)], .int .i64 (f : Int)] v (LLP (xpR L N (P.take k) f) v) := fun k hk v h => by
      have := explained_any L N aP cP (P.take k) (f : Int) f (by omega) v (h.take k) hL hN (fun p hp => hpr p (List.mem_of_mem_take hp))
      rw [List.length_take, ← hm, Nat.min_eq_left hk] at this
      exact this
    rw [← hm] at hP8 hcap hck x0 hW
    rw [← hm]
    have HM := hid hm
    have HTO := hid hto
    have HES := hid hes
    have H2 := hid h2
    have H3 := hid h3
    have hF5 : f ≤ 3 := by omega
    clear hv hL hN hpr hc hc2 hm hto hes h2 h3 hF3
    have c0 := x0.cell 0 rfl; have c1 := x0.cell 1 rfl; have c2 := x0.cell 2 rfl; have c3 := x0.cell 3 rfl
    go_enter Try.func28, Try.ntmps28
    go_wp2_with fail
    refine (hck _ hP).mono ?_
    rintro e W1 ⟨rfl, hb1⟩
    replace hb := hb.trans (hb1.mono hb.size)
    replace x0 := x0.below hb1
    have hPz := (hP.below hb1 (Nat.le_refl _)).2 (by have := HM.out; omega)
    clear hW hb1 c0 c1 c2 c3 hck hP
    go_wp2
    go_loopg [5, 6] m (fun g v5 v6 wr => ∃ i : Nat, i + g = m ∧ v5 = .int .i64 (i : Int) ∧ Hid (∀ k, k < i → exSome N (setsL L N f) (P.take (k + 1)) = true) ∧ Below W1.heap.size W1 wr)
    case atStart => exact ⟨0, by omega, rfl, hid (fun k hk => by omega), Below.refl _ _⟩
    case round =>
      obtain ⟨i, hig, rfl, hyes, hbr⟩ := hrel
      have xr := x0.below hbr
      have c0 := xr.cell 0 rfl; have c1 := xr.cell 1 rfl; have c2 := xr.cell 2 rfl; have c3 := xr.cell 3 rfl
      cases gk with
      | zero =>
        obtain rfl : i = m := by omega
        have hiI : ¬ (i : Int) < (i : Int) := by omega
        obtain ⟨r1, r2⟩ := H3.out (fiF_none (fun k hk => hyes.out k (by rw [HM.out]; exact hk)))
        have HR := hid (And.intro r1 r2)
        replace hb := hb.trans (hbr.mono hb.size)
        clear r1 r2 hyes hig xr
        go_wp2
        go_ret2
        exact ⟨by rw [HR.out.1, HR.out.2]; rfl, hb⟩
      | succ g =>
        have him : i < m := by omega
        have hiI : (i : Int) < (m : Int) := by omega
        have hi0 : (0 : Int) ≤ (i : Int) := by omega
        obtain ⟨k1, hk1⟩ : ∃ k1, k1 = i + 1 := ⟨_, rfl⟩
        have hw1 : IntKind.i64.wrap ((i : Int) + 1) = (k1 : Int) := by rw [IntWalk.i64_in _ (by omega)]; omega
        have hsl := slice_h22 aP m cP (k1 : Int) ⟨by omega, by omega⟩
        rw [Int.toNat_natCast] at hsl
        have hto := fun v h => HTO.out k1 (by omega) v h
        have hes := HES.out (P.take k1)
        obtain ⟨X, hX⟩ : ∃ X, X = xpR L N (P.take k1) f := ⟨_, rfl⟩
        rw [← hX] at hto hes
        have HK := hid hk1
        have HY := hid (show X ≠ [] → ∀ k, k < i + 1 → exSome N (setsL L N f) (P.take (k + 1)) = true from fun h k hk => by
          rcases Nat.lt_or_ge k i with h1 | h1
          · exact hyes.out k h1
          · obtain rfl : k = i := by omega
            rw [hk1] at hes
            rw [hes]
            simpa using h)
        have HNo := hid (show X = [] → exSome N (setsL L N f) (P.take (i + 1)) = false from fun h => by
          rw [hk1] at hes
          rw [hes, h]; rfl)
        have hPr := hPz.below hbr (Nat.le_refl _)
        have x3 := Bx.new wr #[.int .i64 L, .int .i64 N, .slice aP m cP, .int .i64 (f : Int)] 24
        have y3 := Bx.new wr #[.int .i64 L, .int .i64 N, .slice aP k1 cP, .int .i64 (f : Int)] 24
        have hbb := below_one (w := wr) (.cells #[.int .i64 L, .int .i64 N, .slice aP k1 cP, .int .i64 (f : Int)] 24)
        have hlt2 := xr.lt
        have hne : w.heap.size ≠ wr.heap.size := by omega
        have HXa := hid (And.intro (xr.below hbb) (And.intro (hPr.below hbb (Nat.le_refl _)) (And.intro (hbr.trans (hbb.mono hbr.size)) y3)))
        have d2 := x3.cell 2 rfl
        have f2 := x3.free 2
        have e2 := (xr.below (below_one (w := wr) (.cells #[.int .i64 L, .int .i64 N, .slice aP m cP, .int .i64 (f : Int)] 24))).cell 2 rfl
        have HYES := hid hyes.out
        clear hk1 hes hX hyes x3 y3 hbb hPr xr hbr
        go_upto_region 9 with fail
        clear e2 d2 f2 c0 c1 c2 c3
        obtain ⟨xr, hPr, hbr, y3⟩ := HXa.out
        clear HXa
        generalize World.alloc _ _ = Y at *
        obtain ⟨s3, hs3⟩ : ∃ s3, s3 = wr.heap.size := ⟨_, rfl⟩
        rw [← hs3] at y3 ⊢
        clear hs3
        have c0 := xr.cell 0 rfl; have c1 := xr.cell 1 rfl; have c2 := xr.cell 2 rfl; have c3 := xr.cell 3 rfl
        have d0 := y3.cell 0 rfl; have d1 := y3.cell 1 rfl; have d2 := y3.cell 2 rfl; have d3 := y3.cell 3 rfl
        go_wp2_with fail
        refine (hto _ hPr).mono ?_
        rintro e V1 ⟨hb3, aT, cT, rfl, _, _⟩
        replace hbr := hbr.trans (hb3.mono hbr.size)
        clear hb3 hto hPr c0 c1 c2 c3 d0 d1 d2 d3 xr y3
        by_cases h0 : X.length = 0
        · have hX0 : X = [] := List.eq_nil_of_length_eq_zero h0
          obtain ⟨r1, r2⟩ := H2.out i (fiF_at HYES.out (by rw [← HM.out]; exact him) (HNo.out hX0))
          have HR := hid (And.intro r1 r2)
          replace hb := hb.trans (hbr.mono hb.size)
          rw [h0]
          clear r1 r2 h0 hX0
          go_wp2
          go_ret2
          exact ⟨by rw [HR.out.1, HR.out.2]; rfl, hb⟩
        · have hX0 : X ≠ [] := fun e => h0 (by rw [e]; rfl)
          have hB : ((X.length : Int) == 0) = false := by rw [beq_eq_false_iff_ne]; omega
          have HY2 := hid (HY.out hX0)
          clear h0 hX0 HY HNo HYES
          go_wp2
          go_roundg g
          case measure => omega
          case rel => exact ⟨i + 1, by omega, by rw [HK.out], HY2, hbr⟩
end Go.Proofs.Ytmpihcencnkpbaa
