import Derived.Test.YteianfbdhakhpaaTZ
import Derived.Test.YteianfbdhakhpaaT8
/-! The specification's clean pulses. -/
namespace Go.Proofs.Yteianfbdhakhpaa
set_option linter.unusedSimpArgs false
set_option linter.unusedVariables false
open Go Go.RowKit
theorem run_uniq {X : Pu} {ts : List Int} {k a b : Nat} (h : Run X ts k a) (h' : Run X ts k b) : a = b := by
  have key : ∀ a b, Run X ts k a → Run X ts k b → ¬ a < b := fun a b h h' hl => by
    obtain ⟨h1, h2, h3, h4⟩ := h
    obtain ⟨g1, g2, g3, g4⟩ := h'
    have e1 : ts[k + a - 1]? = some ts[k + a - 1] := List.getElem?_eq_getElem _
    have e2 : ts[k + a]? = some ts[k + a] := List.getElem?_eq_getElem _
    have := h4 _ _ e1 e2
    rw [g3 (a - 1) _ _ (by omega) (by rw [← e1]; congr 1; omega) (by rw [← e2]; congr 1; omega)] at this
    cases this
  have p := key a b h h'
  have q := key b a h' h
  omega
set_option maxRecDepth 100000 in
set_option maxHeartbeats 6000000 in
theorem Clean_any (aT : Option Addr) (cT : Nat) (X : Pu) (ok : POk X) (a : Option Addr) (c : Nat) (ts : List Int) (w : World) (hI : Ints w a ts) (h24 : ts.length ≤ 24) (hr : ∀ x ∈ ts, 0 ≤ x ∧ x ≤ 99999) : Calls Try.prog 42 #[.agg #[.int .i64 X.l, .int .i64 X.n, .int .i64 X.pi, .int .i64 X.sl, .int .i64 X.ga, .int .i64 X.pa, .int .i64 X.sp, .slice aT X.ts.length cT], .slice a ts.length c] w (LoP (lof X ts) w) := by
  obtain ⟨j0, hj0, jz0, jz1, jz2⟩ := info_parts info3i
  obtain ⟨W, hW, hb, hsz, x0⟩ := boxes1 w #[.int .i64 X.l, .int .i64 X.n, .int .i64 X.pi, .int .i64 X.sl, .int .i64 X.ga, .int .i64 X.pa, .int .i64 X.sp, .slice aT X.ts.length cT] 24
  replace hI := hI.below hb (Nat.le_refl _)
  have hgr := fun k (hk : k < ts.length) V h => group_any aT cT X ok a c ts k V h h24 hr hk
  have hwg := fun x V => within_any X.ga x (X.pa - 1) V
  have hwn := fun x V => within_any 1 x X.n V
  have HST := hid (show ∀ k a1 L, k < ts.length → Run X ts k a1 → lof X ts = lofA X (prtL X.pa (ts.drop k)) L → lof X ts = none ∨ ∃ b y z, _ from fun k a1 L hk hrun e => by
    by_cases h : lof X ts = none
    · exact .inl h
    · rw [e] at h
      obtain ⟨b, y, z, q1, q2, q3, q4, q5, q6, q7, q8, q9⟩ := cl_good ok hk hrun h
      rw [← e] at q9
      exact .inr ⟨b, y, z, And.intro q1 (And.intro q2 (And.intro q3 (And.intro q4 (And.intro q5 (And.intro q6 (And.intro q7 (And.intro q8 q9)))))))⟩)
  have h1 := ok.l
  have h2 := ok.n
  have h3 := ok.ga
  have h4 := ok.pa
  have h5 := ok.pi
  have h6 := ok.sl
  have HG := hid (show ∀ (i : Nat) (y : Int), ts[i]? = some y → 0 ≤ y ∧ y ≤ 99999 from fun i y h => hr y (List.mem_of_getElem? h))
  have HLO := hid (show lof X ts = lofA X (prtL X.pa (ts.drop 0)) [] from rfl)
  have HOK := hid ok
  clear hr ok
  generalize hO : lof X ts = O at *
  generalize hN : ts.length = N at *
  have HN := hid hN.symm
  clear hN hO
  generalize X.ts.length = m at *
  have HX0 := hid (And.intro x0 hb)
  have hW1 := hb.size
  have c0 := x0.cell 0 rfl; have c1 := x0.cell 1 rfl; have c2 := x0.cell 2 rfl; have c3 := x0.cell 3 rfl; have c4 := x0.cell 4 rfl; have c5 := x0.cell 5 rfl; have c6 := x0.cell 6 rfl; have c7 := x0.cell 7 rfl
  go_enter Try.func42, Try.ntmps42
  go_wp2
  clear hW c0 c1 c2 c3 c4 c5 c6 c7 x0 hb
  go_loopw [4, 5, 6, 7] (fun v4 v5 v6 v7 wr => ∃ (k p : Nat) (a1 : Option Addr) (e1c : Nat) (L : List Int), k ≤ N ∧ v4 = .slice none 0 0 ∧ v5 = .bool false ∧ v7 = .int .i64 (k : Int) ∧ v6 = .slice a1 p e1c ∧ p ≤ k ∧ Hid (p = L.length ∧ O = lofA X (prtL X.pa (ts.drop k)) L ∧ ∀ v ∈ L, -9223372036854775808 ≤ v ∧ v ≤ 9223372036854775807) ∧ wr.ownsRow W.heap.size 3 1 (.slice a1 p e1c) p (L.map (Value.int .i64)) ∧ Below W.heap.size W wr) (fun _ _ _ v7 _ => N - (intOf v7).toNat)
  case atStart => exact ⟨0, 0, none, 0, [], Nat.zero_le _, rfl, rfl, rfl, rfl, Nat.le_refl _, hid ⟨rfl, HLO.out, fun _ h => nomatch h⟩, World.ownsRow_nil _ _ _ _, Below.refl _ _⟩
  case round =>
    obtain ⟨k, p, a1, e1c, L, hk, rfl, rfl, rfl, rfl, hpk, HL, hown, hb⟩ := hrel
    have x0 := HX0.out.1.below hb
    by_cases hlt : k < N
    · skip
      have c0 := x0.cell 0 rfl; have c1 := x0.cell 1 rfl; have c2 := x0.cell 2 rfl; have c3 := x0.cell 3 rfl; have c4 := x0.cell 4 rfl; have c5 := x0.cell 5 rfl; have c6 := x0.cell 6 rfl; have c7 := x0.cell 7 rfl
      go_wp2_with fail
      refine (hgr k hlt _ (hI.below hb (Nat.le_refl _))).mono ?_
      rintro e V1 ⟨⟨n1, hrun, rfl⟩, hb1⟩
      have HRUN := hid hrun
      have hr1 := hrun.1
      have hr2 := hrun.2.1
      rw [← HN.out] at hr2
      clear hrun c0 c1 c2 c3 c4 c5 c6 c7
      replace hown := own_below2 hown hb1
      replace x0 := x0.below hb1
      replace hb := hb.trans (hb1.mono hb.size)
      clear hb1
      obtain ⟨nx, hnx⟩ : ∃ nx, nx = k + n1 := ⟨_, rfl⟩
      have hnx1 : nx ≤ k + n1 := by omega
      have hnx2 : k + n1 ≤ nx := by omega
      have H_hnx := hid hnx
      clear hnx
      have ewx : (k : Int) + (n1 : Int) = (nx : Int) := by omega
      have EWX := hid ewx
      clear ewx
      have HS := HST.out k n1 L (by rw [← HN.out] at *; exact hlt) HRUN.out HL.out.2.1
      have HSS := hid HS
      clear HS
      by_cases hl2 : nx < N
      · obtain ⟨j, hj⟩ : ∃ j, j = nx - 1 := ⟨_, rfl⟩
        have hj1 : j ≤ nx - 1 := by omega
        have hj2 : nx - 1 ≤ j := by omega
        have H_hj := hid hj
        clear hj
        obtain ⟨b, off, y, rfl, hbl, hc, hy1, hy2, hg, _⟩ := (hI.below hb (Nat.le_refl _)).at (k := nx) (by rw [← HN.out]; exact hl2)
        obtain ⟨b', off', z, eb, hbl', hc', hz1, hz2, hg', _⟩ := (hI.below hb (Nat.le_refl _)).at (k := j) (by rw [← HN.out]; omega)
        simp only [Option.some.injEq, Addr.mk.injEq, and_true] at eb
        obtain ⟨rfl, rfl⟩ := eb
        have hcl : ClB V1 b (off + nx) (.int .i64 y) := ⟨hc, hbl⟩
        have hcl' : ClB V1 b (off + j) (.int .i64 z) := ⟨hc', hbl'⟩
        have ry := HG.out nx y hg.out
        have rz := HG.out j z hg'.out
        have hwi1 := hwg (y - z)
        clear hc hc' hy1 hy2 hz1 hz2
        cases hd : fromI X.ga (y - z) (X.pa - 1) with
        | true =>
          rw [hd] at hwi1
          simp only [fromI, Bool.and_eq_true, decide_eq_true_eq] at hd
          go_upto_region 6 with fail
          rw [EWX.out]
          have S0 : BlS V1 V1.drew := (Below.refl V1.heap.size V1).drew
          refine wp_region_headW 22 (fun w' => BlS V1 w') (by kernel_rfl) (by kernel_rfl) ?_
          generalize V1.drew = Y0 at *
          refine HeadAt.takeW (i := 0) (.int .i64 (nx : Int)) rfl (by kernel_rfl) (.inl ⟨rfl, fun _ _ => by simp [go_sem]⟩) S0 ?_
          (try simp only [Act.put, List.getElem_toArray, List.getElem_cons_succ, List.getElem_cons_zero, List.setIfInBounds_toArray, List.set_cons_succ, List.set_cons_zero])
          refine HeadAt.takeW (i := 1) (.slice (some ⟨b, off, none⟩) N c) rfl (by kernel_rfl) (.inl ⟨rfl, fun _ _ => by simp [go_sem]⟩) S0 ?_
          (try simp only [Act.put, List.getElem_toArray, List.getElem_cons_succ, List.getElem_cons_zero, List.setIfInBounds_toArray, List.set_cons_succ, List.set_cons_zero])
          refine HeadAt.takeW (i := 2) (.int .i64 (N : Int)) rfl (by kernel_rfl) (.inl ⟨rfl, fun w' z => ?_⟩) S0 ?_
          · (simp [go_sem])
          (try simp only [Act.put, List.getElem_toArray, List.getElem_cons_succ, List.getElem_cons_zero, List.setIfInBounds_toArray, List.set_cons_succ, List.set_cons_zero])
          refine HeadAt.takeW (i := 3) (.bool true) rfl (by kernel_rfl) (.inl ⟨rfl, fun w' z => ?_⟩) S0 ?_
          · (simp [go_sem] <;> omega)
          (try simp only [Act.put, List.getElem_toArray, List.getElem_cons_succ, List.getElem_cons_zero, List.setIfInBounds_toArray, List.set_cons_succ, List.set_cons_zero])
          refine HeadAt.takeW (i := 4) (.bool true) rfl (by kernel_rfl) (.inl ⟨rfl, fun _ _ => by simp [go_sem]⟩) S0 ?_
          (try simp only [Act.put, List.getElem_toArray, List.getElem_cons_succ, List.getElem_cons_zero, List.setIfInBounds_toArray, List.set_cons_succ, List.set_cons_zero])
          refine HeadAt.takeW (i := 5) (.slice (some ⟨b, off, none⟩) N c) rfl (by kernel_rfl) (.inl ⟨rfl, fun _ _ => by simp [go_sem]⟩) S0 ?_
          (try simp only [Act.put, List.getElem_toArray, List.getElem_cons_succ, List.getElem_cons_zero, List.setIfInBounds_toArray, List.set_cons_succ, List.set_cons_zero])
          refine HeadAt.takeW (i := 6) (.int .i64 (nx : Int)) rfl (by kernel_rfl) (.inl ⟨rfl, fun _ _ => by simp [go_sem]⟩) S0 ?_
          (try simp only [Act.put, List.getElem_toArray, List.getElem_cons_succ, List.getElem_cons_zero, List.setIfInBounds_toArray, List.set_cons_succ, List.set_cons_zero])
          refine HeadAt.takeW (i := 7) (.pointer (some ⟨b, off + nx, none⟩)) rfl (by kernel_rfl) (.inl ⟨rfl, fun w' z => ?_⟩) S0 ?_
          · (have i1 : (0 : Int) ≤ (nx : Int) := (by omega); have i2 : (nx : Int) < (N : Int) := (by omega); simp [go_sem, i1, i2])
          (try simp only [Act.put, List.getElem_toArray, List.getElem_cons_succ, List.getElem_cons_zero, List.setIfInBounds_toArray, List.set_cons_succ, List.set_cons_zero])
          refine HeadAt.takeW (i := 8) (.int .i64 y) rfl (by kernel_rfl) (.inl ⟨rfl, fun w' z => ?_⟩) S0 ?_
          · (have z0 := (hcl.below z).1; simp [go_sem, z0])
          (try simp only [Act.put, List.getElem_toArray, List.getElem_cons_succ, List.getElem_cons_zero, List.setIfInBounds_toArray, List.set_cons_succ, List.set_cons_zero])
          refine HeadAt.takeW (i := 9) (.slice (some ⟨b, off, none⟩) N c) rfl (by kernel_rfl) (.inl ⟨rfl, fun _ _ => by simp [go_sem]⟩) S0 ?_
          (try simp only [Act.put, List.getElem_toArray, List.getElem_cons_succ, List.getElem_cons_zero, List.setIfInBounds_toArray, List.set_cons_succ, List.set_cons_zero])
          refine HeadAt.takeW (i := 10) (.int .i64 (nx : Int)) rfl (by kernel_rfl) (.inl ⟨rfl, fun _ _ => by simp [go_sem]⟩) S0 ?_
          (try simp only [Act.put, List.getElem_toArray, List.getElem_cons_succ, List.getElem_cons_zero, List.setIfInBounds_toArray, List.set_cons_succ, List.set_cons_zero])
          refine HeadAt.takeW (i := 11) (.int .i64 (j : Int)) rfl (by kernel_rfl) (.inl ⟨rfl, fun w' z => ?_⟩) S0 ?_
          · (simp [go_sem] <;> (first | omega | (rw [IntWalk.i64_in _ (by omega)] <;> omega)))
          (try simp only [Act.put, List.getElem_toArray, List.getElem_cons_succ, List.getElem_cons_zero, List.setIfInBounds_toArray, List.set_cons_succ, List.set_cons_zero])
          refine HeadAt.takeW (i := 12) (.pointer (some ⟨b, off + j, none⟩)) rfl (by kernel_rfl) (.inl ⟨rfl, fun w' z => ?_⟩) S0 ?_
          · (have i1 : (0 : Int) ≤ (j : Int) := (by omega); have i2 : (j : Int) < (N : Int) := (by omega); simp [go_sem, i1, i2])
          (try simp only [Act.put, List.getElem_toArray, List.getElem_cons_succ, List.getElem_cons_zero, List.setIfInBounds_toArray, List.set_cons_succ, List.set_cons_zero])
          refine HeadAt.takeW (i := 13) (.int .i64 z) rfl (by kernel_rfl) (.inl ⟨rfl, fun w' z => ?_⟩) S0 ?_
          · (have z0 := (hcl'.below z).1; simp [go_sem, z0])
          (try simp only [Act.put, List.getElem_toArray, List.getElem_cons_succ, List.getElem_cons_zero, List.setIfInBounds_toArray, List.set_cons_succ, List.set_cons_zero])
          refine HeadAt.takeW (i := 14) (.int .i64 (y - z)) rfl (by kernel_rfl) (.inl ⟨rfl, fun w' z => ?_⟩) S0 ?_
          · (simp [go_sem] <;> (first | omega | (rw [IntWalk.i64_in _ (by omega)] <;> omega)))
          (try simp only [Act.put, List.getElem_toArray, List.getElem_cons_succ, List.getElem_cons_zero, List.setIfInBounds_toArray, List.set_cons_succ, List.set_cons_zero])
          refine HeadAt.takeW (i := 15) (.pointer (some ⟨w.heap.size, 4, none⟩)) rfl (by kernel_rfl) (.inl ⟨rfl, fun _ _ => by simp [go_sem]⟩) S0 ?_
          (try simp only [Act.put, List.getElem_toArray, List.getElem_cons_succ, List.getElem_cons_zero, List.setIfInBounds_toArray, List.set_cons_succ, List.set_cons_zero])
          refine HeadAt.takeW (i := 16) (.int .i64 X.ga) rfl (by kernel_rfl) (.inl ⟨rfl, fun w' z => ?_⟩) S0 ?_
          · (have z0 := (x0.below z).cell 4 rfl; simp [go_sem, z0])
          (try simp only [Act.put, List.getElem_toArray, List.getElem_cons_succ, List.getElem_cons_zero, List.setIfInBounds_toArray, List.set_cons_succ, List.set_cons_zero])
          refine HeadAt.takeW (i := 17) (.pointer (some ⟨w.heap.size, 5, none⟩)) rfl (by kernel_rfl) (.inl ⟨rfl, fun _ _ => by simp [go_sem]⟩) S0 ?_
          (try simp only [Act.put, List.getElem_toArray, List.getElem_cons_succ, List.getElem_cons_zero, List.setIfInBounds_toArray, List.set_cons_succ, List.set_cons_zero])
          refine HeadAt.takeW (i := 18) (.int .i64 X.pa) rfl (by kernel_rfl) (.inl ⟨rfl, fun w' z => ?_⟩) S0 ?_
          · (have z0 := (x0.below z).cell 5 rfl; simp [go_sem, z0])
          (try simp only [Act.put, List.getElem_toArray, List.getElem_cons_succ, List.getElem_cons_zero, List.setIfInBounds_toArray, List.set_cons_succ, List.set_cons_zero])
          refine HeadAt.takeW (i := 19) (.int .i64 (X.pa - 1)) rfl (by kernel_rfl) (.inl ⟨rfl, fun w' z => ?_⟩) S0 ?_
          · (simp [go_sem] <;> (first | omega | (rw [IntWalk.i64_in _ (by omega)] <;> omega)))
          (try simp only [Act.put, List.getElem_toArray, List.getElem_cons_succ, List.getElem_cons_zero, List.setIfInBounds_toArray, List.set_cons_succ, List.set_cons_zero])
          refine HeadAt.one (i := 20) rfl (by kernel_rfl) ?_
          generalize hK : Upto _ _ = K0
          (try simp only [Act.put, List.getElem_toArray, List.getElem_cons_succ, List.getElem_cons_zero, List.setIfInBounds_toArray, List.set_cons_succ, List.set_cons_zero])
          go_wp2_with fail
          refine (hwi1 _).mono ?_
          rintro e V1 ⟨rfl, rfl⟩
          go_wp2_with fail
          subst hK
          refine ⟨S0, ?_⟩
          (try simp only [Act.put, List.getElem_toArray, List.getElem_cons_succ, List.getElem_cons_zero, List.setIfInBounds_toArray, List.set_cons_succ, List.set_cons_zero])
          refine HeadAt.takeW (i := 21) (.bool true) rfl (by kernel_rfl) (.inl ⟨rfl, fun _ _ => by simp [go_sem]⟩) S0 ?_
          (try simp only [Act.put, List.getElem_toArray, List.getElem_cons_succ, List.getElem_cons_zero, List.setIfInBounds_toArray, List.set_cons_succ, List.set_cons_zero])
          refine HeadAt.done (by kernel_rfl) ?_
          (try simp only [Act.put, List.drop_succ_cons, List.drop_zero, List.getElem_toArray, List.getElem_cons_succ, List.getElem_cons_zero])
          go_wp2_with fail
          refine NoPanic.normal ?_
          replace hown := own_below2 hown S0
          replace x0 := x0.below S0
          replace hb := hb.trans (Below.mono S0 hb.size)
          clear S0
          have c0 := x0.cell 0 rfl; have c1 := x0.cell 1 rfl; have c2 := x0.cell 2 rfl; have c3 := x0.cell 3 rfl; have c4 := x0.cell 4 rfl; have c5 := x0.cell 5 rfl; have c6 := x0.cell 6 rfl; have c7 := x0.cell 7 rfl
          go_wp2_with fail
          refine (hgr nx hl2 _ (hI.below hb (Nat.le_refl _))).mono ?_
          rintro e V2 ⟨⟨n2, hrun2, rfl⟩, hb1⟩
          have HRUN2 := hid hrun2
          have hq1 := hrun2.1
          have hq2 := hrun2.2.1
          rw [← HN.out] at hq2
          clear hrun2 c0 c1 c2 c3 c4 c5 c6 c7
          replace hown := own_below2 hown hb1
          replace x0 := x0.below hb1
          replace hb := hb.trans (hb1.mono hb.size)
          clear hb1
          have HS2 := hid (show O = none ∨ ((n1 : Int) ≤ X.l ∧ (n2 : Int) ≤ X.n ∧ (∀ y z, ts[nx + n2 - 1]? = some y → ts[nx + n2]? = some z → X.pa ≤ z - y) ∧ O = lofA X (prtL X.pa (ts.drop (nx + n2))) (L ++ [((n1 : Int) - 1) * X.n + n2 - 1])) from by
            rcases HSS.out with h | ⟨b9, y9, z9, q1, q2, q3, q4, q5, q6, q7, q8, q9⟩
            · exact .inl h
            · rw [← H_hnx.out] at q1 q8 q9
              have e := run_uniq q1 HRUN2.out
              subst e
              exact .inr ⟨q6, q7, q8, q9⟩)
          have HGAP := hid (show ∀ y z, ts[nx - 1]? = some y → ts[nx]? = some z → X.ga ≤ z - y ∧ z - y ≤ X.pa - 1 from fun y9 z9 q1 q2 => by
            rw [show nx - 1 = j by omega, hg'.out] at q1
            rw [hg.out] at q2
            cases q1; cases q2; exact hd)
          clear HSS hd hg hg' hcl hcl'
          have c0 := x0.cell 0 rfl; have c1 := x0.cell 1 rfl; have c2 := x0.cell 2 rfl; have c3 := x0.cell 3 rfl; have c4 := x0.cell 4 rfl; have c5 := x0.cell 5 rfl; have c6 := x0.cell 6 rfl; have c7 := x0.cell 7 rfl
          by_cases hal : (n1 : Int) > X.l
          · have HNO := hid (show O = none from by
              rcases HS2.out with h | ⟨q1, _⟩
              · exact h
              · omega)
            go_wp2
            go_ret2
            exact ⟨HX0.out.2.trans (hb.mono hW1), .inl ⟨HNO.out, rfl⟩⟩
          · have hw0 := hwn (n2 : Int)
            by_cases hnn : (n2 : Int) ≤ X.n
            · rw [show fromI 1 (n2 : Int) X.n = true by simp [fromI]; omega] at hw0
              obtain ⟨pr, hpr⟩ : ∃ pr, pr = ((n1 : Int) - 1) * X.n := ⟨_, rfl⟩
              have hprb : 0 ≤ pr ∧ pr ≤ 20 := by
                rw [hpr]
                exact ⟨Int.mul_nonneg (by omega) (by omega), Int.le_trans (Int.mul_le_mul (show (n1 : Int) - 1 ≤ 4 by omega) (show X.n ≤ 5 by omega) (by omega) (by omega)) (by decide)⟩
              have ew2 : IntKind.i64.wrap (((n1 : Int) - 1) * X.n) = pr := by rw [← hpr]; exact IntWalk.i64_in _ (by omega)
              have HVV := hid (show ((n1 : Int) - 1) * X.n + n2 - 1 = pr + (n2 : Int) - 1 ∧ -9223372036854775808 ≤ pr + (n2 : Int) - 1 ∧ pr + (n2 : Int) - 1 ≤ 9223372036854775807 by rw [← hpr]; omega)
              clear hpr
              go_wp2_with fail
              refine (hw0 _).mono ?_
              rintro e V3 ⟨rfl, rfl⟩
              have hwz := hb.size
              go_upto_region 11 with (at_builtin
                                      go_loud (refine wpList_append_own _ rfl _ _ 22 rfl W.heap.size 3 j0 (.int .i64 0) 1 8 under22 hj0 jz0 jz1 jz2 rfl (by decide) (.slice a1 p e1c) p _ rfl (hown.alloc _) ⟨V2.heap.size, 0, none⟩ 1 1 [.int .i64 (pr + (n2 : Int) - 1)] rfl rfl (cell_one_new _ _ _) (ints_oneCell .i64 [pr + (n2 : Int) - 1]) (by unfold maxLen; omega) (by omega) (by simp; omega) ?_)
                                      intro v9 W9 hrow9 hg9 _
                                      obtain ⟨a9, c9, rfl⟩ := own_slice2 hrow9)
              have hba := below_one (w := V2) (.cells #[.int .i64 (pr + (n2 : Int) - 1)] 3)
              have hb3 : Below W.heap.size W W9 := (hb.trans (hba.mono hb.size)).grown hg9 (by have := hb.size; simp; omega) (own_ge hown)
              have hrow10 : W9.ownsRow W.heap.size 3 1 (.slice a9 (p + 1) c9) (p + 1) ((L ++ [pr + (n2 : Int) - 1]).map (Value.int .i64)) := by simpa using hrow9
              clear hown hg9 hrow9 hb x0 c0 c1 c2 c3 c4 c5 c6 c7 hba ew2
              have x0 := HX0.out.1.below hb3
              obtain ⟨q, hq⟩ : ∃ q, q = nx + n2 := ⟨_, rfl⟩
              have hq1 : q ≤ nx + n2 := by omega
              have hq2 : nx + n2 ≤ q := by omega
              have H_hq := hid hq
              clear hq
              have HPOS := hid (show (∀ y z, ts[q - 1]? = some y → ts[q]? = some z → X.pa ≤ z - y) → lofA X (prtL X.pa (ts.drop k)) L = lofA X (prtL X.pa (ts.drop q)) (L ++ [((n1 : Int) - 1) * X.n + n2 - 1]) from fun hp => by
                have hh := cl_pos HOK.out HRUN.out (by rw [← H_hnx.out]; exact HRUN2.out) (by rw [← H_hnx.out]; exact HGAP.out) (by omega) hnn (by rw [← H_hnx.out, ← H_hq.out]; exact hp) L
                rw [← H_hnx.out, ← H_hq.out] at hh
                exact hh)
              have EWQ := hid (show (k : Int) + ((n1 : Int) + (n2 : Int)) = (q : Int) by omega)
              have HNEW := hid (show (∀ y z, ts[q - 1]? = some y → ts[q]? = some z → X.pa ≤ z - y) → O = lofA X (prtL X.pa (ts.drop q)) (L ++ [pr + (n2 : Int) - 1]) from fun hp => by
                have hp2 := HPOS.out hp
                rw [HVV.out.1] at hp2
                exact HL.out.2.1.trans hp2)
              clear HPOS
              have HLN := hid (show p + 1 = (L ++ [pr + (n2 : Int) - 1]).length ∧ ∀ v ∈ L ++ [pr + (n2 : Int) - 1], -9223372036854775808 ≤ v ∧ v ≤ 9223372036854775807 from ⟨by rw [List.length_append, HL.out.1]; rfl, fun v hv => by
                rcases List.mem_append.1 hv with hv | hv
                · exact HL.out.2.2 v hv
                · rw [List.mem_singleton.1 hv]; exact HVV.out.2⟩)
              by_cases hl3 : q < N
              · obtain ⟨j3, hj3⟩ : ∃ j3, j3 = q - 1 := ⟨_, rfl⟩
                have hj31 : j3 ≤ q - 1 := by omega
                have hj32 : q - 1 ≤ j3 := by omega
                have H_hj3 := hid hj3
                clear hj3
                obtain ⟨b3, off3, y3, eb3, hbl3, hc3, hy1, hy2, hg3, _⟩ := (hI.below hb3 (Nat.le_refl _)).at (k := q) (by rw [← HN.out]; exact hl3)
                simp only [Option.some.injEq, Addr.mk.injEq, and_true] at eb3
                obtain ⟨rfl, rfl⟩ := eb3
                obtain ⟨b', off', z3, eb, hbl', hc', hz1, hz2, hg', _⟩ := (hI.below hb3 (Nat.le_refl _)).at (k := j3) (by rw [← HN.out]; omega)
                simp only [Option.some.injEq, Addr.mk.injEq, and_true] at eb
                obtain ⟨rfl, rfl⟩ := eb
                have hcl : ClB W9 b (off + q) (.int .i64 y3) := ⟨hc3, hbl3⟩
                have hcl' : ClB W9 b (off + j3) (.int .i64 z3) := ⟨hc', hbl'⟩
                have ry3 := HG.out q y3 hg3.out
                have rz3 := HG.out j3 z3 hg'.out
                clear hc3 hc' hy1 hy2 hz1 hz2
                by_cases hpp : y3 - z3 < X.pa
                · have HNO := hid (show O = none from by
                    rcases HS2.out with h | ⟨_, _, q3, _⟩
                    · exact h
                    · rw [← H_hq.out] at q3
                      have := q3 z3 y3 (by rw [← H_hj3.out]; exact hg'.out) hg3.out
                      omega)
                  clear HNEW
                  go_upto_region 12 with fail
                  rw [EWQ.out]
                  have S0 : BlS W9 W9.drew := (Below.refl W9.heap.size W9).drew
                  refine wp_region_headW 19 (fun w' => BlS W9 w') (by kernel_rfl) (by kernel_rfl) ?_
                  generalize W9.drew = Y0 at *
                  refine HeadAt.takeW (i := 0) (.int .i64 (q : Int)) rfl (by kernel_rfl) (.inl ⟨rfl, fun _ _ => by simp [go_sem]⟩) S0 ?_
                  (try simp only [Act.put, List.getElem_toArray, List.getElem_cons_succ, List.getElem_cons_zero, List.setIfInBounds_toArray, List.set_cons_succ, List.set_cons_zero])
                  refine HeadAt.takeW (i := 1) (.slice (some ⟨b, off, none⟩) N c) rfl (by kernel_rfl) (.inl ⟨rfl, fun _ _ => by simp [go_sem]⟩) S0 ?_
                  (try simp only [Act.put, List.getElem_toArray, List.getElem_cons_succ, List.getElem_cons_zero, List.setIfInBounds_toArray, List.set_cons_succ, List.set_cons_zero])
                  refine HeadAt.takeW (i := 2) (.int .i64 (N : Int)) rfl (by kernel_rfl) (.inl ⟨rfl, fun w' z => ?_⟩) S0 ?_
                  · (simp [go_sem])
                  (try simp only [Act.put, List.getElem_toArray, List.getElem_cons_succ, List.getElem_cons_zero, List.setIfInBounds_toArray, List.set_cons_succ, List.set_cons_zero])
                  refine HeadAt.takeW (i := 3) (.bool true) rfl (by kernel_rfl) (.inl ⟨rfl, fun w' z => ?_⟩) S0 ?_
                  · (simp [go_sem] <;> omega)
                  (try simp only [Act.put, List.getElem_toArray, List.getElem_cons_succ, List.getElem_cons_zero, List.setIfInBounds_toArray, List.set_cons_succ, List.set_cons_zero])
                  refine HeadAt.takeW (i := 4) (.bool true) rfl (by kernel_rfl) (.inl ⟨rfl, fun _ _ => by simp [go_sem]⟩) S0 ?_
                  (try simp only [Act.put, List.getElem_toArray, List.getElem_cons_succ, List.getElem_cons_zero, List.setIfInBounds_toArray, List.set_cons_succ, List.set_cons_zero])
                  refine HeadAt.takeW (i := 5) (.slice (some ⟨b, off, none⟩) N c) rfl (by kernel_rfl) (.inl ⟨rfl, fun _ _ => by simp [go_sem]⟩) S0 ?_
                  (try simp only [Act.put, List.getElem_toArray, List.getElem_cons_succ, List.getElem_cons_zero, List.setIfInBounds_toArray, List.set_cons_succ, List.set_cons_zero])
                  refine HeadAt.takeW (i := 6) (.int .i64 (q : Int)) rfl (by kernel_rfl) (.inl ⟨rfl, fun _ _ => by simp [go_sem]⟩) S0 ?_
                  (try simp only [Act.put, List.getElem_toArray, List.getElem_cons_succ, List.getElem_cons_zero, List.setIfInBounds_toArray, List.set_cons_succ, List.set_cons_zero])
                  refine HeadAt.takeW (i := 7) (.pointer (some ⟨b, off + q, none⟩)) rfl (by kernel_rfl) (.inl ⟨rfl, fun w' z => ?_⟩) S0 ?_
                  · (have i1 : (0 : Int) ≤ (q : Int) := (by omega); have i2 : (q : Int) < (N : Int) := (by omega); simp [go_sem, i1, i2])
                  (try simp only [Act.put, List.getElem_toArray, List.getElem_cons_succ, List.getElem_cons_zero, List.setIfInBounds_toArray, List.set_cons_succ, List.set_cons_zero])
                  refine HeadAt.takeW (i := 8) (.int .i64 y3) rfl (by kernel_rfl) (.inl ⟨rfl, fun w' z => ?_⟩) S0 ?_
                  · (have z0 := (hcl.below z).1; simp [go_sem, z0])
                  (try simp only [Act.put, List.getElem_toArray, List.getElem_cons_succ, List.getElem_cons_zero, List.setIfInBounds_toArray, List.set_cons_succ, List.set_cons_zero])
                  refine HeadAt.takeW (i := 9) (.slice (some ⟨b, off, none⟩) N c) rfl (by kernel_rfl) (.inl ⟨rfl, fun _ _ => by simp [go_sem]⟩) S0 ?_
                  (try simp only [Act.put, List.getElem_toArray, List.getElem_cons_succ, List.getElem_cons_zero, List.setIfInBounds_toArray, List.set_cons_succ, List.set_cons_zero])
                  refine HeadAt.takeW (i := 10) (.int .i64 (q : Int)) rfl (by kernel_rfl) (.inl ⟨rfl, fun _ _ => by simp [go_sem]⟩) S0 ?_
                  (try simp only [Act.put, List.getElem_toArray, List.getElem_cons_succ, List.getElem_cons_zero, List.setIfInBounds_toArray, List.set_cons_succ, List.set_cons_zero])
                  refine HeadAt.takeW (i := 11) (.int .i64 (j3 : Int)) rfl (by kernel_rfl) (.inl ⟨rfl, fun w' z => ?_⟩) S0 ?_
                  · (simp [go_sem] <;> (first | omega | (rw [IntWalk.i64_in _ (by omega)] <;> omega)))
                  (try simp only [Act.put, List.getElem_toArray, List.getElem_cons_succ, List.getElem_cons_zero, List.setIfInBounds_toArray, List.set_cons_succ, List.set_cons_zero])
                  refine HeadAt.takeW (i := 12) (.pointer (some ⟨b, off + j3, none⟩)) rfl (by kernel_rfl) (.inl ⟨rfl, fun w' z => ?_⟩) S0 ?_
                  · (have i1 : (0 : Int) ≤ (j3 : Int) := (by omega); have i2 : (j3 : Int) < (N : Int) := (by omega); simp [go_sem, i1, i2])
                  (try simp only [Act.put, List.getElem_toArray, List.getElem_cons_succ, List.getElem_cons_zero, List.setIfInBounds_toArray, List.set_cons_succ, List.set_cons_zero])
                  refine HeadAt.takeW (i := 13) (.int .i64 z3) rfl (by kernel_rfl) (.inl ⟨rfl, fun w' z => ?_⟩) S0 ?_
                  · (have z0 := (hcl'.below z).1; simp [go_sem, z0])
                  (try simp only [Act.put, List.getElem_toArray, List.getElem_cons_succ, List.getElem_cons_zero, List.setIfInBounds_toArray, List.set_cons_succ, List.set_cons_zero])
                  refine HeadAt.takeW (i := 14) (.int .i64 (y3 - z3)) rfl (by kernel_rfl) (.inl ⟨rfl, fun w' z => ?_⟩) S0 ?_
                  · (simp [go_sem] <;> (first | omega | (rw [IntWalk.i64_in _ (by omega)] <;> omega)))
                  (try simp only [Act.put, List.getElem_toArray, List.getElem_cons_succ, List.getElem_cons_zero, List.setIfInBounds_toArray, List.set_cons_succ, List.set_cons_zero])
                  refine HeadAt.takeW (i := 15) (.pointer (some ⟨w.heap.size, 5, none⟩)) rfl (by kernel_rfl) (.inl ⟨rfl, fun _ _ => by simp [go_sem]⟩) S0 ?_
                  (try simp only [Act.put, List.getElem_toArray, List.getElem_cons_succ, List.getElem_cons_zero, List.setIfInBounds_toArray, List.set_cons_succ, List.set_cons_zero])
                  refine HeadAt.takeW (i := 16) (.int .i64 X.pa) rfl (by kernel_rfl) (.inl ⟨rfl, fun w' z => ?_⟩) S0 ?_
                  · (have z0 := (x0.below z).cell 5 rfl; simp [go_sem, z0])
                  (try simp only [Act.put, List.getElem_toArray, List.getElem_cons_succ, List.getElem_cons_zero, List.setIfInBounds_toArray, List.set_cons_succ, List.set_cons_zero])
                  refine HeadAt.takeW (i := 17) (.bool true) rfl (by kernel_rfl) (.inl ⟨rfl, fun w' z => ?_⟩) S0 ?_
                  · (simp [go_sem] <;> omega)
                  (try simp only [Act.put, List.getElem_toArray, List.getElem_cons_succ, List.getElem_cons_zero, List.setIfInBounds_toArray, List.set_cons_succ, List.set_cons_zero])
                  refine HeadAt.takeW (i := 18) (.bool true) rfl (by kernel_rfl) (.inl ⟨rfl, fun _ _ => by simp [go_sem]⟩) S0 ?_
                  (try simp only [Act.put, List.getElem_toArray, List.getElem_cons_succ, List.getElem_cons_zero, List.setIfInBounds_toArray, List.set_cons_succ, List.set_cons_zero])
                  refine HeadAt.done (by kernel_rfl) ?_
                  (try simp only [Act.put, List.drop_succ_cons, List.drop_zero, List.getElem_toArray, List.getElem_cons_succ, List.getElem_cons_zero])
                  go_wp2_with fail
                  refine NoPanic.normal ?_
                  replace hb3 := hb3.trans (Below.mono S0 hb3.size)
                  clear S0
                  go_wp2
                  go_ret2
                  exact ⟨HX0.out.2.trans (hb3.mono hW1), .inl ⟨HNO.out, rfl⟩⟩
                · skip
                  go_upto_region 12 with fail
                  rw [EWQ.out]
                  have S0 : BlS W9 W9.drew := (Below.refl W9.heap.size W9).drew
                  refine wp_region_headW 19 (fun w' => BlS W9 w') (by kernel_rfl) (by kernel_rfl) ?_
                  generalize W9.drew = Y0 at *
                  refine HeadAt.takeW (i := 0) (.int .i64 (q : Int)) rfl (by kernel_rfl) (.inl ⟨rfl, fun _ _ => by simp [go_sem]⟩) S0 ?_
                  (try simp only [Act.put, List.getElem_toArray, List.getElem_cons_succ, List.getElem_cons_zero, List.setIfInBounds_toArray, List.set_cons_succ, List.set_cons_zero])
                  refine HeadAt.takeW (i := 1) (.slice (some ⟨b, off, none⟩) N c) rfl (by kernel_rfl) (.inl ⟨rfl, fun _ _ => by simp [go_sem]⟩) S0 ?_
                  (try simp only [Act.put, List.getElem_toArray, List.getElem_cons_succ, List.getElem_cons_zero, List.setIfInBounds_toArray, List.set_cons_succ, List.set_cons_zero])
                  refine HeadAt.takeW (i := 2) (.int .i64 (N : Int)) rfl (by kernel_rfl) (.inl ⟨rfl, fun w' z => ?_⟩) S0 ?_
                  · (simp [go_sem])
                  (try simp only [Act.put, List.getElem_toArray, List.getElem_cons_succ, List.getElem_cons_zero, List.setIfInBounds_toArray, List.set_cons_succ, List.set_cons_zero])
                  refine HeadAt.takeW (i := 3) (.bool true) rfl (by kernel_rfl) (.inl ⟨rfl, fun w' z => ?_⟩) S0 ?_
                  · (simp [go_sem] <;> omega)
                  (try simp only [Act.put, List.getElem_toArray, List.getElem_cons_succ, List.getElem_cons_zero, List.setIfInBounds_toArray, List.set_cons_succ, List.set_cons_zero])
                  refine HeadAt.takeW (i := 4) (.bool true) rfl (by kernel_rfl) (.inl ⟨rfl, fun _ _ => by simp [go_sem]⟩) S0 ?_
                  (try simp only [Act.put, List.getElem_toArray, List.getElem_cons_succ, List.getElem_cons_zero, List.setIfInBounds_toArray, List.set_cons_succ, List.set_cons_zero])
                  refine HeadAt.takeW (i := 5) (.slice (some ⟨b, off, none⟩) N c) rfl (by kernel_rfl) (.inl ⟨rfl, fun _ _ => by simp [go_sem]⟩) S0 ?_
                  (try simp only [Act.put, List.getElem_toArray, List.getElem_cons_succ, List.getElem_cons_zero, List.setIfInBounds_toArray, List.set_cons_succ, List.set_cons_zero])
                  refine HeadAt.takeW (i := 6) (.int .i64 (q : Int)) rfl (by kernel_rfl) (.inl ⟨rfl, fun _ _ => by simp [go_sem]⟩) S0 ?_
                  (try simp only [Act.put, List.getElem_toArray, List.getElem_cons_succ, List.getElem_cons_zero, List.setIfInBounds_toArray, List.set_cons_succ, List.set_cons_zero])
                  refine HeadAt.takeW (i := 7) (.pointer (some ⟨b, off + q, none⟩)) rfl (by kernel_rfl) (.inl ⟨rfl, fun w' z => ?_⟩) S0 ?_
                  · (have i1 : (0 : Int) ≤ (q : Int) := (by omega); have i2 : (q : Int) < (N : Int) := (by omega); simp [go_sem, i1, i2])
                  (try simp only [Act.put, List.getElem_toArray, List.getElem_cons_succ, List.getElem_cons_zero, List.setIfInBounds_toArray, List.set_cons_succ, List.set_cons_zero])
                  refine HeadAt.takeW (i := 8) (.int .i64 y3) rfl (by kernel_rfl) (.inl ⟨rfl, fun w' z => ?_⟩) S0 ?_
                  · (have z0 := (hcl.below z).1; simp [go_sem, z0])
                  (try simp only [Act.put, List.getElem_toArray, List.getElem_cons_succ, List.getElem_cons_zero, List.setIfInBounds_toArray, List.set_cons_succ, List.set_cons_zero])
                  refine HeadAt.takeW (i := 9) (.slice (some ⟨b, off, none⟩) N c) rfl (by kernel_rfl) (.inl ⟨rfl, fun _ _ => by simp [go_sem]⟩) S0 ?_
                  (try simp only [Act.put, List.getElem_toArray, List.getElem_cons_succ, List.getElem_cons_zero, List.setIfInBounds_toArray, List.set_cons_succ, List.set_cons_zero])
                  refine HeadAt.takeW (i := 10) (.int .i64 (q : Int)) rfl (by kernel_rfl) (.inl ⟨rfl, fun _ _ => by simp [go_sem]⟩) S0 ?_
                  (try simp only [Act.put, List.getElem_toArray, List.getElem_cons_succ, List.getElem_cons_zero, List.setIfInBounds_toArray, List.set_cons_succ, List.set_cons_zero])
                  refine HeadAt.takeW (i := 11) (.int .i64 (j3 : Int)) rfl (by kernel_rfl) (.inl ⟨rfl, fun w' z => ?_⟩) S0 ?_
                  · (simp [go_sem] <;> (first | omega | (rw [IntWalk.i64_in _ (by omega)] <;> omega)))
                  (try simp only [Act.put, List.getElem_toArray, List.getElem_cons_succ, List.getElem_cons_zero, List.setIfInBounds_toArray, List.set_cons_succ, List.set_cons_zero])
                  refine HeadAt.takeW (i := 12) (.pointer (some ⟨b, off + j3, none⟩)) rfl (by kernel_rfl) (.inl ⟨rfl, fun w' z => ?_⟩) S0 ?_
                  · (have i1 : (0 : Int) ≤ (j3 : Int) := (by omega); have i2 : (j3 : Int) < (N : Int) := (by omega); simp [go_sem, i1, i2])
                  (try simp only [Act.put, List.getElem_toArray, List.getElem_cons_succ, List.getElem_cons_zero, List.setIfInBounds_toArray, List.set_cons_succ, List.set_cons_zero])
                  refine HeadAt.takeW (i := 13) (.int .i64 z3) rfl (by kernel_rfl) (.inl ⟨rfl, fun w' z => ?_⟩) S0 ?_
                  · (have z0 := (hcl'.below z).1; simp [go_sem, z0])
                  (try simp only [Act.put, List.getElem_toArray, List.getElem_cons_succ, List.getElem_cons_zero, List.setIfInBounds_toArray, List.set_cons_succ, List.set_cons_zero])
                  refine HeadAt.takeW (i := 14) (.int .i64 (y3 - z3)) rfl (by kernel_rfl) (.inl ⟨rfl, fun w' z => ?_⟩) S0 ?_
                  · (simp [go_sem] <;> (first | omega | (rw [IntWalk.i64_in _ (by omega)] <;> omega)))
                  (try simp only [Act.put, List.getElem_toArray, List.getElem_cons_succ, List.getElem_cons_zero, List.setIfInBounds_toArray, List.set_cons_succ, List.set_cons_zero])
                  refine HeadAt.takeW (i := 15) (.pointer (some ⟨w.heap.size, 5, none⟩)) rfl (by kernel_rfl) (.inl ⟨rfl, fun _ _ => by simp [go_sem]⟩) S0 ?_
                  (try simp only [Act.put, List.getElem_toArray, List.getElem_cons_succ, List.getElem_cons_zero, List.setIfInBounds_toArray, List.set_cons_succ, List.set_cons_zero])
                  refine HeadAt.takeW (i := 16) (.int .i64 X.pa) rfl (by kernel_rfl) (.inl ⟨rfl, fun w' z => ?_⟩) S0 ?_
                  · (have z0 := (x0.below z).cell 5 rfl; simp [go_sem, z0])
                  (try simp only [Act.put, List.getElem_toArray, List.getElem_cons_succ, List.getElem_cons_zero, List.setIfInBounds_toArray, List.set_cons_succ, List.set_cons_zero])
                  refine HeadAt.takeW (i := 17) (.bool false) rfl (by kernel_rfl) (.inl ⟨rfl, fun w' z => ?_⟩) S0 ?_
                  · (simp [go_sem] <;> omega)
                  (try simp only [Act.put, List.getElem_toArray, List.getElem_cons_succ, List.getElem_cons_zero, List.setIfInBounds_toArray, List.set_cons_succ, List.set_cons_zero])
                  refine HeadAt.takeW (i := 18) (.bool false) rfl (by kernel_rfl) (.inl ⟨rfl, fun _ _ => by simp [go_sem]⟩) S0 ?_
                  (try simp only [Act.put, List.getElem_toArray, List.getElem_cons_succ, List.getElem_cons_zero, List.setIfInBounds_toArray, List.set_cons_succ, List.set_cons_zero])
                  refine HeadAt.done (by kernel_rfl) ?_
                  (try simp only [Act.put, List.drop_succ_cons, List.drop_zero, List.getElem_toArray, List.getElem_cons_succ, List.getElem_cons_zero])
                  go_wp2_with fail
                  refine NoPanic.normal ?_
                  replace hb3 := hb3.trans (Below.mono S0 hb3.size)
                  replace hrow10 := own_below2 hrow10 S0
                  clear S0
                  have HEQ := hid (HNEW.out fun y9 z9 q1 q2 => by
                    rw [← H_hj3.out, hg'.out] at q1
                    rw [hg3.out] at q2
                    cases q1; cases q2; omega)
                  clear HNEW hg3 hg' hpp
                  go_wp2
                  go_roundw
                  case rel => exact ⟨q, p + 1, a9, c9, L ++ [pr + (n2 : Int) - 1], by omega, rfl, rfl, by go_num, rfl, by omega, hid ⟨HLN.out.1, HEQ.out, HLN.out.2⟩, hrow10, hb3⟩
                  case measure => simp [intOf]; omega
              · skip
                go_upto_region 12 with fail
                rw [EWQ.out]
                have S0 : BlS W9 W9.drew := (Below.refl W9.heap.size W9).drew
                refine wp_region_headW 19 (fun w' => BlS W9 w') (by kernel_rfl) (by kernel_rfl) ?_
                generalize W9.drew = Y0 at *
                refine HeadAt.takeW (i := 0) (.int .i64 (q : Int)) rfl (by kernel_rfl) (.inl ⟨rfl, fun _ _ => by simp [go_sem]⟩) S0 ?_
                (try simp only [Act.put, List.getElem_toArray, List.getElem_cons_succ, List.getElem_cons_zero, List.setIfInBounds_toArray, List.set_cons_succ, List.set_cons_zero])
                refine HeadAt.takeW (i := 1) (.slice (some ⟨b, off, none⟩) N c) rfl (by kernel_rfl) (.inl ⟨rfl, fun _ _ => by simp [go_sem]⟩) S0 ?_
                (try simp only [Act.put, List.getElem_toArray, List.getElem_cons_succ, List.getElem_cons_zero, List.setIfInBounds_toArray, List.set_cons_succ, List.set_cons_zero])
                refine HeadAt.takeW (i := 2) (.int .i64 (N : Int)) rfl (by kernel_rfl) (.inl ⟨rfl, fun w' z => ?_⟩) S0 ?_
                · (simp [go_sem])
                (try simp only [Act.put, List.getElem_toArray, List.getElem_cons_succ, List.getElem_cons_zero, List.setIfInBounds_toArray, List.set_cons_succ, List.set_cons_zero])
                refine HeadAt.takeW (i := 3) (.bool false) rfl (by kernel_rfl) (.inl ⟨rfl, fun w' z => ?_⟩) S0 ?_
                · (simp [go_sem] <;> omega)
                (try simp only [Act.put, List.getElem_toArray, List.getElem_cons_succ, List.getElem_cons_zero, List.setIfInBounds_toArray, List.set_cons_succ, List.set_cons_zero])
                refine HeadAt.takeW (i := 4) (.bool false) rfl (by kernel_rfl) (.inl ⟨rfl, fun _ _ => by simp [go_sem]⟩) S0 ?_
                (try simp only [Act.put, List.getElem_toArray, List.getElem_cons_succ, List.getElem_cons_zero, List.setIfInBounds_toArray, List.set_cons_succ, List.set_cons_zero])
                refine HeadAt.takeW (i := 5) undef rfl (by kernel_rfl) (.inr ⟨by kernel_rfl, rfl⟩) S0 ?_
                (try simp only [Act.put, List.getElem_toArray, List.getElem_cons_succ, List.getElem_cons_zero, List.setIfInBounds_toArray, List.set_cons_succ, List.set_cons_zero])
                refine HeadAt.takeW (i := 6) undef rfl (by kernel_rfl) (.inr ⟨by kernel_rfl, rfl⟩) S0 ?_
                (try simp only [Act.put, List.getElem_toArray, List.getElem_cons_succ, List.getElem_cons_zero, List.setIfInBounds_toArray, List.set_cons_succ, List.set_cons_zero])
                refine HeadAt.takeW (i := 7) undef rfl (by kernel_rfl) (.inr ⟨by kernel_rfl, rfl⟩) S0 ?_
                (try simp only [Act.put, List.getElem_toArray, List.getElem_cons_succ, List.getElem_cons_zero, List.setIfInBounds_toArray, List.set_cons_succ, List.set_cons_zero])
                refine HeadAt.takeW (i := 8) undef rfl (by kernel_rfl) (.inr ⟨by kernel_rfl, rfl⟩) S0 ?_
                (try simp only [Act.put, List.getElem_toArray, List.getElem_cons_succ, List.getElem_cons_zero, List.setIfInBounds_toArray, List.set_cons_succ, List.set_cons_zero])
                refine HeadAt.takeW (i := 9) undef rfl (by kernel_rfl) (.inr ⟨by kernel_rfl, rfl⟩) S0 ?_
                (try simp only [Act.put, List.getElem_toArray, List.getElem_cons_succ, List.getElem_cons_zero, List.setIfInBounds_toArray, List.set_cons_succ, List.set_cons_zero])
                refine HeadAt.takeW (i := 10) undef rfl (by kernel_rfl) (.inr ⟨by kernel_rfl, rfl⟩) S0 ?_
                (try simp only [Act.put, List.getElem_toArray, List.getElem_cons_succ, List.getElem_cons_zero, List.setIfInBounds_toArray, List.set_cons_succ, List.set_cons_zero])
                refine HeadAt.takeW (i := 11) undef rfl (by kernel_rfl) (.inr ⟨by kernel_rfl, rfl⟩) S0 ?_
                (try simp only [Act.put, List.getElem_toArray, List.getElem_cons_succ, List.getElem_cons_zero, List.setIfInBounds_toArray, List.set_cons_succ, List.set_cons_zero])
                refine HeadAt.takeW (i := 12) undef rfl (by kernel_rfl) (.inr ⟨by kernel_rfl, rfl⟩) S0 ?_
                (try simp only [Act.put, List.getElem_toArray, List.getElem_cons_succ, List.getElem_cons_zero, List.setIfInBounds_toArray, List.set_cons_succ, List.set_cons_zero])
                refine HeadAt.takeW (i := 13) undef rfl (by kernel_rfl) (.inr ⟨by kernel_rfl, rfl⟩) S0 ?_
                (try simp only [Act.put, List.getElem_toArray, List.getElem_cons_succ, List.getElem_cons_zero, List.setIfInBounds_toArray, List.set_cons_succ, List.set_cons_zero])
                refine HeadAt.takeW (i := 14) undef rfl (by kernel_rfl) (.inr ⟨by kernel_rfl, rfl⟩) S0 ?_
                (try simp only [Act.put, List.getElem_toArray, List.getElem_cons_succ, List.getElem_cons_zero, List.setIfInBounds_toArray, List.set_cons_succ, List.set_cons_zero])
                refine HeadAt.takeW (i := 15) undef rfl (by kernel_rfl) (.inr ⟨by kernel_rfl, rfl⟩) S0 ?_
                (try simp only [Act.put, List.getElem_toArray, List.getElem_cons_succ, List.getElem_cons_zero, List.setIfInBounds_toArray, List.set_cons_succ, List.set_cons_zero])
                refine HeadAt.takeW (i := 16) undef rfl (by kernel_rfl) (.inr ⟨by kernel_rfl, rfl⟩) S0 ?_
                (try simp only [Act.put, List.getElem_toArray, List.getElem_cons_succ, List.getElem_cons_zero, List.setIfInBounds_toArray, List.set_cons_succ, List.set_cons_zero])
                refine HeadAt.takeW (i := 17) undef rfl (by kernel_rfl) (.inr ⟨by kernel_rfl, rfl⟩) S0 ?_
                (try simp only [Act.put, List.getElem_toArray, List.getElem_cons_succ, List.getElem_cons_zero, List.setIfInBounds_toArray, List.set_cons_succ, List.set_cons_zero])
                refine HeadAt.takeW (i := 18) (.bool false) rfl (by kernel_rfl) (.inl ⟨rfl, fun _ _ => by simp [go_sem]⟩) S0 ?_
                (try simp only [Act.put, List.getElem_toArray, List.getElem_cons_succ, List.getElem_cons_zero, List.setIfInBounds_toArray, List.set_cons_succ, List.set_cons_zero])
                refine HeadAt.done (by kernel_rfl) ?_
                (try simp only [Act.put, List.drop_succ_cons, List.drop_zero, List.getElem_toArray, List.getElem_cons_succ, List.getElem_cons_zero])
                go_wp2_with fail
                refine NoPanic.normal ?_
                replace hb3 := hb3.trans (Below.mono S0 hb3.size)
                replace hrow10 := own_below2 hrow10 S0
                clear S0
                have HEQ := hid (HNEW.out fun y9 z9 q1 q2 => by
                  have := (List.getElem?_eq_some_iff.1 q2).1
                  rw [← HN.out] at this; omega)
                clear HNEW
                go_wp2
                go_roundw
                case rel => exact ⟨q, p + 1, a9, c9, L ++ [pr + (n2 : Int) - 1], by omega, rfl, rfl, by go_num, rfl, by omega, hid ⟨HLN.out.1, HEQ.out, HLN.out.2⟩, hrow10, hb3⟩
                case measure => simp [intOf]; omega
            · rw [show fromI 1 (n2 : Int) X.n = false by simp [fromI]; omega] at hw0
              have HNO := hid (show O = none from by
                rcases HS2.out with h | ⟨_, q1, _⟩
                · exact h
                · omega)
              go_wp2_with fail
              refine (hw0 _).mono ?_
              rintro e V3 ⟨rfl, rfl⟩
              go_wp2
              go_ret2
              exact ⟨HX0.out.2.trans (hb.mono hW1), .inl ⟨HNO.out, rfl⟩⟩
        | false =>
          rw [hd] at hwi1
          have HNO := hid (show O = none from by
            rcases HSS.out with h | ⟨b9, y9, z9, q1, q2, q3, q4, q5, q6⟩
            · exact h
            · rw [show k + n1 - 1 = j by omega, hg'.out] at q2
              rw [show k + n1 = nx by omega, hg.out] at q3
              cases q2; cases q3
              rw [fromI, decide_eq_true q4, decide_eq_true q5] at hd
              cases hd)
          clear hd hg hg' HSS
          go_upto_region 6 with fail
          rw [EWX.out]
          have S0 : BlS V1 V1.drew := (Below.refl V1.heap.size V1).drew
          refine wp_region_headW 22 (fun w' => BlS V1 w') (by kernel_rfl) (by kernel_rfl) ?_
          generalize V1.drew = Y0 at *
          refine HeadAt.takeW (i := 0) (.int .i64 (nx : Int)) rfl (by kernel_rfl) (.inl ⟨rfl, fun _ _ => by simp [go_sem]⟩) S0 ?_
          (try simp only [Act.put, List.getElem_toArray, List.getElem_cons_succ, List.getElem_cons_zero, List.setIfInBounds_toArray, List.set_cons_succ, List.set_cons_zero])
          refine HeadAt.takeW (i := 1) (.slice (some ⟨b, off, none⟩) N c) rfl (by kernel_rfl) (.inl ⟨rfl, fun _ _ => by simp [go_sem]⟩) S0 ?_
          (try simp only [Act.put, List.getElem_toArray, List.getElem_cons_succ, List.getElem_cons_zero, List.setIfInBounds_toArray, List.set_cons_succ, List.set_cons_zero])
          refine HeadAt.takeW (i := 2) (.int .i64 (N : Int)) rfl (by kernel_rfl) (.inl ⟨rfl, fun w' z => ?_⟩) S0 ?_
          · (simp [go_sem])
          (try simp only [Act.put, List.getElem_toArray, List.getElem_cons_succ, List.getElem_cons_zero, List.setIfInBounds_toArray, List.set_cons_succ, List.set_cons_zero])
          refine HeadAt.takeW (i := 3) (.bool true) rfl (by kernel_rfl) (.inl ⟨rfl, fun w' z => ?_⟩) S0 ?_
          · (simp [go_sem] <;> omega)
          (try simp only [Act.put, List.getElem_toArray, List.getElem_cons_succ, List.getElem_cons_zero, List.setIfInBounds_toArray, List.set_cons_succ, List.set_cons_zero])
          refine HeadAt.takeW (i := 4) (.bool true) rfl (by kernel_rfl) (.inl ⟨rfl, fun _ _ => by simp [go_sem]⟩) S0 ?_
          (try simp only [Act.put, List.getElem_toArray, List.getElem_cons_succ, List.getElem_cons_zero, List.setIfInBounds_toArray, List.set_cons_succ, List.set_cons_zero])
          refine HeadAt.takeW (i := 5) (.slice (some ⟨b, off, none⟩) N c) rfl (by kernel_rfl) (.inl ⟨rfl, fun _ _ => by simp [go_sem]⟩) S0 ?_
          (try simp only [Act.put, List.getElem_toArray, List.getElem_cons_succ, List.getElem_cons_zero, List.setIfInBounds_toArray, List.set_cons_succ, List.set_cons_zero])
          refine HeadAt.takeW (i := 6) (.int .i64 (nx : Int)) rfl (by kernel_rfl) (.inl ⟨rfl, fun _ _ => by simp [go_sem]⟩) S0 ?_
          (try simp only [Act.put, List.getElem_toArray, List.getElem_cons_succ, List.getElem_cons_zero, List.setIfInBounds_toArray, List.set_cons_succ, List.set_cons_zero])
          refine HeadAt.takeW (i := 7) (.pointer (some ⟨b, off + nx, none⟩)) rfl (by kernel_rfl) (.inl ⟨rfl, fun w' z => ?_⟩) S0 ?_
          · (have i1 : (0 : Int) ≤ (nx : Int) := (by omega); have i2 : (nx : Int) < (N : Int) := (by omega); simp [go_sem, i1, i2])
          (try simp only [Act.put, List.getElem_toArray, List.getElem_cons_succ, List.getElem_cons_zero, List.setIfInBounds_toArray, List.set_cons_succ, List.set_cons_zero])
          refine HeadAt.takeW (i := 8) (.int .i64 y) rfl (by kernel_rfl) (.inl ⟨rfl, fun w' z => ?_⟩) S0 ?_
          · (have z0 := (hcl.below z).1; simp [go_sem, z0])
          (try simp only [Act.put, List.getElem_toArray, List.getElem_cons_succ, List.getElem_cons_zero, List.setIfInBounds_toArray, List.set_cons_succ, List.set_cons_zero])
          refine HeadAt.takeW (i := 9) (.slice (some ⟨b, off, none⟩) N c) rfl (by kernel_rfl) (.inl ⟨rfl, fun _ _ => by simp [go_sem]⟩) S0 ?_
          (try simp only [Act.put, List.getElem_toArray, List.getElem_cons_succ, List.getElem_cons_zero, List.setIfInBounds_toArray, List.set_cons_succ, List.set_cons_zero])
          refine HeadAt.takeW (i := 10) (.int .i64 (nx : Int)) rfl (by kernel_rfl) (.inl ⟨rfl, fun _ _ => by simp [go_sem]⟩) S0 ?_
          (try simp only [Act.put, List.getElem_toArray, List.getElem_cons_succ, List.getElem_cons_zero, List.setIfInBounds_toArray, List.set_cons_succ, List.set_cons_zero])
          refine HeadAt.takeW (i := 11) (.int .i64 (j : Int)) rfl (by kernel_rfl) (.inl ⟨rfl, fun w' z => ?_⟩) S0 ?_
          · (simp [go_sem] <;> (first | omega | (rw [IntWalk.i64_in _ (by omega)] <;> omega)))
          (try simp only [Act.put, List.getElem_toArray, List.getElem_cons_succ, List.getElem_cons_zero, List.setIfInBounds_toArray, List.set_cons_succ, List.set_cons_zero])
          refine HeadAt.takeW (i := 12) (.pointer (some ⟨b, off + j, none⟩)) rfl (by kernel_rfl) (.inl ⟨rfl, fun w' z => ?_⟩) S0 ?_
          · (have i1 : (0 : Int) ≤ (j : Int) := (by omega); have i2 : (j : Int) < (N : Int) := (by omega); simp [go_sem, i1, i2])
          (try simp only [Act.put, List.getElem_toArray, List.getElem_cons_succ, List.getElem_cons_zero, List.setIfInBounds_toArray, List.set_cons_succ, List.set_cons_zero])
          refine HeadAt.takeW (i := 13) (.int .i64 z) rfl (by kernel_rfl) (.inl ⟨rfl, fun w' z => ?_⟩) S0 ?_
          · (have z0 := (hcl'.below z).1; simp [go_sem, z0])
          (try simp only [Act.put, List.getElem_toArray, List.getElem_cons_succ, List.getElem_cons_zero, List.setIfInBounds_toArray, List.set_cons_succ, List.set_cons_zero])
          refine HeadAt.takeW (i := 14) (.int .i64 (y - z)) rfl (by kernel_rfl) (.inl ⟨rfl, fun w' z => ?_⟩) S0 ?_
          · (simp [go_sem] <;> (first | omega | (rw [IntWalk.i64_in _ (by omega)] <;> omega)))
          (try simp only [Act.put, List.getElem_toArray, List.getElem_cons_succ, List.getElem_cons_zero, List.setIfInBounds_toArray, List.set_cons_succ, List.set_cons_zero])
          refine HeadAt.takeW (i := 15) (.pointer (some ⟨w.heap.size, 4, none⟩)) rfl (by kernel_rfl) (.inl ⟨rfl, fun _ _ => by simp [go_sem]⟩) S0 ?_
          (try simp only [Act.put, List.getElem_toArray, List.getElem_cons_succ, List.getElem_cons_zero, List.setIfInBounds_toArray, List.set_cons_succ, List.set_cons_zero])
          refine HeadAt.takeW (i := 16) (.int .i64 X.ga) rfl (by kernel_rfl) (.inl ⟨rfl, fun w' z => ?_⟩) S0 ?_
          · (have z0 := (x0.below z).cell 4 rfl; simp [go_sem, z0])
          (try simp only [Act.put, List.getElem_toArray, List.getElem_cons_succ, List.getElem_cons_zero, List.setIfInBounds_toArray, List.set_cons_succ, List.set_cons_zero])
          refine HeadAt.takeW (i := 17) (.pointer (some ⟨w.heap.size, 5, none⟩)) rfl (by kernel_rfl) (.inl ⟨rfl, fun _ _ => by simp [go_sem]⟩) S0 ?_
          (try simp only [Act.put, List.getElem_toArray, List.getElem_cons_succ, List.getElem_cons_zero, List.setIfInBounds_toArray, List.set_cons_succ, List.set_cons_zero])
          refine HeadAt.takeW (i := 18) (.int .i64 X.pa) rfl (by kernel_rfl) (.inl ⟨rfl, fun w' z => ?_⟩) S0 ?_
          · (have z0 := (x0.below z).cell 5 rfl; simp [go_sem, z0])
          (try simp only [Act.put, List.getElem_toArray, List.getElem_cons_succ, List.getElem_cons_zero, List.setIfInBounds_toArray, List.set_cons_succ, List.set_cons_zero])
          refine HeadAt.takeW (i := 19) (.int .i64 (X.pa - 1)) rfl (by kernel_rfl) (.inl ⟨rfl, fun w' z => ?_⟩) S0 ?_
          · (simp [go_sem] <;> (first | omega | (rw [IntWalk.i64_in _ (by omega)] <;> omega)))
          (try simp only [Act.put, List.getElem_toArray, List.getElem_cons_succ, List.getElem_cons_zero, List.setIfInBounds_toArray, List.set_cons_succ, List.set_cons_zero])
          refine HeadAt.one (i := 20) rfl (by kernel_rfl) ?_
          generalize hK : Upto _ _ = K0
          (try simp only [Act.put, List.getElem_toArray, List.getElem_cons_succ, List.getElem_cons_zero, List.setIfInBounds_toArray, List.set_cons_succ, List.set_cons_zero])
          go_wp2_with fail
          refine (hwi1 _).mono ?_
          rintro e V1 ⟨rfl, rfl⟩
          go_wp2_with fail
          subst hK
          refine ⟨S0, ?_⟩
          (try simp only [Act.put, List.getElem_toArray, List.getElem_cons_succ, List.getElem_cons_zero, List.setIfInBounds_toArray, List.set_cons_succ, List.set_cons_zero])
          refine HeadAt.takeW (i := 21) (.bool false) rfl (by kernel_rfl) (.inl ⟨rfl, fun _ _ => by simp [go_sem]⟩) S0 ?_
          (try simp only [Act.put, List.getElem_toArray, List.getElem_cons_succ, List.getElem_cons_zero, List.setIfInBounds_toArray, List.set_cons_succ, List.set_cons_zero])
          refine HeadAt.done (by kernel_rfl) ?_
          (try simp only [Act.put, List.drop_succ_cons, List.drop_zero, List.getElem_toArray, List.getElem_cons_succ, List.getElem_cons_zero])
          go_wp2_with fail
          refine NoPanic.normal ?_
          replace hown := own_below2 hown S0
          replace x0 := x0.below S0
          replace hb := hb.trans (Below.mono S0 hb.size)
          clear S0
          have c0 := x0.cell 0 rfl; have c1 := x0.cell 1 rfl; have c2 := x0.cell 2 rfl; have c3 := x0.cell 3 rfl; have c4 := x0.cell 4 rfl; have c5 := x0.cell 5 rfl; have c6 := x0.cell 6 rfl; have c7 := x0.cell 7 rfl
          by_cases hal : (n1 : Int) > X.l
          · skip
            go_wp2
            go_ret2
            exact ⟨HX0.out.2.trans (hb.mono hW1), .inl ⟨HNO.out, rfl⟩⟩
          · have hw0 := hwn 0
            rw [show fromI 1 0 X.n = false from rfl] at hw0
            go_wp2_with fail
            refine (hw0 _).mono ?_
            rintro e V3 ⟨rfl, rfl⟩
            go_wp2
            go_ret2
            exact ⟨HX0.out.2.trans (hb.mono hW1), .inl ⟨HNO.out, rfl⟩⟩
      · have HNO := hid (show O = none from by
          rcases HSS.out with h | ⟨b9, y9, z9, q1, q2, q3, q4, q5, q6⟩
          · exact h
          · have := (List.getElem?_eq_some_iff.1 q3).1
            rw [← HN.out] at this; omega)
        clear HSS
        go_upto_region 6 with fail
        rw [EWX.out]
        have S0 : BlS V1 V1.drew := (Below.refl V1.heap.size V1).drew
        refine wp_region_headW 22 (fun w' => BlS V1 w') (by kernel_rfl) (by kernel_rfl) ?_
        generalize V1.drew = Y0 at *
        refine HeadAt.takeW (i := 0) (.int .i64 (nx : Int)) rfl (by kernel_rfl) (.inl ⟨rfl, fun _ _ => by simp [go_sem]⟩) S0 ?_
        (try simp only [Act.put, List.getElem_toArray, List.getElem_cons_succ, List.getElem_cons_zero, List.setIfInBounds_toArray, List.set_cons_succ, List.set_cons_zero])
        refine HeadAt.takeW (i := 1) (.slice a N c) rfl (by kernel_rfl) (.inl ⟨rfl, fun _ _ => by simp [go_sem]⟩) S0 ?_
        (try simp only [Act.put, List.getElem_toArray, List.getElem_cons_succ, List.getElem_cons_zero, List.setIfInBounds_toArray, List.set_cons_succ, List.set_cons_zero])
        refine HeadAt.takeW (i := 2) (.int .i64 (N : Int)) rfl (by kernel_rfl) (.inl ⟨rfl, fun w' z => ?_⟩) S0 ?_
        · (simp [go_sem])
        (try simp only [Act.put, List.getElem_toArray, List.getElem_cons_succ, List.getElem_cons_zero, List.setIfInBounds_toArray, List.set_cons_succ, List.set_cons_zero])
        refine HeadAt.takeW (i := 3) (.bool false) rfl (by kernel_rfl) (.inl ⟨rfl, fun w' z => ?_⟩) S0 ?_
        · (simp [go_sem] <;> omega)
        (try simp only [Act.put, List.getElem_toArray, List.getElem_cons_succ, List.getElem_cons_zero, List.setIfInBounds_toArray, List.set_cons_succ, List.set_cons_zero])
        refine HeadAt.takeW (i := 4) (.bool false) rfl (by kernel_rfl) (.inl ⟨rfl, fun _ _ => by simp [go_sem]⟩) S0 ?_
        (try simp only [Act.put, List.getElem_toArray, List.getElem_cons_succ, List.getElem_cons_zero, List.setIfInBounds_toArray, List.set_cons_succ, List.set_cons_zero])
        refine HeadAt.takeW (i := 5) undef rfl (by kernel_rfl) (.inr ⟨by kernel_rfl, rfl⟩) S0 ?_
        (try simp only [Act.put, List.getElem_toArray, List.getElem_cons_succ, List.getElem_cons_zero, List.setIfInBounds_toArray, List.set_cons_succ, List.set_cons_zero])
        refine HeadAt.takeW (i := 6) undef rfl (by kernel_rfl) (.inr ⟨by kernel_rfl, rfl⟩) S0 ?_
        (try simp only [Act.put, List.getElem_toArray, List.getElem_cons_succ, List.getElem_cons_zero, List.setIfInBounds_toArray, List.set_cons_succ, List.set_cons_zero])
        refine HeadAt.takeW (i := 7) undef rfl (by kernel_rfl) (.inr ⟨by kernel_rfl, rfl⟩) S0 ?_
        (try simp only [Act.put, List.getElem_toArray, List.getElem_cons_succ, List.getElem_cons_zero, List.setIfInBounds_toArray, List.set_cons_succ, List.set_cons_zero])
        refine HeadAt.takeW (i := 8) undef rfl (by kernel_rfl) (.inr ⟨by kernel_rfl, rfl⟩) S0 ?_
        (try simp only [Act.put, List.getElem_toArray, List.getElem_cons_succ, List.getElem_cons_zero, List.setIfInBounds_toArray, List.set_cons_succ, List.set_cons_zero])
        refine HeadAt.takeW (i := 9) undef rfl (by kernel_rfl) (.inr ⟨by kernel_rfl, rfl⟩) S0 ?_
        (try simp only [Act.put, List.getElem_toArray, List.getElem_cons_succ, List.getElem_cons_zero, List.setIfInBounds_toArray, List.set_cons_succ, List.set_cons_zero])
        refine HeadAt.takeW (i := 10) undef rfl (by kernel_rfl) (.inr ⟨by kernel_rfl, rfl⟩) S0 ?_
        (try simp only [Act.put, List.getElem_toArray, List.getElem_cons_succ, List.getElem_cons_zero, List.setIfInBounds_toArray, List.set_cons_succ, List.set_cons_zero])
        refine HeadAt.takeW (i := 11) undef rfl (by kernel_rfl) (.inr ⟨by kernel_rfl, rfl⟩) S0 ?_
        (try simp only [Act.put, List.getElem_toArray, List.getElem_cons_succ, List.getElem_cons_zero, List.setIfInBounds_toArray, List.set_cons_succ, List.set_cons_zero])
        refine HeadAt.takeW (i := 12) undef rfl (by kernel_rfl) (.inr ⟨by kernel_rfl, rfl⟩) S0 ?_
        (try simp only [Act.put, List.getElem_toArray, List.getElem_cons_succ, List.getElem_cons_zero, List.setIfInBounds_toArray, List.set_cons_succ, List.set_cons_zero])
        refine HeadAt.takeW (i := 13) undef rfl (by kernel_rfl) (.inr ⟨by kernel_rfl, rfl⟩) S0 ?_
        (try simp only [Act.put, List.getElem_toArray, List.getElem_cons_succ, List.getElem_cons_zero, List.setIfInBounds_toArray, List.set_cons_succ, List.set_cons_zero])
        refine HeadAt.takeW (i := 14) undef rfl (by kernel_rfl) (.inr ⟨by kernel_rfl, rfl⟩) S0 ?_
        (try simp only [Act.put, List.getElem_toArray, List.getElem_cons_succ, List.getElem_cons_zero, List.setIfInBounds_toArray, List.set_cons_succ, List.set_cons_zero])
        refine HeadAt.takeW (i := 15) undef rfl (by kernel_rfl) (.inr ⟨by kernel_rfl, rfl⟩) S0 ?_
        (try simp only [Act.put, List.getElem_toArray, List.getElem_cons_succ, List.getElem_cons_zero, List.setIfInBounds_toArray, List.set_cons_succ, List.set_cons_zero])
        refine HeadAt.takeW (i := 16) undef rfl (by kernel_rfl) (.inr ⟨by kernel_rfl, rfl⟩) S0 ?_
        (try simp only [Act.put, List.getElem_toArray, List.getElem_cons_succ, List.getElem_cons_zero, List.setIfInBounds_toArray, List.set_cons_succ, List.set_cons_zero])
        refine HeadAt.takeW (i := 17) undef rfl (by kernel_rfl) (.inr ⟨by kernel_rfl, rfl⟩) S0 ?_
        (try simp only [Act.put, List.getElem_toArray, List.getElem_cons_succ, List.getElem_cons_zero, List.setIfInBounds_toArray, List.set_cons_succ, List.set_cons_zero])
        refine HeadAt.takeW (i := 18) undef rfl (by kernel_rfl) (.inr ⟨by kernel_rfl, rfl⟩) S0 ?_
        (try simp only [Act.put, List.getElem_toArray, List.getElem_cons_succ, List.getElem_cons_zero, List.setIfInBounds_toArray, List.set_cons_succ, List.set_cons_zero])
        refine HeadAt.takeW (i := 19) undef rfl (by kernel_rfl) (.inr ⟨by kernel_rfl, rfl⟩) S0 ?_
        (try simp only [Act.put, List.getElem_toArray, List.getElem_cons_succ, List.getElem_cons_zero, List.setIfInBounds_toArray, List.set_cons_succ, List.set_cons_zero])
        refine HeadAt.takeW (i := 20) undef rfl (by kernel_rfl) (.inr ⟨by kernel_rfl, rfl⟩) S0 ?_
        (try simp only [Act.put, List.getElem_toArray, List.getElem_cons_succ, List.getElem_cons_zero, List.setIfInBounds_toArray, List.set_cons_succ, List.set_cons_zero])
        refine HeadAt.takeW (i := 21) (.bool false) rfl (by kernel_rfl) (.inl ⟨rfl, fun _ _ => by simp [go_sem]⟩) S0 ?_
        (try simp only [Act.put, List.getElem_toArray, List.getElem_cons_succ, List.getElem_cons_zero, List.setIfInBounds_toArray, List.set_cons_succ, List.set_cons_zero])
        refine HeadAt.done (by kernel_rfl) ?_
        (try simp only [Act.put, List.drop_succ_cons, List.drop_zero, List.getElem_toArray, List.getElem_cons_succ, List.getElem_cons_zero])
        go_wp2_with fail
        refine NoPanic.normal ?_
        replace hown := own_below2 hown S0
        replace x0 := x0.below S0
        replace hb := hb.trans (Below.mono S0 hb.size)
        clear S0
        have c0 := x0.cell 0 rfl; have c1 := x0.cell 1 rfl; have c2 := x0.cell 2 rfl; have c3 := x0.cell 3 rfl; have c4 := x0.cell 4 rfl; have c5 := x0.cell 5 rfl; have c6 := x0.cell 6 rfl; have c7 := x0.cell 7 rfl
        by_cases hal : (n1 : Int) > X.l
        · skip
          go_wp2
          go_ret2
          exact ⟨HX0.out.2.trans (hb.mono hW1), .inl ⟨HNO.out, rfl⟩⟩
        · have hw0 := hwn 0
          rw [show fromI 1 0 X.n = false from rfl] at hw0
          go_wp2_with fail
          refine (hw0 _).mono ?_
          rintro e V3 ⟨rfl, rfl⟩
          go_wp2
          go_ret2
          exact ⟨HX0.out.2.trans (hb.mono hW1), .inl ⟨HNO.out, rfl⟩⟩
    · obtain rfl : k = N := by omega
      have hO2 := HL.out.2.1
      rw [List.drop_eq_nil_iff.2 (by rw [HN.out]; exact Nat.le_refl _)] at hO2
      replace hO2 : O = some L := hO2
      have hz := own_nw hown HL.out.1 (by have := HL.out.1; omega) HL.out.2.2
      have hww := HX0.out.2.trans (hb.mono hW1)
      have HZ := hid (show LoP O w (.returned (.tuple #[.slice a1 p e1c, .bool true])) wr from ⟨hww, .inr ⟨L, a1, e1c, hO2, by rw [HL.out.1], hz.1.mono hW1⟩⟩)
      clear hO2 hz HL hown
      go_wp2
      go_ret2
      exact HZ.out
end Go.Proofs.Yteianfbdhakhpaa
