import Derived.Test.YtakodllejndfeaaT23
import Derived.Test.YtakodllejndfeaaT17
/-! The reference's Shares; whether two royals are equal. -/
namespace Go.Proofs.Ytakodllejndfeaa
set_option linter.unusedSimpArgs false
set_option linter.unusedVariables false
open Go Go.RowKit

set_option maxRecDepth 100000 in
set_option maxHeartbeats 1000000 in
theorem refShares_any (p : Int) (aS aO : Option Addr) (cS cO : Nat) (S : List Sd) (O : List Int) (w : World) (hX : Ry w aS aO p S O) : Calls Try.prog 37 #[.agg #[.int .i64 p, .slice aS S.length cS, .slice aO O.length cO]] w fun e w' => ∃ v, e = .returned (.tuple #[v, .int .i64 (askE p S O true)]) ∧ w'.ownsRow w.heap.size 3 1 v (shR p S O).length ((shR p S O).map (Value.int .i64)) ∧ Below w.heap.size w w' := by
  have hkn := fun V h => known_any p aS aO cS cO S O true V h
  obtain ⟨W, hW, hb, _, x0⟩ := boxes1 w #[.int .i64 p, .slice aS S.length cS, .slice aO O.length cO] 25
  have hR := hX.below hb (Nat.le_refl _)
  have hbs := hb.size
  by_cases hE : askE p S O true = 0
  · obtain ⟨hv, _, hal⟩ := askE_0 hE
    have hV := vB_ok hv
    have hs := fun V h => sharesOf_any p aS aO cS cO S O V h hV hal
    unfold SoP at hs
    rw [shR_ok hE]
    rw [hE] at hkn ⊢
    have hl := shL_len p (clL S O.length) (100 * alS S) O.length
    generalize shL p (clL S O.length) (100 * alS S) O.length = L at *
    rw [hl]
    clear hE hv hal hV hl
    have c0 := x0.cell 0 rfl; have c1 := x0.cell 1 rfl; have c2 := x0.cell 2 rfl
    go_enter Try.func37, Try.ntmps37
    go_wp2_with fail
    refine (hkn _ hR).mono ?_
    rintro e W1 ⟨rfl, hb1⟩
    replace hR := hR.below hb1 (Nat.le_refl _)
    replace x0 := x0.below hb1
    replace hb := hb.trans (hb1.mono hb.size)
    have hb1s := hb1.size
    clear hW hkn hb1 c0 c1 c2
    have c0 := x0.cell 0 rfl; have c1 := x0.cell 1 rfl; have c2 := x0.cell 2 rfl
    go_wp2_with fail
    refine (hs _ hR).mono ?_
    rintro e W2 ⟨r, c, rfl, ho, hb2⟩
    replace hb := hb.trans (hb2.mono hb.size)
    have HO := hid (own_base ho (show w.heap.size ≤ W1.heap.size by omega))
    clear hs hb2 ho x0 c0 c1 c2 hR
    go_wp2
    go_ret2
    exact ⟨_, rfl, HO.out, hb⟩
  · rw [shR_bad hE]
    generalize askE p S O true = E at *
    have hB : (E != 0) = true := by simp [hE]
    have c0 := x0.cell 0 rfl; have c1 := x0.cell 1 rfl; have c2 := x0.cell 2 rfl
    go_enter Try.func37, Try.ntmps37
    go_wp2_with fail
    refine (hkn _ hR).mono ?_
    rintro e W1 ⟨rfl, hb1⟩
    replace hb := hb.trans (hb1.mono hb.size)
    clear hW hkn hb1 c0 c1 c2 x0 hR
    go_wp2
    go_ret2
    exact ⟨_, rfl, World.ownsRow_nil _ _ _ _, hb⟩

theorem below_two2 {B : Nat} {w W : World} (h : Below B w W) {b c : Nat} (hb : B ≤ b) (hc : B ≤ c) (v0 v1 u0 u1 : Value) : Below B w ((((W.setCell ⟨b, 0, none⟩ v0).setCell ⟨b, 1, none⟩ v1).setCell ⟨c, 0, none⟩ u0).setCell ⟨c, 1, none⟩ u1) := below_put2 (below_put2 h hb v0 v1) hc u0 u1

set_option maxRecDepth 100000 in
set_option maxHeartbeats 8000000 in
theorem same_any (p : Int) (aS aO bS bO : Option Addr) (cS cO dS dO : Nat) (S : List Sd) (O : List Int) (w : World) (hX : Ry w aS aO p S O) (hY : Ry w bS bO p S O) : Calls Try.prog 38 #[.agg #[.int .i64 p, .slice aS S.length cS, .slice aO O.length cO], .agg #[.int .i64 p, .slice bS S.length dS, .slice bO O.length dO]] w fun e w' => e = .returned (.bool true) ∧ Below w.heap.size w w' := by
  obtain ⟨W, hW, hb, _, x0, x1⟩ := boxes2 w #[.int .i64 p, .slice aS S.length cS, .slice aO O.length cO] 25 #[.int .i64 p, .slice bS S.length dS, .slice bO O.length dO] 25
  replace hX := hX.below hb (Nat.le_refl _)
  replace hY := hY.below hb (Nat.le_refl _)
  have hsi := SameInts_eq aO bO cO dO O W hX.ow hY.ow
  have hol := hX.ol; have hsl := hX.sd.len
  have hS := hX.sd; have hT := hY.sd
  obtain ⟨n, hn⟩ : ∃ n, n = O.length := ⟨_, rfl⟩
  obtain ⟨m, hm⟩ : ∃ m, m = S.length := ⟨_, rfl⟩
  rw [← hn] at hsi x0 x1 hW hol ⊢
  rw [← hm] at x0 x1 hW hsl ⊢
  have HM := hid hm
  have hmI : (m : Int) ≤ 1000 := by omega
  clear hn hm hX hY
  have c0 := x0.cell 0 rfl; have c1 := x0.cell 1 rfl; have c2 := x0.cell 2 rfl
  have d0 := x1.cell 0 rfl; have d1 := x1.cell 1 rfl; have d2 := x1.cell 2 rfl
  go_enter Try.func38, Try.ntmps38
  go_wp2_with fail
  refine hsi.mono ?_
  rintro e W1 ⟨rfl, hb1⟩
  replace hb := hb.trans (hb1.mono hb.size)
  replace x0 := x0.below hb1
  replace x1 := x1.below hb1
  replace hS := hS.below hb1 (Nat.le_refl _)
  replace hT := hT.below hb1 (Nat.le_refl _)
  clear hW hsi hb1 c0 c1 c2 d0 d1 d2
  have hWs : w.heap.size + 2 ≤ W1.heap.size := by have := x1.lt; omega
  go_wp2
  go_loopw [5] (fun u5 wr => ∃ k : Nat, k ≤ m ∧ u5 = .int .i64 (k : Int) ∧ Below W1.heap.size W1 wr) (fun u5 _ => m - (intOf u5).toNat)
  case atStart => exact ⟨0, Nat.zero_le _, rfl, Below.refl _ _⟩
  case round =>
    obtain ⟨k, hk, rfl, hbw⟩ := hrel
    have y0 := x0.below hbw
    have y1 := x1.below hbw
    have c0 := y0.cell 0 rfl; have c1 := y0.cell 1 rfl; have c2 := y0.cell 2 rfl
    have d0 := y1.cell 0 rfl; have d1 := y1.cell 1 rfl; have d2 := y1.cell 2 rfl
    by_cases hlt : k < m
    · have hkI : (k : Int) < m := by omega
      have hk0' : (0 : Int) ≤ (k : Int) := by omega
      obtain ⟨b1, o1, s, a', c', rfl, hbl1, q0, q1, hP, hpl, hrg, _, hg⟩ := hS.at (k := k) (by rw [← HM.out]; exact hlt)
      obtain ⟨b2, o2, s', a2, c2', rfl, hbl2, r0, r1, hP2, _, _, _, hg2⟩ := hT.at (k := k) (by rw [← HM.out]; exact hlt)
      obtain rfl : s = s' := by
        have h1 := hg.out; have h2 := hg2.out
        rw [h1] at h2; cases h2; rfl
      obtain ⟨pl, ps⟩ := s
      simp only at q0 q1 hP hpl hrg r0 r1 hP2
      obtain ⟨q, hq⟩ : ∃ q, q = ps.length := ⟨_, rfl⟩
      rw [← hq] at q1 r1 hpl
      have HQ := hid hq
      clear hg hg2 hq
      go_upto_region 6 with fail
      clear c0 c1 c2 d0 d1 d2
      have hbd := (Below.refl wr.heap.size wr).drew
      have hbx := hbw.trans (hbd.mono hbw.size)
      have S0 := And.intro (y0.below hbd) (And.intro (y1.below hbd) (And.intro (Below.keep hbx q0) (And.intro (Below.keep hbx q1) (And.intro (Below.keep hbx r0) (Below.keep hbx r1)))))
      have HQQ := hid (And.intro q0 (And.intro q1 (And.intro r0 r1)))
      clear hbd hbw y0 y1 q0 q1 r0 r1
      go_cut [6, 7] (fun u6 u7 wx => ∃ (s6 s7 : Nat), u6 = .pointer (some ⟨s6, 0, none⟩) ∧ u7 = .pointer (some ⟨s7, 0, none⟩) ∧ Bx wx s6 #[.int .i64 pl, .slice a' q c'] 39 ∧ Bx wx s7 #[.int .i64 pl, .slice a2 q c2'] 39 ∧ Below W1.heap.size W1 wx)
      case first =>
        refine wp_region_head 13 (fun w' => Bx w' w.heap.size #[.int .i64 p, .slice (some ⟨b1, o1, none⟩) m cS, .slice aO n cO] 25 ∧ Bx w' (w.heap.size + 1) #[.int .i64 p, .slice (some ⟨b2, o2, none⟩) m dS, .slice bO n dO] 25 ∧ w'.cell? ⟨b1, o1 + k * 2, none⟩ = some (.int .i64 pl) ∧ w'.cell? ⟨b1, o1 + k * 2 + 1, none⟩ = some (.slice a' q c') ∧ w'.cell? ⟨b2, o2 + k * 2, none⟩ = some (.int .i64 pl) ∧ w'.cell? ⟨b2, o2 + k * 2 + 1, none⟩ = some (.slice a2 q c2')) (by kernel_rfl) rfl ?_
        generalize wr.drew = Y0 at *
        refine HeadAt.take (i := 0) (.pointer (some ⟨w.heap.size, 1, none⟩)) rfl (by kernel_rfl) (.inl ⟨rfl, fun _ _ => by simp [go_sem]⟩) S0 ?_
        (try simp only [Act.put, List.getElem_toArray, List.getElem_cons_succ, List.getElem_cons_zero, List.setIfInBounds_toArray, List.set_cons_succ, List.set_cons_zero])
        refine HeadAt.take (i := 1) (.slice (some ⟨b1, o1, none⟩) m cS) rfl (by kernel_rfl) (.inl ⟨rfl, fun w' z => ?_⟩) S0 ?_
        · (have z0 := z.1.cell 1 rfl; simp [go_sem, z0])
        (try simp only [Act.put, List.getElem_toArray, List.getElem_cons_succ, List.getElem_cons_zero, List.setIfInBounds_toArray, List.set_cons_succ, List.set_cons_zero])
        refine HeadAt.take (i := 2) (.int .i64 (k : Int)) rfl (by kernel_rfl) (.inl ⟨rfl, fun _ _ => by simp [go_sem]⟩) S0 ?_
        (try simp only [Act.put, List.getElem_toArray, List.getElem_cons_succ, List.getElem_cons_zero, List.setIfInBounds_toArray, List.set_cons_succ, List.set_cons_zero])
        refine HeadAt.take (i := 3) (.pointer (some ⟨b1, o1 + k * 2, none⟩)) rfl (by kernel_rfl) (.inl ⟨rfl, fun w' z => ?_⟩) S0 ?_
        · (simp [go_sem, hkI, hk0'])
        (try simp only [Act.put, List.getElem_toArray, List.getElem_cons_succ, List.getElem_cons_zero, List.setIfInBounds_toArray, List.set_cons_succ, List.set_cons_zero])
        refine HeadAt.take (i := 4) (.agg #[.int .i64 pl, .slice a' q c']) rfl (by kernel_rfl) (.inl ⟨rfl, fun w' z => ?_⟩) S0 ?_
        · (have z0 := z.2.2.1; have z1 := z.2.2.2.1; simp [go_sem, z0, z1])
        (try simp only [Act.put, List.getElem_toArray, List.getElem_cons_succ, List.getElem_cons_zero, List.setIfInBounds_toArray, List.set_cons_succ, List.set_cons_zero])
        refine HeadAt.take (i := 5) (.pointer (some ⟨w.heap.size + 1, 1, none⟩)) rfl (by kernel_rfl) (.inl ⟨rfl, fun _ _ => by simp [go_sem]⟩) S0 ?_
        (try simp only [Act.put, List.getElem_toArray, List.getElem_cons_succ, List.getElem_cons_zero, List.setIfInBounds_toArray, List.set_cons_succ, List.set_cons_zero])
        refine HeadAt.take (i := 6) (.slice (some ⟨b2, o2, none⟩) m dS) rfl (by kernel_rfl) (.inl ⟨rfl, fun w' z => ?_⟩) S0 ?_
        · (have z0 := z.2.1.cell 1 rfl; simp [go_sem, z0])
        (try simp only [Act.put, List.getElem_toArray, List.getElem_cons_succ, List.getElem_cons_zero, List.setIfInBounds_toArray, List.set_cons_succ, List.set_cons_zero])
        refine HeadAt.take (i := 7) (.int .i64 (k : Int)) rfl (by kernel_rfl) (.inl ⟨rfl, fun _ _ => by simp [go_sem]⟩) S0 ?_
        (try simp only [Act.put, List.getElem_toArray, List.getElem_cons_succ, List.getElem_cons_zero, List.setIfInBounds_toArray, List.set_cons_succ, List.set_cons_zero])
        refine HeadAt.take (i := 8) (.pointer (some ⟨b2, o2 + k * 2, none⟩)) rfl (by kernel_rfl) (.inl ⟨rfl, fun w' z => ?_⟩) S0 ?_
        · (simp [go_sem, hkI, hk0'])
        (try simp only [Act.put, List.getElem_toArray, List.getElem_cons_succ, List.getElem_cons_zero, List.setIfInBounds_toArray, List.set_cons_succ, List.set_cons_zero])
        refine HeadAt.take (i := 9) (.agg #[.int .i64 pl, .slice a2 q c2']) rfl (by kernel_rfl) (.inl ⟨rfl, fun w' z => ?_⟩) S0 ?_
        · (have z0 := z.2.2.2.2.1; have z1 := z.2.2.2.2.2; simp [go_sem, z0, z1])
        (try simp only [Act.put, List.getElem_toArray, List.getElem_cons_succ, List.getElem_cons_zero, List.setIfInBounds_toArray, List.set_cons_succ, List.set_cons_zero])
        refine HeadAt.two (i := 10) (j := 11) rfl rfl (by kernel_rfl) ?_ ?_
        · skip
          generalize hK : Upto _ _ = K0
          (try simp only [Act.put, List.getElem_toArray, List.getElem_cons_succ, List.getElem_cons_zero, List.setIfInBounds_toArray, List.set_cons_succ, List.set_cons_zero])
          have hba := below_one (w := Y0) (.cells #[.int .i64 0, .slice none 0 0] 39)
          have hSs6 := hbx.size
          have HY := hid (And.intro (And.intro (S0.1.below hba) (And.intro (S0.2.1.below hba) (And.intro (Below.keep hba S0.2.2.1) (And.intro (Below.keep hba S0.2.2.2.1) (And.intro (Below.keep hba S0.2.2.2.2.1) (Below.keep hba S0.2.2.2.2.2)))))) (And.intro (hbx.trans (hba.mono hbx.size)) (Bx.new Y0 #[.int .i64 0, .slice none 0 0] 39)))
          clear hba S0 hbx
          go_wp2_with fail
          obtain ⟨S0, hbx, xs6⟩ := HY.out
          clear HY
          have hlt9 : Y0.heap.size < (Y0.alloc (.cells #[.int .i64 0, .slice none 0 0] 39)).heap.size := by simp
          generalize Y0.heap.size = s6 at *
          generalize Y0.alloc _ = Y1 at *
          subst hK
          refine ⟨S0, ?_⟩
          (try simp only [Act.put, List.getElem_toArray, List.getElem_cons_succ, List.getElem_cons_zero, List.setIfInBounds_toArray, List.set_cons_succ, List.set_cons_zero])
          refine HeadAt.one (i := 11) rfl (by kernel_rfl) ?_
          generalize hK : Upto _ _ = K0
          (try simp only [Act.put, List.getElem_toArray, List.getElem_cons_succ, List.getElem_cons_zero, List.setIfInBounds_toArray, List.set_cons_succ, List.set_cons_zero])
          have hba := below_one (w := Y1) (.cells #[.int .i64 0, .slice none 0 0] 39)
          have hSs7 := hbx.size
          have HY := hid (And.intro (And.intro (S0.1.below hba) (And.intro (S0.2.1.below hba) (And.intro (Below.keep hba S0.2.2.1) (And.intro (Below.keep hba S0.2.2.2.1) (And.intro (Below.keep hba S0.2.2.2.2.1) (Below.keep hba S0.2.2.2.2.2)))))) (And.intro (hbx.trans (hba.mono hbx.size)) (And.intro (Bx.new Y1 #[.int .i64 0, .slice none 0 0] 39) (xs6.below hba))))
          clear hba S0 hbx xs6
          go_wp2_with fail
          obtain ⟨S0, hbx, xs7, xs6⟩ := HY.out
          clear HY
          have hne : s6 ≠ Y1.heap.size := by have := hlt9; omega
          generalize Y1.heap.size = s7 at *
          generalize Y1.alloc _ = Y2 at *
          subst hK
          refine ⟨S0, ?_⟩
          (try simp only [Act.put, List.getElem_toArray, List.getElem_cons_succ, List.getElem_cons_zero, List.setIfInBounds_toArray, List.set_cons_succ, List.set_cons_zero])
          clear S0
          have hn67 : s6 ≠ s7 := by omega
          have e0 := xs6.cell 0 rfl; have e1 := xs6.cell 1 rfl; have f0 := xs6.free 0; have f1 := xs6.free 1
          have t6 := xs6.set2 (.int .i64 pl) (.slice a' q c')
          have t7 := xs7.oth2 (g := s6) (by omega) (.int .i64 pl) (.slice a' q c')
          have tb := below_put2 hbx (b := s6) (by omega) (.int .i64 pl) (.slice a' q c')
          have S1 := And.intro (x0.below tb) (And.intro (x1.below tb) (And.intro (Below.keep tb HQQ.out.1) (And.intro (Below.keep tb HQQ.out.2.1) (And.intro (Below.keep tb HQQ.out.2.2.1) (Below.keep tb HQQ.out.2.2.2)))))
          have HZ := hid (And.intro t6 (And.intro t7 (And.intro tb S1)))
          clear t6 t7 tb S1 xs6 xs7 hbx
          refine HeadAt.one (i := 12) rfl (by kernel_rfl) ?_
          generalize hK : Upto _ _ = K0
          (try simp only [Act.put, List.getElem_toArray, List.getElem_cons_succ, List.getElem_cons_zero, List.setIfInBounds_toArray, List.set_cons_succ, List.set_cons_zero])
          go_wp2_with fail
          obtain ⟨t6, t7, tb, S1⟩ := HZ.out
          clear HZ e0 e1 f0 f1
          generalize World.setCell (World.setCell _ _ _) _ _ = V2 at *
          subst hK
          refine ⟨S1, ?_⟩
          clear S1
          (try simp only [Act.put, List.getElem_toArray, List.getElem_cons_succ, List.getElem_cons_zero, List.setIfInBounds_toArray, List.set_cons_succ, List.set_cons_zero])
          have e2 := t7.cell 0 rfl; have e3 := t7.cell 1 rfl; have f2 := t7.free 0; have f3 := t7.free 1
          have z6 := t6.oth2 (g := s7) (by omega) (.int .i64 pl) (.slice a2 q c2')
          have z7 := t7.set2 (.int .i64 pl) (.slice a2 q c2')
          have zb := below_put2 tb (b := s7) (by omega) (.int .i64 pl) (.slice a2 q c2')
          have HZ := hid (And.intro z6 (And.intro z7 zb))
          clear z6 z7 zb t7 t6 tb
          refine HeadAt.done (by kernel_rfl) ?_
          (try simp only [Act.put, List.drop_succ_cons, List.drop_zero, List.getElem_toArray, List.getElem_cons_succ, List.getElem_cons_zero])
          go_wp2_with fail
          refine NoPanic.normal ?_
          obtain ⟨z6, z7, zb⟩ := HZ.out
          clear HZ e2 e3 f2 f3
          generalize World.setCell (World.setCell _ _ _) _ _ = V3 at *
          go_wp2_with fail
          go_meet
          exact ⟨s6, s7, rfl, rfl, z6, z7, zb⟩
        · skip
          generalize hK : Upto _ _ = K0
          (try simp only [Act.put, List.getElem_toArray, List.getElem_cons_succ, List.getElem_cons_zero, List.setIfInBounds_toArray, List.set_cons_succ, List.set_cons_zero])
          have hba := below_one (w := Y0) (.cells #[.int .i64 0, .slice none 0 0] 39)
          have hSs7 := hbx.size
          have HY := hid (And.intro (And.intro (S0.1.below hba) (And.intro (S0.2.1.below hba) (And.intro (Below.keep hba S0.2.2.1) (And.intro (Below.keep hba S0.2.2.2.1) (And.intro (Below.keep hba S0.2.2.2.2.1) (Below.keep hba S0.2.2.2.2.2)))))) (And.intro (hbx.trans (hba.mono hbx.size)) (Bx.new Y0 #[.int .i64 0, .slice none 0 0] 39)))
          clear hba S0 hbx
          go_wp2_with fail
          obtain ⟨S0, hbx, xs7⟩ := HY.out
          clear HY
          have hlt9 : Y0.heap.size < (Y0.alloc (.cells #[.int .i64 0, .slice none 0 0] 39)).heap.size := by simp
          generalize Y0.heap.size = s7 at *
          generalize Y0.alloc _ = Y1 at *
          subst hK
          refine ⟨S0, ?_⟩
          (try simp only [Act.put, List.getElem_toArray, List.getElem_cons_succ, List.getElem_cons_zero, List.setIfInBounds_toArray, List.set_cons_succ, List.set_cons_zero])
          refine HeadAt.one (i := 10) rfl (by kernel_rfl) ?_
          generalize hK : Upto _ _ = K0
          (try simp only [Act.put, List.getElem_toArray, List.getElem_cons_succ, List.getElem_cons_zero, List.setIfInBounds_toArray, List.set_cons_succ, List.set_cons_zero])
          have hba := below_one (w := Y1) (.cells #[.int .i64 0, .slice none 0 0] 39)
          have hSs6 := hbx.size
          have HY := hid (And.intro (And.intro (S0.1.below hba) (And.intro (S0.2.1.below hba) (And.intro (Below.keep hba S0.2.2.1) (And.intro (Below.keep hba S0.2.2.2.1) (And.intro (Below.keep hba S0.2.2.2.2.1) (Below.keep hba S0.2.2.2.2.2)))))) (And.intro (hbx.trans (hba.mono hbx.size)) (And.intro (Bx.new Y1 #[.int .i64 0, .slice none 0 0] 39) (xs7.below hba))))
          clear hba S0 hbx xs7
          go_wp2_with fail
          obtain ⟨S0, hbx, xs6, xs7⟩ := HY.out
          clear HY
          have hne : s7 ≠ Y1.heap.size := by have := hlt9; omega
          generalize Y1.heap.size = s6 at *
          generalize Y1.alloc _ = Y2 at *
          subst hK
          refine ⟨S0, ?_⟩
          (try simp only [Act.put, List.getElem_toArray, List.getElem_cons_succ, List.getElem_cons_zero, List.setIfInBounds_toArray, List.set_cons_succ, List.set_cons_zero])
          clear S0
          have hn67 : s6 ≠ s7 := by omega
          have e0 := xs6.cell 0 rfl; have e1 := xs6.cell 1 rfl; have f0 := xs6.free 0; have f1 := xs6.free 1
          have t6 := xs6.set2 (.int .i64 pl) (.slice a' q c')
          have t7 := xs7.oth2 (g := s6) (by omega) (.int .i64 pl) (.slice a' q c')
          have tb := below_put2 hbx (b := s6) (by omega) (.int .i64 pl) (.slice a' q c')
          have S1 := And.intro (x0.below tb) (And.intro (x1.below tb) (And.intro (Below.keep tb HQQ.out.1) (And.intro (Below.keep tb HQQ.out.2.1) (And.intro (Below.keep tb HQQ.out.2.2.1) (Below.keep tb HQQ.out.2.2.2)))))
          have HZ := hid (And.intro t6 (And.intro t7 (And.intro tb S1)))
          clear t6 t7 tb S1 xs6 xs7 hbx
          refine HeadAt.one (i := 12) rfl (by kernel_rfl) ?_
          generalize hK : Upto _ _ = K0
          (try simp only [Act.put, List.getElem_toArray, List.getElem_cons_succ, List.getElem_cons_zero, List.setIfInBounds_toArray, List.set_cons_succ, List.set_cons_zero])
          go_wp2_with fail
          obtain ⟨t6, t7, tb, S1⟩ := HZ.out
          clear HZ e0 e1 f0 f1
          generalize World.setCell (World.setCell _ _ _) _ _ = V2 at *
          subst hK
          refine ⟨S1, ?_⟩
          clear S1
          (try simp only [Act.put, List.getElem_toArray, List.getElem_cons_succ, List.getElem_cons_zero, List.setIfInBounds_toArray, List.set_cons_succ, List.set_cons_zero])
          have e2 := t7.cell 0 rfl; have e3 := t7.cell 1 rfl; have f2 := t7.free 0; have f3 := t7.free 1
          have z6 := t6.oth2 (g := s7) (by omega) (.int .i64 pl) (.slice a2 q c2')
          have z7 := t7.set2 (.int .i64 pl) (.slice a2 q c2')
          have zb := below_put2 tb (b := s7) (by omega) (.int .i64 pl) (.slice a2 q c2')
          have HZ := hid (And.intro z6 (And.intro z7 zb))
          clear z6 z7 zb t7 t6 tb
          refine HeadAt.done (by kernel_rfl) ?_
          (try simp only [Act.put, List.drop_succ_cons, List.drop_zero, List.getElem_toArray, List.getElem_cons_succ, List.getElem_cons_zero])
          go_wp2_with fail
          refine NoPanic.normal ?_
          obtain ⟨z6, z7, zb⟩ := HZ.out
          clear HZ e2 e3 f2 f3
          generalize World.setCell (World.setCell _ _ _) _ _ = V3 at *
          go_wp2_with fail
          go_meet
          exact ⟨s6, s7, rfl, rfl, z6, z7, zb⟩
      case rest =>
        clear S0 hbx
        obtain ⟨s6, s7, rfl, rfl, z6, z7, hbx⟩ := hcut
        have e6 := z6; have e7 := z7
        have c0 := e6.cell 0 rfl; have c1 := e6.cell 1 rfl
        have d0 := e7.cell 0 rfl; have d1 := e7.cell 1 rfl
        clear e6 e7
        go_wp2
        clear c0 c1 d0 d1
        go_loopw [8] (fun u8 wr => ∃ i : Nat, i ≤ q ∧ u8 = .int .i64 (i : Int) ∧ Below wc.heap.size wc wr) (fun u8 _ => q - (intOf u8).toNat)
        case atStart => exact ⟨0, Nat.zero_le _, rfl, Below.refl _ _⟩
        case round =>
          obtain ⟨i, hi, rfl, hbi⟩ := hrel
          have e6 := z6.below hbi
          have e7 := z7.below hbi
          have hbt := hbx.trans (hbi.mono hbx.size)
          have c0 := e6.cell 0 rfl; have c1 := e6.cell 1 rfl
          have d0 := e7.cell 0 rfl; have d1 := e7.cell 1 rfl
          by_cases hlti : i < q
          · obtain ⟨b3, o3, x, y, rfl, hbl3, q0, q1, hx1, hy1, hg, _⟩ := (hP.below hbt (Nat.le_refl _)).at (k := i) (by rw [← HQ.out]; exact hlti)
            obtain ⟨b4, o4, x', y', rfl, hbl4, r0, r1, _, _, hg2, _⟩ := (hP2.below hbt (Nat.le_refl _)).at (k := i) (by rw [← HQ.out]; exact hlti)
            have hxy : x = x' ∧ y = y' := by
              have h1 := hg.out; have h2 := hg2.out
              rw [h1] at h2; cases h2; exact ⟨rfl, rfl⟩
            obtain ⟨rfl, rfl⟩ := hxy
            have hiI : (i : Int) < q := by omega
            have hi0 : (0 : Int) ≤ (i : Int) := by omega
            have f0 := e6.ext 0 rfl; have f1 := e6.ext 1 rfl; have h0 := e7.ext 0 rfl; have h1 := e7.ext 1 rfl
            have u0 := Ext.cell q0; have u1 := Ext.cell q1; have t0 := Ext.cell r0; have t1 := Ext.cell r1
            go_upto_region 12 with fail
            clear c0 c1 d0 d1 e6 e7 q0 q1 r0 r1 hg hg2
            refine wp_region_ext_lit (by kernel_rfl) (by kernel_rfl) ?_
            repeat (quiet_step (fail))
            refine wpQuiet_nil ?_
            intro _ hw'
            obtain ⟨tt, rfl⟩ := hw'
            have hb4 := hbi.trans (tt.below.mono hbi.size)
            clear f0 f1 h0 h1 u0 u1 t0 t1
            go_wp2
            go_roundw
            case rel => exact ⟨i + 1, by omega, by simp, hb4⟩
            case measure => simp [intOf]; omega
          · have hiI : ¬ (i : Int) < q := by omega
            go_wp2
            go_roundw
            case rel => exact ⟨k + 1, by omega, by simp, hbt⟩
            case measure => simp [intOf]; omega
    · have hkI : ¬ (k : Int) < m := by omega
      have hbt := hb.trans (hbw.mono hb.size)
      go_wp2
      go_ret
      exact ⟨rfl, hbt⟩
end Go.Proofs.Ytakodllejndfeaa
