import Derived.Test.YtakodllejndfeaaT23
import Derived.Test.YtakodllejndfeaaT15
/-! The reference's share, Least and Odd. -/
namespace Go.Proofs.Ytakodllejndfeaa
set_option linter.unusedSimpArgs false
set_option linter.unusedVariables false
open Go Go.RowKit

set_option maxRecDepth 100000 in
set_option maxHeartbeats 4000000 in
theorem share_any (p : Int) (aS aO : Option Addr) (cS cO : Nat) (S : List Sd) (O : List Int) (i : Nat) (P : Int) (w : World) (hX : Ry w aS aO p S O) (hV : VOk P S O) (ha : alS S ≠ 0) (hi : i < O.length) : Calls Try.prog 63 #[.agg #[.int .i64 p, .slice aS S.length cS, .slice aO O.length cO], .int .i64 (i : Int), .int .i64 P] w fun e w' => e = .returned (.int .i64 (shV P (clL S O.length) (100 * alS S) O.length (i : Nat))) ∧ Below w.heap.size w w' := by
  obtain ⟨W, hW, hb, _, x0⟩ := boxes1 w #[.int .i64 p, .slice aS S.length cS, .slice aO O.length cO] 25
  have hs := fun V h => sharesOf_any P aS aO cS cO S O V h hV ha
  unfold SoP at hs
  have hget := shL_get P (clL S O.length) (100 * alS S) hi
  have hp0 := hV.p0; have hp9 := hV.p9
  generalize shL P (clL S O.length) (100 * alS S) O.length = L at *
  obtain ⟨s, hsv⟩ : ∃ s, s = shV P (clL S O.length) (100 * alS S) O.length (i : Nat) := ⟨_, rfl⟩
  rw [← hsv] at hget ⊢
  have HG := hid hget
  have hiI : (i : Int) < (O.length : Int) := by omega
  have hi0 : (0 : Int) ≤ (i : Int) := by omega
  have f0 := x0.free 0
  have z : Bx (W.setCell ⟨w.heap.size, 0, none⟩ (.int .i64 P)) w.heap.size #[.int .i64 P, .slice aS S.length cS, .slice aO O.length cO] 25 := by simpa using x0.set 0 (.int .i64 P)
  have zb := hb.setCell (p := ⟨w.heap.size, 0, none⟩) (Nat.le_refl _) (.int .i64 P)
  have hX1 := hX.below zb (Nat.le_refl _)
  have hR : Ry (W.setCell ⟨w.heap.size, 0, none⟩ (.int .i64 P)) aS aO P S O := ⟨hX1.sd, hX1.ow, hX1.ol, ⟨by omega, by omega⟩⟩
  have HZ := hid (And.intro z (And.intro zb hR))
  clear z zb hX1 hR hsv hget hV ha hb hX hi
  have c0 := x0.cell 0 rfl; have c1 := x0.cell 1 rfl; have c2 := x0.cell 2 rfl
  clear x0
  go_enter Try.func63, Try.ntmps63
  go_upto_region 2 with fail
  obtain ⟨z, zb, hR⟩ := HZ.out
  clear HZ c0 c1 c2 f0 hW
  generalize World.setCell _ _ _ = V1 at *
  have c0 := z.cell 0 rfl; have c1 := z.cell 1 rfl; have c2 := z.cell 2 rfl
  go_wp2_with fail
  refine (hs _ hR).mono ?_
  rintro e V2 ⟨r, c, rfl, ho, hb1⟩
  have q0 := own_cell ho i (v := .int .i64 s) (by rw [List.getElem?_map, HG.out]; rfl)
  have hbt := zb.trans (hb1.mono zb.size)
  clear hs ho hb1 hR z zb c0 c1 c2
  go_wp2
  go_ret
  exact ⟨rfl, hbt⟩

theorem firstF_step {q : Int → Bool} {n k : Nat} (h : k < n) : firstF q (n - k) (k : Int) = if q (k : Int) = true then some (k : Int) else firstF q (n - (k + 1)) ((k + 1 : Nat) : Int) := by
  rw [show n - k = (n - (k + 1)) + 1 by omega, firstF]
  rfl

set_option maxRecDepth 100000 in
set_option maxHeartbeats 1500000 in
theorem refLeast_any (p : Int) (aS aO : Option Addr) (cS cO : Nat) (S : List Sd) (O : List Int) (who cents : Int) (w : World) (hX : Ry w aS aO p S O) : Calls Try.prog 42 #[.agg #[.int .i64 p, .slice aS S.length cS, .slice aO O.length cO], .int .i64 who, .int .i64 cents] w fun e w' => e = .returned (.tuple #[.int .i64 (leV p S O who cents), .int .i64 (leE p S O who cents)]) ∧ Below w.heap.size w w' := by
  have hol := hX.ol
  have hwr := fun V => IsWriter_any p aS aO cS cO S O who V (by omega)
  have hwi := fun V => within_any cents 0 9999 V
  have hkn := fun V h => known_any p aS aO cS cO S O (hasB O who && inI 0 cents 9999) V h
  have hok : askE p S O (hasB O who && inI 0 cents 9999) = 0 → vB p S O = true ∧ (hasB O who && inI 0 cents 9999) = true ∧ alS S ≠ 0 := fun h => askE_0 h
  have hlv : leV p S O who cents = if askE p S O (hasB O who && inI 0 cents 9999) = 0 then fpV (leF S O.length who cents) else 0 := rfl
  have hle : leE p S O who cents = if askE p S O (hasB O who && inI 0 cents 9999) = 0 then fpE (leF S O.length who cents) else askE p S O (hasB O who && inI 0 cents 9999) := rfl
  obtain ⟨U, hU⟩ : ∃ u, u = leV p S O who cents := ⟨_, rfl⟩
  obtain ⟨Z, hZ⟩ : ∃ u, u = leE p S O who cents := ⟨_, rfl⟩
  rw [← hU] at hlv ⊢
  rw [← hZ] at hle ⊢
  clear hU hZ
  obtain ⟨r1, hr1⟩ : ∃ r, r = hasB O who := ⟨_, rfl⟩
  rw [← hr1] at hwr hkn hok hlv hle
  generalize inI 0 cents 9999 = r2 at *
  obtain ⟨R, hRr⟩ : ∃ R, R = (r1 && r2) := ⟨_, rfl⟩
  rw [← hRr] at hkn hok hlv hle
  generalize askE p S O R = E at *
  have HU := hid (And.intro hlv hle)
  clear hlv hle
  obtain ⟨W, hW, hb, _, x0⟩ := boxes1 w #[.int .i64 p, .slice aS S.length cS, .slice aO O.length cO] 25
  have hRy := hX.below hb (Nat.le_refl _)
  have HR1 := hid hr1
  clear hr1 hX
  go_enter Try.func42, Try.ntmps42
  go_upto_region 1 with fail
  clear hW
  have hbd := (Below.refl W.heap.size W).drew
  have hbr := hb.trans (hbd.mono hb.size)
  have S0 := And.intro (x0.below hbd) (hRy.below hbd (Nat.le_refl _))
  clear hbd hb x0 hRy
  go_cut [8] (fun v8 wx => v8 = .int .i64 E ∧ Bx wx w.heap.size #[.int .i64 p, .slice aS S.length cS, .slice aO O.length cO] 25 ∧ Ry wx aS aO p S O ∧ Below w.heap.size w wx)
  case first =>
    cases r1
    · skip
      have hRv : R = false := by rw [hRr]; rfl
      clear hRr
      subst hRv
      refine wp_region_head 9 (fun w' => Bx w' w.heap.size #[.int .i64 p, .slice aS S.length cS, .slice aO O.length cO] 25 ∧ Ry w' aS aO p S O) (by kernel_rfl) rfl ?_
      generalize W.drew = Y0 at *
      refine HeadAt.take (i := 0) (.agg #[.int .i64 p, .slice aS S.length cS, .slice aO O.length cO]) rfl (by kernel_rfl) (.inl ⟨rfl, fun w' z => ?_⟩) S0 ?_
      · (have z0 := z.1.cell 0 rfl; have z1 := z.1.cell 1 rfl; have z2 := z.1.cell 2 rfl; simp [go_sem, z0, z1, z2])
      (try simp only [Act.put, List.getElem_toArray, List.getElem_cons_succ, List.getElem_cons_zero, List.setIfInBounds_toArray, List.set_cons_succ, List.set_cons_zero])
      refine HeadAt.take (i := 1) (.agg #[.int .i64 p, .slice aS S.length cS, .slice aO O.length cO]) rfl (by kernel_rfl) (.inl ⟨rfl, fun w' z => ?_⟩) S0 ?_
      · (have z0 := z.1.cell 0 rfl; have z1 := z.1.cell 1 rfl; have z2 := z.1.cell 2 rfl; simp [go_sem, z0, z1, z2])
      (try simp only [Act.put, List.getElem_toArray, List.getElem_cons_succ, List.getElem_cons_zero, List.setIfInBounds_toArray, List.set_cons_succ, List.set_cons_zero])
      refine HeadAt.take (i := 2) (.int .i64 who) rfl (by kernel_rfl) (.inl ⟨rfl, fun _ _ => by simp [go_sem]⟩) S0 ?_
      (try simp only [Act.put, List.getElem_toArray, List.getElem_cons_succ, List.getElem_cons_zero, List.setIfInBounds_toArray, List.set_cons_succ, List.set_cons_zero])
      refine HeadAt.one (i := 3) rfl (by kernel_rfl) ?_
      generalize hK : Upto _ _ = K0
      (try simp only [Act.put, List.getElem_toArray, List.getElem_cons_succ, List.getElem_cons_zero, List.setIfInBounds_toArray, List.set_cons_succ, List.set_cons_zero])
      go_wp2_with fail
      refine (hwr _).mono ?_
      rintro e V1 ⟨rfl, hb3⟩
      go_wp2_with fail
      replace S0 := And.intro (S0.1.below hb3) (S0.2.below hb3 (Nat.le_refl _))
      replace hbr := hbr.trans (hb3.mono hbr.size)
      clear hb3 hwr
      subst hK
      refine ⟨S0, ?_⟩
      (try simp only [Act.put, List.getElem_toArray, List.getElem_cons_succ, List.getElem_cons_zero, List.setIfInBounds_toArray, List.set_cons_succ, List.set_cons_zero])
      refine HeadAt.take (i := 4) (.bool false) rfl (by kernel_rfl) (.inl ⟨rfl, fun _ _ => by simp [go_sem]⟩) S0 ?_
      (try simp only [Act.put, List.getElem_toArray, List.getElem_cons_succ, List.getElem_cons_zero, List.setIfInBounds_toArray, List.set_cons_succ, List.set_cons_zero])
      refine HeadAt.take (i := 5) undef rfl (by kernel_rfl) (.inr ⟨by kernel_rfl, rfl⟩) S0 ?_
      (try simp only [Act.put, List.getElem_toArray, List.getElem_cons_succ, List.getElem_cons_zero, List.setIfInBounds_toArray, List.set_cons_succ, List.set_cons_zero])
      refine HeadAt.take (i := 6) undef rfl (by kernel_rfl) (.inr ⟨by kernel_rfl, rfl⟩) S0 ?_
      (try simp only [Act.put, List.getElem_toArray, List.getElem_cons_succ, List.getElem_cons_zero, List.setIfInBounds_toArray, List.set_cons_succ, List.set_cons_zero])
      refine HeadAt.take (i := 7) (.bool false) rfl (by kernel_rfl) (.inl ⟨rfl, fun _ _ => by simp [go_sem]⟩) S0 ?_
      (try simp only [Act.put, List.getElem_toArray, List.getElem_cons_succ, List.getElem_cons_zero, List.setIfInBounds_toArray, List.set_cons_succ, List.set_cons_zero])
      refine HeadAt.one (i := 8) rfl (by kernel_rfl) ?_
      generalize hK : Upto _ _ = K0
      (try simp only [Act.put, List.getElem_toArray, List.getElem_cons_succ, List.getElem_cons_zero, List.setIfInBounds_toArray, List.set_cons_succ, List.set_cons_zero])
      go_wp2_with fail
      refine (hkn _ S0.2).mono ?_
      rintro e V2 ⟨rfl, hb3⟩
      go_wp2_with fail
      replace S0 := And.intro (S0.1.below hb3) (S0.2.below hb3 (Nat.le_refl _))
      replace hbr := hbr.trans (hb3.mono hbr.size)
      clear hb3 hkn
      subst hK
      refine ⟨S0, ?_⟩
      (try simp only [Act.put, List.getElem_toArray, List.getElem_cons_succ, List.getElem_cons_zero, List.setIfInBounds_toArray, List.set_cons_succ, List.set_cons_zero])
      refine HeadAt.done (by kernel_rfl) ?_
      (try simp only [Act.put, List.drop_succ_cons, List.drop_zero, List.getElem_toArray, List.getElem_cons_succ, List.getElem_cons_zero])
      go_wp2_with fail
      refine NoPanic.normal ?_
      go_wp2_with fail
      go_meet
      exact ⟨rfl, S0.1, S0.2, hbr⟩
    · skip
      have hRv : R = r2 := by rw [hRr]; rfl
      clear hRr
      subst hRv
      refine wp_region_head 9 (fun w' => Bx w' w.heap.size #[.int .i64 p, .slice aS S.length cS, .slice aO O.length cO] 25 ∧ Ry w' aS aO p S O) (by kernel_rfl) rfl ?_
      generalize W.drew = Y0 at *
      refine HeadAt.take (i := 0) (.agg #[.int .i64 p, .slice aS S.length cS, .slice aO O.length cO]) rfl (by kernel_rfl) (.inl ⟨rfl, fun w' z => ?_⟩) S0 ?_
      · (have z0 := z.1.cell 0 rfl; have z1 := z.1.cell 1 rfl; have z2 := z.1.cell 2 rfl; simp [go_sem, z0, z1, z2])
      (try simp only [Act.put, List.getElem_toArray, List.getElem_cons_succ, List.getElem_cons_zero, List.setIfInBounds_toArray, List.set_cons_succ, List.set_cons_zero])
      refine HeadAt.take (i := 1) (.agg #[.int .i64 p, .slice aS S.length cS, .slice aO O.length cO]) rfl (by kernel_rfl) (.inl ⟨rfl, fun w' z => ?_⟩) S0 ?_
      · (have z0 := z.1.cell 0 rfl; have z1 := z.1.cell 1 rfl; have z2 := z.1.cell 2 rfl; simp [go_sem, z0, z1, z2])
      (try simp only [Act.put, List.getElem_toArray, List.getElem_cons_succ, List.getElem_cons_zero, List.setIfInBounds_toArray, List.set_cons_succ, List.set_cons_zero])
      refine HeadAt.take (i := 2) (.int .i64 who) rfl (by kernel_rfl) (.inl ⟨rfl, fun _ _ => by simp [go_sem]⟩) S0 ?_
      (try simp only [Act.put, List.getElem_toArray, List.getElem_cons_succ, List.getElem_cons_zero, List.setIfInBounds_toArray, List.set_cons_succ, List.set_cons_zero])
      refine HeadAt.one (i := 3) rfl (by kernel_rfl) ?_
      generalize hK : Upto _ _ = K0
      (try simp only [Act.put, List.getElem_toArray, List.getElem_cons_succ, List.getElem_cons_zero, List.setIfInBounds_toArray, List.set_cons_succ, List.set_cons_zero])
      go_wp2_with fail
      refine (hwr _).mono ?_
      rintro e V3 ⟨rfl, hb3⟩
      go_wp2_with fail
      replace S0 := And.intro (S0.1.below hb3) (S0.2.below hb3 (Nat.le_refl _))
      replace hbr := hbr.trans (hb3.mono hbr.size)
      clear hb3 hwr
      subst hK
      refine ⟨S0, ?_⟩
      (try simp only [Act.put, List.getElem_toArray, List.getElem_cons_succ, List.getElem_cons_zero, List.setIfInBounds_toArray, List.set_cons_succ, List.set_cons_zero])
      refine HeadAt.take (i := 4) (.bool true) rfl (by kernel_rfl) (.inl ⟨rfl, fun _ _ => by simp [go_sem]⟩) S0 ?_
      (try simp only [Act.put, List.getElem_toArray, List.getElem_cons_succ, List.getElem_cons_zero, List.setIfInBounds_toArray, List.set_cons_succ, List.set_cons_zero])
      refine HeadAt.take (i := 5) (.int .i64 cents) rfl (by kernel_rfl) (.inl ⟨rfl, fun _ _ => by simp [go_sem]⟩) S0 ?_
      (try simp only [Act.put, List.getElem_toArray, List.getElem_cons_succ, List.getElem_cons_zero, List.setIfInBounds_toArray, List.set_cons_succ, List.set_cons_zero])
      refine HeadAt.one (i := 6) rfl (by kernel_rfl) ?_
      generalize hK : Upto _ _ = K0
      (try simp only [Act.put, List.getElem_toArray, List.getElem_cons_succ, List.getElem_cons_zero, List.setIfInBounds_toArray, List.set_cons_succ, List.set_cons_zero])
      go_wp2_with fail
      refine (hwi _).mono ?_
      rintro e V4 ⟨rfl, rfl⟩
      go_wp2_with fail
      skip
      subst hK
      refine ⟨S0, ?_⟩
      (try simp only [Act.put, List.getElem_toArray, List.getElem_cons_succ, List.getElem_cons_zero, List.setIfInBounds_toArray, List.set_cons_succ, List.set_cons_zero])
      refine HeadAt.take (i := 7) (.bool R) rfl (by kernel_rfl) (.inl ⟨rfl, fun _ _ => by simp [go_sem]⟩) S0 ?_
      (try simp only [Act.put, List.getElem_toArray, List.getElem_cons_succ, List.getElem_cons_zero, List.setIfInBounds_toArray, List.set_cons_succ, List.set_cons_zero])
      refine HeadAt.one (i := 8) rfl (by kernel_rfl) ?_
      generalize hK : Upto _ _ = K0
      (try simp only [Act.put, List.getElem_toArray, List.getElem_cons_succ, List.getElem_cons_zero, List.setIfInBounds_toArray, List.set_cons_succ, List.set_cons_zero])
      go_wp2_with fail
      refine (hkn _ S0.2).mono ?_
      rintro e V5 ⟨rfl, hb3⟩
      go_wp2_with fail
      replace S0 := And.intro (S0.1.below hb3) (S0.2.below hb3 (Nat.le_refl _))
      replace hbr := hbr.trans (hb3.mono hbr.size)
      clear hb3 hkn
      subst hK
      refine ⟨S0, ?_⟩
      (try simp only [Act.put, List.getElem_toArray, List.getElem_cons_succ, List.getElem_cons_zero, List.setIfInBounds_toArray, List.set_cons_succ, List.set_cons_zero])
      refine HeadAt.done (by kernel_rfl) ?_
      (try simp only [Act.put, List.drop_succ_cons, List.drop_zero, List.getElem_toArray, List.getElem_cons_succ, List.getElem_cons_zero])
      go_wp2_with fail
      refine NoPanic.normal ?_
      go_wp2_with fail
      go_meet
      exact ⟨rfl, S0.1, S0.2, hbr⟩
  case rest =>
    clear S0 hbr hkn hwr hwi
    obtain ⟨rfl, x0, hR, hbr⟩ := hcut
    by_cases h0 : E = 0
    · obtain ⟨hv, hr, hal⟩ := hok h0
      have hV := vB_ok hv
      have hu := HU.out
      rw [if_pos h0, if_pos h0] at hu
      clear HU
      have hw : hasB O who = true := by
        rw [← HR1.out]
        rw [hRr] at hr
        simp only [Bool.and_eq_true] at hr
        exact hr.1
      unfold hasB at hw
      obtain ⟨hw0, hw1⟩ := inI_iff.1 hw
      obtain ⟨i, rfl⟩ := Int.eq_ofNat_of_zero_le hw0
      have hi : i < O.length := by omega
      have hsh : ∀ k : Nat, k < 10000 → ∀ V, Ry V aS aO p S O → Calls Try.prog 63 #[.agg #[.int .i64 p, .slice aS S.length cS, .slice aO O.length cO], .int .i64 (i : Int), .int .i64 (k : Int)] V fun e w' => e = .returned (.int .i64 (shV (k : Int) (clL S O.length) (100 * alS S) O.length (i : Nat))) ∧ Below V.heap.size V w' := fun (k : Nat) (hk : k < 10000) V h => share_any p aS aO cS cO S O i (k : Int) V h (hV.pool (by omega) (by omega)) hal hi
      have hq : ∀ P, leQ S O.length i cents P = decide (cents ≤ shV P (clL S O.length) (100 * alS S) O.length (i : Nat)) := fun _ => rfl
      obtain ⟨q, hqd⟩ : ∃ q, q = leQ S O.length i cents := ⟨_, rfl⟩
      obtain ⟨N, hN⟩ : ∃ N, N = 10000 := ⟨_, rfl⟩
      obtain ⟨F, hF⟩ : ∃ F, F = leF S O.length i cents := ⟨_, rfl⟩
      have hF2 := hF
      unfold leF at hF2
      rw [← hqd, ← hN] at hF2
      rw [← hF] at hu
      have HU := hid hu
      clear hu
      rw [← hqd] at hq
      rw [← hN] at hsh
      have HF : Hid (firstF q (N - 0) ((0 : Nat) : Int) = F) := hid (by rw [Nat.sub_zero, hF2]; rfl)
      have HN := hid hN
      clear hN hqd hF2
      have HQ := hid hq
      subst h0
      clear hF hq hok hv hr hal hV hw hw0 hw1 hRr HR1
      go_wp2
      go_loopw [9] (fun v9 wr => ∃ k : Nat, k ≤ N ∧ v9 = .int .i64 (k : Int) ∧ Hid (firstF q (N - k) (k : Int) = F) ∧ Bx wr w.heap.size #[.int .i64 p, .slice aS S.length cS, .slice aO O.length cO] 25 ∧ Ry wr aS aO p S O ∧ Below w.heap.size w wr) (fun v9 _ => N - (intOf v9).toNat)
      case atStart => exact ⟨0, Nat.zero_le _, rfl, HF, x0, hR, hbr⟩
      case round =>
        clear x0 hR hbr HF
        obtain ⟨k, hk, rfl, HF, x0, hR, hbr⟩ := hrel
        by_cases hlt : k < N
        · have hkI : (k : Int) ≤ 9999 := by have := HN.out; omega
          have hst := firstF_step (q := q) hlt
          rw [HF.out, HQ.out] at hst
          have hs := hsh k hlt _ hR
          obtain ⟨s, hsv⟩ : ∃ s, s = shV (k : Int) (clL S O.length) (100 * alS S) O.length (i : Nat) := ⟨_, rfl⟩
          rw [← hsv] at hst hs
          clear hsv hsh HF
          have c0 := x0.cell 0 rfl; have c1 := x0.cell 1 rfl; have c2 := x0.cell 2 rfl
          by_cases hc : cents ≤ s
          · rw [if_pos (decide_eq_true hc)] at hst
            have hu := HU.out
            rw [hst] at hu
            obtain ⟨rfl, rfl⟩ := hu
            clear hst HU
            go_wp2_with fail
            refine hs.mono ?_
            rintro e V1 ⟨rfl, hb1⟩
            have hbt := hbr.trans (hb1.mono hbr.size)
            go_wp2
            go_ret2
            exact ⟨rfl, hbt⟩
          · rw [if_neg (by simpa using hc)] at hst
            have HF := hid hst.symm
            clear hst
            go_wp2_with fail
            refine hs.mono ?_
            rintro e V1 ⟨rfl, hb1⟩
            have hbt := hbr.trans (hb1.mono hbr.size)
            have y0 := x0.below hb1
            have yR := hR.below hb1 (Nat.le_refl _)
            clear x0 hR hbr hb1 hs c0 c1 c2
            go_wp2
            go_roundw
            case rel => exact ⟨k + 1, by omega, by simp, HF, y0, yR, hbt⟩
            case measure => simp [intOf]; omega
        · have hkn : k = N := by omega
          have hkI : ¬ (k : Int) ≤ 9999 := by have := HN.out; omega
          have hF := HF.out
          rw [hkn, Nat.sub_self, firstF] at hF
          have hu := HU.out
          rw [← hF] at hu
          obtain ⟨rfl, rfl⟩ := hu
          clear HF hsh hR hkn hF HU
          have c0 := x0.cell 0 rfl; have c1 := x0.cell 1 rfl; have c2 := x0.cell 2 rfl
          clear x0
          go_wp2
          go_ret2
          exact ⟨rfl, hbr⟩
    · have hB : (E != 0) = true := by simp [h0]
      have hu := HU.out
      rw [if_neg h0, if_neg h0] at hu
      obtain ⟨rfl, rfl⟩ := hu
      clear hok hR x0 hRr HR1 HU
      go_wp2
      go_ret2
      exact ⟨rfl, hbr⟩
end Go.Proofs.Ytakodllejndfeaa
