import Derived.Test.YtakodllejndfeaaT17
/-! RoyaltiesOwed. -/
namespace Go.Proofs.Ytakodllejndfeaa
set_option linter.unusedSimpArgs false
set_option linter.unusedVariables false
open Go Go.RowKit

theorem sanB_ok {n : Nat} {l : List Int} {most : Int} (hl : l.length = n) (h : ∀ x ∈ l, 0 ≤ x ∧ x ≤ most) : sanB n l most = true := by
  unfold sanB
  rw [decide_eq_true hl, Bool.true_and, List.all_eq_true]
  exact fun x hx => inI_iff.2 (h x hx)
theorem stR_get {cm : Int → Int → Int} {p : Int} {S : List Sd} {O : List Int} (h : askE p S O true = 0) {k : Nat} (hk : k < O.length) : (stR cm p S O)[k]? = some (cm ((shR p S O).getD k 0) (O.getD k 0)) := by
  rw [stR_ok h]; exact stL_get cm _ _ hk
theorem askE_v1 {p : Int} {S : List Sd} {O : List Int} (h : vB p S O = true) : askE p S O true = errO S := by
  unfold askE errO; rw [if_pos h, if_pos rfl]
theorem owed_law (s o : Int) : paidV s o + o = s + leftO s o ∧ (0 < paidV s o → leftO s o = 0) ∧ 0 ≤ paidV s o ∧ 0 ≤ leftO s o := by
  unfold paidV leftO; split <;> split <;> omega

set_option maxRecDepth 100000 in
set_option maxHeartbeats 8000000 in
theorem royaltiesOwed_any (p : Int) (aS aO : Option Addr) (cS cO : Nat) (S : List Sd) (O : List Int) (w : World) (hX : RyIn w aS aO p S O) : Calls Try.prog 7 #[.agg #[.int .i64 p, .slice aS S.length cS, .slice aO O.length cO]] w fun e w' => e = .returned (.bool true) ∧ Below w.heap.size w w' := by
  obtain ⟨W, hW, hb, _, x0⟩ := boxes1 w #[.int .i64 p, .slice aS S.length cS, .slice aO O.length cO] 25
  have hXW := hX.below hb (Nat.le_refl _)
  have hrd := ready_any p aS aO cS cO S O W hXW
  have hwk := fun V => works_any V
  cases hr : rdB p S O
  · rw [hr] at hrd
    have c0 := x0.cell 0 rfl; have c1 := x0.cell 1 rfl; have c2 := x0.cell 2 rfl
    go_enter Try.func7, Try.ntmps7
    go_wp2_with fail
    refine hrd.mono ?_
    rintro e W1 ⟨rfl, hb1⟩
    replace hb := hb.trans (hb1.mono hb.size)
    clear hb1 hrd hX hXW hW c0 c1 c2 x0 hr
    go_wp2_with fail
    refine (hwk _).mono ?_
    rintro e Vw ⟨rfl, hbw9⟩
    replace hb := hb.trans (hbw9.mono hb.size)
    go_wp2
    go_ret
    exact ⟨rfl, hb⟩
  · rw [hr] at hrd
    obtain ⟨hf, hv⟩ := rdB_ok hr
    have hV := vB_ok hv
    have hR := hXW.ry hf
    have hol := hR.ol
    have hEO := askE_v1 hv
    have h1 := fun V h => Shares_any p aS aO cS cO S O V h
    have h2 := fun V h => Paid_any p aS aO cS cO S O V h
    have h3 := fun V h => Left_any p aS aO cS cO S O V h
    have h4 := fun V h => plain_any p aS aO cS cO S O (askE p S O true) V h hV
    rw [decide_eq_true hEO] at h4
    clear hr hf hXW hEO
    by_cases hE : askE p S O true = 0
    · skip
      have hlL := shR_len hE
      have hlP := stR_len (cm := paidV) hE
      have hlQ := stR_len (cm := leftO) hE
      have hgP := fun k hk => stR_get (cm := paidV) hE (k := k) hk
      have hgQ := fun k hk => stR_get (cm := leftO) hE (k := k) hk
      have hrL := shR_rng p S O
      have hrP := stR_rng paidV_rng p S O
      have hrQ := stR_rng leftO_rng p S O
      have hn6 := hV.n6
      have how := hV.ow
      rw [hE] at h1 h2 h3 h4
      clear hE hV hv
      generalize shR p S O = L at *
      generalize stR paidV p S O = P at *
      generalize stR leftO p S O = Q at *
      have s1 := fun a c V h => sane_any p aS aO cS cO S O a c L 9999 V h hol
      have s2 := fun a c V h => sane_any p aS aO cS cO S O a c P 9999 V h hol
      have s3 := fun a c V h => sane_any p aS aO cS cO S O a c Q 9999 V h hol
      rw [sanB_ok hlL hrL] at s1
      rw [sanB_ok hlP hrP] at s2
      rw [sanB_ok hlQ hrQ] at s3
      rw [hlL] at h1 s1
      rw [hlP] at h2 s2
      rw [hlQ] at h3 s3
      have HP := hid hgP; have HQ := hid hgQ; have HLL := hid hlL; have HLP := hid hlP; have HLQ := hid hlQ; have HRL := hid hrL; have HOW := hid how
      clear hgP hgQ hlL hlP hlQ hrL hrP hrQ how
      obtain ⟨n, hn⟩ : ∃ n, n = O.length := ⟨_, rfl⟩
      rw [← hn] at h1 h2 h3 h4 s1 s2 s3 hrd hn6 hol x0 hW ⊢
      have HN := hid hn
      clear hn
      have hnI : (n : Int) ≤ 6 := by omega
      have hn0 : ¬ (n : Int) < 0 := by omega
      have c0 := x0.cell 0 rfl; have c1 := x0.cell 1 rfl; have c2 := x0.cell 2 rfl
      go_enter Try.func7, Try.ntmps7
      go_wp2_with fail
      refine hrd.mono ?_
      rintro e W1 ⟨rfl, hb1⟩
      clear hrd hW hX
      clear c0 c1 c2
      replace x0 := x0.below hb1
      replace hR := hR.below hb1 (Nat.le_refl _)
      replace hb := hb.trans (hb1.mono hb.size)
      clear hb1
      have c0 := x0.cell 0 rfl; have c1 := x0.cell 1 rfl; have c2 := x0.cell 2 rfl
      go_wp2_with fail
      refine (h1 _ hR).mono ?_
      rintro e Vc2 ⟨aL, kL, rfl, hL, hb1⟩
      clear c0 c1 c2
      replace x0 := x0.below hb1
      replace hR := hR.below hb1 (Nat.le_refl _)
      replace hb := hb.trans (hb1.mono hb.size)
      clear hb1
      have c0 := x0.cell 0 rfl; have c1 := x0.cell 1 rfl; have c2 := x0.cell 2 rfl
      clear h1
      go_wp2_with fail
      refine (h2 _ hR).mono ?_
      rintro e Vc3 ⟨aP, kP, rfl, hP, hb1⟩
      clear c0 c1 c2
      replace x0 := x0.below hb1
      replace hR := hR.below hb1 (Nat.le_refl _)
      replace hL := hL.below hb1 (Nat.le_refl _)
      replace hb := hb.trans (hb1.mono hb.size)
      clear hb1
      have c0 := x0.cell 0 rfl; have c1 := x0.cell 1 rfl; have c2 := x0.cell 2 rfl
      clear h2
      go_wp2_with fail
      refine (h3 _ hR).mono ?_
      rintro e Vc4 ⟨aQ, kQ, rfl, hQ, hb1⟩
      clear c0 c1 c2
      replace x0 := x0.below hb1
      replace hR := hR.below hb1 (Nat.le_refl _)
      replace hL := hL.below hb1 (Nat.le_refl _)
      replace hP := hP.below hb1 (Nat.le_refl _)
      replace hb := hb.trans (hb1.mono hb.size)
      clear hb1
      have c0 := x0.cell 0 rfl; have c1 := x0.cell 1 rfl; have c2 := x0.cell 2 rfl
      clear h3
      go_wp2_with fail
      refine (h4 _ hR).mono ?_
      rintro e Vc5 ⟨rfl, hb1⟩
      clear c0 c1 c2
      replace x0 := x0.below hb1
      replace hR := hR.below hb1 (Nat.le_refl _)
      replace hL := hL.below hb1 (Nat.le_refl _)
      replace hP := hP.below hb1 (Nat.le_refl _)
      replace hQ := hQ.below hb1 (Nat.le_refl _)
      replace hb := hb.trans (hb1.mono hb.size)
      clear hb1
      have c0 := x0.cell 0 rfl; have c1 := x0.cell 1 rfl; have c2 := x0.cell 2 rfl
      clear h4
      go_wp2_with fail
      refine (s1 _ _ _ hL).mono ?_
      rintro e Vc6 ⟨rfl, hb1⟩
      clear c0 c1 c2
      replace x0 := x0.below hb1
      replace hR := hR.below hb1 (Nat.le_refl _)
      replace hL := hL.below hb1 (Nat.le_refl _)
      replace hP := hP.below hb1 (Nat.le_refl _)
      replace hQ := hQ.below hb1 (Nat.le_refl _)
      replace hb := hb.trans (hb1.mono hb.size)
      clear hb1
      have c0 := x0.cell 0 rfl; have c1 := x0.cell 1 rfl; have c2 := x0.cell 2 rfl
      clear s1
      go_wp2_with fail
      refine (s2 _ _ _ hP).mono ?_
      rintro e Vc7 ⟨rfl, hb1⟩
      clear c0 c1 c2
      replace x0 := x0.below hb1
      replace hR := hR.below hb1 (Nat.le_refl _)
      replace hL := hL.below hb1 (Nat.le_refl _)
      replace hP := hP.below hb1 (Nat.le_refl _)
      replace hQ := hQ.below hb1 (Nat.le_refl _)
      replace hb := hb.trans (hb1.mono hb.size)
      clear hb1
      have c0 := x0.cell 0 rfl; have c1 := x0.cell 1 rfl; have c2 := x0.cell 2 rfl
      clear s2
      go_wp2_with fail
      refine (s3 _ _ _ hQ).mono ?_
      rintro e Vc8 ⟨rfl, hb1⟩
      clear c0 c1 c2
      replace x0 := x0.below hb1
      replace hR := hR.below hb1 (Nat.le_refl _)
      replace hL := hL.below hb1 (Nat.le_refl _)
      replace hP := hP.below hb1 (Nat.le_refl _)
      replace hQ := hQ.below hb1 (Nat.le_refl _)
      replace hb := hb.trans (hb1.mono hb.size)
      clear hb1
      have c0 := x0.cell 0 rfl; have c1 := x0.cell 1 rfl; have c2 := x0.cell 2 rfl
      clear s3
      clear c0 c1 c2
      go_wp2
      have hO := hR.ow
      clear hR
      obtain ⟨W9, hW9⟩ : ∃ W9 : World, W9 = Vc8 := ⟨_, rfl⟩
      go_loopw [9] (fun v9 wr => ∃ k : Nat, k ≤ n ∧ v9 = .int .i64 (k : Int) ∧ Below Vc8.heap.size Vc8 wr) (fun v9 _ => n - (intOf v9).toNat)
      case atStart => exact ⟨0, Nat.zero_le _, rfl, Below.refl _ _⟩
      case round =>
        obtain ⟨k, hk, rfl, hb2⟩ := hrel
        clear hW9
        by_cases hlt : k < n
        · obtain ⟨b1, o1, s, rfl, _, q1, _, _, g1, _⟩ := (hL.below hb2 (Nat.le_refl _)).at (k := k) (by rw [HLL.out, ← HN.out]; exact hlt)
          obtain ⟨b2, o2, u, rfl, _, q2, _, _, g2, _⟩ := (hP.below hb2 (Nat.le_refl _)).at (k := k) (by rw [HLP.out, ← HN.out]; exact hlt)
          obtain ⟨b3, o3, v, rfl, _, q3, _, _, g3, _⟩ := (hQ.below hb2 (Nat.le_refl _)).at (k := k) (by rw [HLQ.out, ← HN.out]; exact hlt)
          obtain ⟨b4, o4, o, rfl, _, q4, _, _, g4, _⟩ := (hO.below hb2 (Nat.le_refl _)).at (k := k) (by rw [← HN.out]; exact hlt)
          have hu := HP.out k (by rw [← HN.out]; exact hlt)
          have hv := HQ.out k (by rw [← HN.out]; exact hlt)
          rw [getD_of g1.out, getD_of g4.out, g2.out] at hu
          rw [getD_of g1.out, getD_of g4.out, g3.out] at hv
          obtain ⟨e1, e2, e3, e4⟩ := owed_law s o
          injection hu with hu
          injection hv with hv
          rw [← hu, ← hv] at e1 e2
          rw [← hu] at e3; rw [← hv] at e4
          have hs := HRL.out s (List.mem_of_getElem? g1.out)
          have ho := HOW.out o (List.mem_of_getElem? g4.out)
          clear hu hv g1 g2 g3 g4 hL hP hQ hO
          have hkI : (k : Int) < n := by omega
          have hk0 : (0 : Int) ≤ (k : Int) := by omega
          have hsv : s + v ≤ 100000 := by
            by_cases h : 0 < u
            · have := e2 h; omega
            · omega
          have ew1 : IntKind.i64.wrap (u + o) = u + o := IntWalk.i64_in _ (by omega)
          have ew2 : IntKind.i64.wrap (s + v) = u + o := by rw [← e1]; exact ew1
          have hBne : (u + o != u + o) = false := by simp
          have x0k := x0.below hb2
          go_upto_region 15 with fail
          have hbd := (Below.refl wr.heap.size wr).drew
          have S0 := And.intro (x0k.below hbd) (And.intro (Below.keep hbd q1) (And.intro (Below.keep hbd q2) (And.intro (Below.keep hbd q3) (Below.keep hbd q4))))
          replace hb2 := hb2.trans (hbd.mono hb2.size)
          clear q1 q2 q3 q4 x0k hbd
          by_cases hu0 : 0 < u
          · have hv0 := e2 hu0
            refine wp_region_head 33 (fun w' => Bx w' w.heap.size #[.int .i64 p, .slice aS S.length cS, .slice (some ⟨b4, o4, none⟩) n cO] 25 ∧ w'.cell? ⟨b1, o1 + k, none⟩ = some (.int .i64 s) ∧ w'.cell? ⟨b2, o2 + k, none⟩ = some (.int .i64 u) ∧ w'.cell? ⟨b3, o3 + k, none⟩ = some (.int .i64 v) ∧ w'.cell? ⟨b4, o4 + k, none⟩ = some (.int .i64 o)) (by kernel_rfl) rfl ?_
            generalize wr.drew = Y0 at *
            refine HeadAt.take (i := 0) (.slice (some ⟨b2, o2, none⟩) n kP) rfl (by kernel_rfl) (.inl ⟨rfl, fun _ _ => by simp [go_sem]⟩) S0 ?_
            (try simp only [Act.put, List.getElem_toArray, List.getElem_cons_succ, List.getElem_cons_zero, List.setIfInBounds_toArray, List.set_cons_succ, List.set_cons_zero])
            refine HeadAt.take (i := 1) (.int .i64 (k : Int)) rfl (by kernel_rfl) (.inl ⟨rfl, fun _ _ => by simp [go_sem]⟩) S0 ?_
            (try simp only [Act.put, List.getElem_toArray, List.getElem_cons_succ, List.getElem_cons_zero, List.setIfInBounds_toArray, List.set_cons_succ, List.set_cons_zero])
            refine HeadAt.take (i := 2) (.pointer (some ⟨b2, o2 + k, none⟩)) rfl (by kernel_rfl) (.inl ⟨rfl, fun w' z => ?_⟩) S0 ?_
            · (simp [go_sem, hkI, hk0])
            (try simp only [Act.put, List.getElem_toArray, List.getElem_cons_succ, List.getElem_cons_zero, List.setIfInBounds_toArray, List.set_cons_succ, List.set_cons_zero])
            refine HeadAt.take (i := 3) (.int .i64 u) rfl (by kernel_rfl) (.inl ⟨rfl, fun w' z => ?_⟩) S0 ?_
            · (simp [go_sem, z.2.2.1])
            (try simp only [Act.put, List.getElem_toArray, List.getElem_cons_succ, List.getElem_cons_zero, List.setIfInBounds_toArray, List.set_cons_succ, List.set_cons_zero])
            refine HeadAt.take (i := 4) (.pointer (some ⟨w.heap.size, 2, none⟩)) rfl (by kernel_rfl) (.inl ⟨rfl, fun _ _ => by simp [go_sem]⟩) S0 ?_
            (try simp only [Act.put, List.getElem_toArray, List.getElem_cons_succ, List.getElem_cons_zero, List.setIfInBounds_toArray, List.set_cons_succ, List.set_cons_zero])
            refine HeadAt.take (i := 5) (.slice (some ⟨b4, o4, none⟩) n cO) rfl (by kernel_rfl) (.inl ⟨rfl, fun w' z => ?_⟩) S0 ?_
            · (have z0 := z.1.cell 2 rfl; simp [go_sem, z0])
            (try simp only [Act.put, List.getElem_toArray, List.getElem_cons_succ, List.getElem_cons_zero, List.setIfInBounds_toArray, List.set_cons_succ, List.set_cons_zero])
            refine HeadAt.take (i := 6) (.int .i64 (k : Int)) rfl (by kernel_rfl) (.inl ⟨rfl, fun _ _ => by simp [go_sem]⟩) S0 ?_
            (try simp only [Act.put, List.getElem_toArray, List.getElem_cons_succ, List.getElem_cons_zero, List.setIfInBounds_toArray, List.set_cons_succ, List.set_cons_zero])
            refine HeadAt.take (i := 7) (.pointer (some ⟨b4, o4 + k, none⟩)) rfl (by kernel_rfl) (.inl ⟨rfl, fun w' z => ?_⟩) S0 ?_
            · (simp [go_sem, hkI, hk0])
            (try simp only [Act.put, List.getElem_toArray, List.getElem_cons_succ, List.getElem_cons_zero, List.setIfInBounds_toArray, List.set_cons_succ, List.set_cons_zero])
            refine HeadAt.take (i := 8) (.int .i64 o) rfl (by kernel_rfl) (.inl ⟨rfl, fun w' z => ?_⟩) S0 ?_
            · (simp [go_sem, z.2.2.2.2])
            (try simp only [Act.put, List.getElem_toArray, List.getElem_cons_succ, List.getElem_cons_zero, List.setIfInBounds_toArray, List.set_cons_succ, List.set_cons_zero])
            refine HeadAt.take (i := 9) (.int .i64 (u + o)) rfl (by kernel_rfl) (.inl ⟨rfl, fun w' z => ?_⟩) S0 ?_
            · (simp [go_sem, ew1])
            (try simp only [Act.put, List.getElem_toArray, List.getElem_cons_succ, List.getElem_cons_zero, List.setIfInBounds_toArray, List.set_cons_succ, List.set_cons_zero])
            refine HeadAt.take (i := 10) (.slice (some ⟨b1, o1, none⟩) n kL) rfl (by kernel_rfl) (.inl ⟨rfl, fun _ _ => by simp [go_sem]⟩) S0 ?_
            (try simp only [Act.put, List.getElem_toArray, List.getElem_cons_succ, List.getElem_cons_zero, List.setIfInBounds_toArray, List.set_cons_succ, List.set_cons_zero])
            refine HeadAt.take (i := 11) (.int .i64 (k : Int)) rfl (by kernel_rfl) (.inl ⟨rfl, fun _ _ => by simp [go_sem]⟩) S0 ?_
            (try simp only [Act.put, List.getElem_toArray, List.getElem_cons_succ, List.getElem_cons_zero, List.setIfInBounds_toArray, List.set_cons_succ, List.set_cons_zero])
            refine HeadAt.take (i := 12) (.pointer (some ⟨b1, o1 + k, none⟩)) rfl (by kernel_rfl) (.inl ⟨rfl, fun w' z => ?_⟩) S0 ?_
            · (simp [go_sem, hkI, hk0])
            (try simp only [Act.put, List.getElem_toArray, List.getElem_cons_succ, List.getElem_cons_zero, List.setIfInBounds_toArray, List.set_cons_succ, List.set_cons_zero])
            refine HeadAt.take (i := 13) (.int .i64 s) rfl (by kernel_rfl) (.inl ⟨rfl, fun w' z => ?_⟩) S0 ?_
            · (simp [go_sem, z.2.1])
            (try simp only [Act.put, List.getElem_toArray, List.getElem_cons_succ, List.getElem_cons_zero, List.setIfInBounds_toArray, List.set_cons_succ, List.set_cons_zero])
            refine HeadAt.take (i := 14) (.slice (some ⟨b3, o3, none⟩) n kQ) rfl (by kernel_rfl) (.inl ⟨rfl, fun _ _ => by simp [go_sem]⟩) S0 ?_
            (try simp only [Act.put, List.getElem_toArray, List.getElem_cons_succ, List.getElem_cons_zero, List.setIfInBounds_toArray, List.set_cons_succ, List.set_cons_zero])
            refine HeadAt.take (i := 15) (.int .i64 (k : Int)) rfl (by kernel_rfl) (.inl ⟨rfl, fun _ _ => by simp [go_sem]⟩) S0 ?_
            (try simp only [Act.put, List.getElem_toArray, List.getElem_cons_succ, List.getElem_cons_zero, List.setIfInBounds_toArray, List.set_cons_succ, List.set_cons_zero])
            refine HeadAt.take (i := 16) (.pointer (some ⟨b3, o3 + k, none⟩)) rfl (by kernel_rfl) (.inl ⟨rfl, fun w' z => ?_⟩) S0 ?_
            · (simp [go_sem, hkI, hk0])
            (try simp only [Act.put, List.getElem_toArray, List.getElem_cons_succ, List.getElem_cons_zero, List.setIfInBounds_toArray, List.set_cons_succ, List.set_cons_zero])
            refine HeadAt.take (i := 17) (.int .i64 v) rfl (by kernel_rfl) (.inl ⟨rfl, fun w' z => ?_⟩) S0 ?_
            · (simp [go_sem, z.2.2.2.1])
            (try simp only [Act.put, List.getElem_toArray, List.getElem_cons_succ, List.getElem_cons_zero, List.setIfInBounds_toArray, List.set_cons_succ, List.set_cons_zero])
            refine HeadAt.take (i := 18) (.int .i64 (u + o)) rfl (by kernel_rfl) (.inl ⟨rfl, fun w' z => ?_⟩) S0 ?_
            · (simp [go_sem, ew2])
            (try simp only [Act.put, List.getElem_toArray, List.getElem_cons_succ, List.getElem_cons_zero, List.setIfInBounds_toArray, List.set_cons_succ, List.set_cons_zero])
            refine HeadAt.take (i := 19) (.bool false) rfl (by kernel_rfl) (.inl ⟨rfl, fun w' z => ?_⟩) S0 ?_
            · (simp [go_sem])
            (try simp only [Act.put, List.getElem_toArray, List.getElem_cons_succ, List.getElem_cons_zero, List.setIfInBounds_toArray, List.set_cons_succ, List.set_cons_zero])
            refine HeadAt.take (i := 20) (.bool false) rfl (by kernel_rfl) (.inl ⟨rfl, fun _ _ => by simp [go_sem]⟩) S0 ?_
            (try simp only [Act.put, List.getElem_toArray, List.getElem_cons_succ, List.getElem_cons_zero, List.setIfInBounds_toArray, List.set_cons_succ, List.set_cons_zero])
            refine HeadAt.take (i := 21) (.slice (some ⟨b2, o2, none⟩) n kP) rfl (by kernel_rfl) (.inl ⟨rfl, fun _ _ => by simp [go_sem]⟩) S0 ?_
            (try simp only [Act.put, List.getElem_toArray, List.getElem_cons_succ, List.getElem_cons_zero, List.setIfInBounds_toArray, List.set_cons_succ, List.set_cons_zero])
            refine HeadAt.take (i := 22) (.int .i64 (k : Int)) rfl (by kernel_rfl) (.inl ⟨rfl, fun _ _ => by simp [go_sem]⟩) S0 ?_
            (try simp only [Act.put, List.getElem_toArray, List.getElem_cons_succ, List.getElem_cons_zero, List.setIfInBounds_toArray, List.set_cons_succ, List.set_cons_zero])
            refine HeadAt.take (i := 23) (.pointer (some ⟨b2, o2 + k, none⟩)) rfl (by kernel_rfl) (.inl ⟨rfl, fun w' z => ?_⟩) S0 ?_
            · (simp [go_sem, hkI, hk0])
            (try simp only [Act.put, List.getElem_toArray, List.getElem_cons_succ, List.getElem_cons_zero, List.setIfInBounds_toArray, List.set_cons_succ, List.set_cons_zero])
            refine HeadAt.take (i := 24) (.int .i64 u) rfl (by kernel_rfl) (.inl ⟨rfl, fun w' z => ?_⟩) S0 ?_
            · (simp [go_sem, z.2.2.1])
            (try simp only [Act.put, List.getElem_toArray, List.getElem_cons_succ, List.getElem_cons_zero, List.setIfInBounds_toArray, List.set_cons_succ, List.set_cons_zero])
            refine HeadAt.take (i := 25) (.bool true) rfl (by kernel_rfl) (.inl ⟨rfl, fun w' z => ?_⟩) S0 ?_
            · (simp [go_sem, hu0])
            (try simp only [Act.put, List.getElem_toArray, List.getElem_cons_succ, List.getElem_cons_zero, List.setIfInBounds_toArray, List.set_cons_succ, List.set_cons_zero])
            refine HeadAt.take (i := 26) (.bool true) rfl (by kernel_rfl) (.inl ⟨rfl, fun _ _ => by simp [go_sem]⟩) S0 ?_
            (try simp only [Act.put, List.getElem_toArray, List.getElem_cons_succ, List.getElem_cons_zero, List.setIfInBounds_toArray, List.set_cons_succ, List.set_cons_zero])
            refine HeadAt.take (i := 27) (.slice (some ⟨b3, o3, none⟩) n kQ) rfl (by kernel_rfl) (.inl ⟨rfl, fun _ _ => by simp [go_sem]⟩) S0 ?_
            (try simp only [Act.put, List.getElem_toArray, List.getElem_cons_succ, List.getElem_cons_zero, List.setIfInBounds_toArray, List.set_cons_succ, List.set_cons_zero])
            refine HeadAt.take (i := 28) (.int .i64 (k : Int)) rfl (by kernel_rfl) (.inl ⟨rfl, fun _ _ => by simp [go_sem]⟩) S0 ?_
            (try simp only [Act.put, List.getElem_toArray, List.getElem_cons_succ, List.getElem_cons_zero, List.setIfInBounds_toArray, List.set_cons_succ, List.set_cons_zero])
            refine HeadAt.take (i := 29) (.pointer (some ⟨b3, o3 + k, none⟩)) rfl (by kernel_rfl) (.inl ⟨rfl, fun w' z => ?_⟩) S0 ?_
            · (simp [go_sem, hkI, hk0])
            (try simp only [Act.put, List.getElem_toArray, List.getElem_cons_succ, List.getElem_cons_zero, List.setIfInBounds_toArray, List.set_cons_succ, List.set_cons_zero])
            refine HeadAt.take (i := 30) (.int .i64 v) rfl (by kernel_rfl) (.inl ⟨rfl, fun w' z => ?_⟩) S0 ?_
            · (simp [go_sem, z.2.2.2.1])
            (try simp only [Act.put, List.getElem_toArray, List.getElem_cons_succ, List.getElem_cons_zero, List.setIfInBounds_toArray, List.set_cons_succ, List.set_cons_zero])
            refine HeadAt.take (i := 31) (.bool false) rfl (by kernel_rfl) (.inl ⟨rfl, fun w' z => ?_⟩) S0 ?_
            · (simp [go_sem] <;> omega)
            (try simp only [Act.put, List.getElem_toArray, List.getElem_cons_succ, List.getElem_cons_zero, List.setIfInBounds_toArray, List.set_cons_succ, List.set_cons_zero])
            refine HeadAt.take (i := 32) (.bool false) rfl (by kernel_rfl) (.inl ⟨rfl, fun _ _ => by simp [go_sem]⟩) S0 ?_
            (try simp only [Act.put, List.getElem_toArray, List.getElem_cons_succ, List.getElem_cons_zero, List.setIfInBounds_toArray, List.set_cons_succ, List.set_cons_zero])
            refine HeadAt.done (by kernel_rfl) ?_
            (try simp only [Act.put, List.drop_succ_cons, List.drop_zero, List.getElem_toArray, List.getElem_cons_succ, List.getElem_cons_zero])
            go_wp2_with fail
            refine NoPanic.normal ?_
            go_wp2
            go_roundw
            case rel => exact ⟨k + 1, by omega, by simp, hb2⟩
            case measure => simp [intOf]; omega
          · skip
            refine wp_region_head 33 (fun w' => Bx w' w.heap.size #[.int .i64 p, .slice aS S.length cS, .slice (some ⟨b4, o4, none⟩) n cO] 25 ∧ w'.cell? ⟨b1, o1 + k, none⟩ = some (.int .i64 s) ∧ w'.cell? ⟨b2, o2 + k, none⟩ = some (.int .i64 u) ∧ w'.cell? ⟨b3, o3 + k, none⟩ = some (.int .i64 v) ∧ w'.cell? ⟨b4, o4 + k, none⟩ = some (.int .i64 o)) (by kernel_rfl) rfl ?_
            generalize wr.drew = Y0 at *
            refine HeadAt.take (i := 0) (.slice (some ⟨b2, o2, none⟩) n kP) rfl (by kernel_rfl) (.inl ⟨rfl, fun _ _ => by simp [go_sem]⟩) S0 ?_
            (try simp only [Act.put, List.getElem_toArray, List.getElem_cons_succ, List.getElem_cons_zero, List.setIfInBounds_toArray, List.set_cons_succ, List.set_cons_zero])
            refine HeadAt.take (i := 1) (.int .i64 (k : Int)) rfl (by kernel_rfl) (.inl ⟨rfl, fun _ _ => by simp [go_sem]⟩) S0 ?_
            (try simp only [Act.put, List.getElem_toArray, List.getElem_cons_succ, List.getElem_cons_zero, List.setIfInBounds_toArray, List.set_cons_succ, List.set_cons_zero])
            refine HeadAt.take (i := 2) (.pointer (some ⟨b2, o2 + k, none⟩)) rfl (by kernel_rfl) (.inl ⟨rfl, fun w' z => ?_⟩) S0 ?_
            · (simp [go_sem, hkI, hk0])
            (try simp only [Act.put, List.getElem_toArray, List.getElem_cons_succ, List.getElem_cons_zero, List.setIfInBounds_toArray, List.set_cons_succ, List.set_cons_zero])
            refine HeadAt.take (i := 3) (.int .i64 u) rfl (by kernel_rfl) (.inl ⟨rfl, fun w' z => ?_⟩) S0 ?_
            · (simp [go_sem, z.2.2.1])
            (try simp only [Act.put, List.getElem_toArray, List.getElem_cons_succ, List.getElem_cons_zero, List.setIfInBounds_toArray, List.set_cons_succ, List.set_cons_zero])
            refine HeadAt.take (i := 4) (.pointer (some ⟨w.heap.size, 2, none⟩)) rfl (by kernel_rfl) (.inl ⟨rfl, fun _ _ => by simp [go_sem]⟩) S0 ?_
            (try simp only [Act.put, List.getElem_toArray, List.getElem_cons_succ, List.getElem_cons_zero, List.setIfInBounds_toArray, List.set_cons_succ, List.set_cons_zero])
            refine HeadAt.take (i := 5) (.slice (some ⟨b4, o4, none⟩) n cO) rfl (by kernel_rfl) (.inl ⟨rfl, fun w' z => ?_⟩) S0 ?_
            · (have z0 := z.1.cell 2 rfl; simp [go_sem, z0])
            (try simp only [Act.put, List.getElem_toArray, List.getElem_cons_succ, List.getElem_cons_zero, List.setIfInBounds_toArray, List.set_cons_succ, List.set_cons_zero])
            refine HeadAt.take (i := 6) (.int .i64 (k : Int)) rfl (by kernel_rfl) (.inl ⟨rfl, fun _ _ => by simp [go_sem]⟩) S0 ?_
            (try simp only [Act.put, List.getElem_toArray, List.getElem_cons_succ, List.getElem_cons_zero, List.setIfInBounds_toArray, List.set_cons_succ, List.set_cons_zero])
            refine HeadAt.take (i := 7) (.pointer (some ⟨b4, o4 + k, none⟩)) rfl (by kernel_rfl) (.inl ⟨rfl, fun w' z => ?_⟩) S0 ?_
            · (simp [go_sem, hkI, hk0])
            (try simp only [Act.put, List.getElem_toArray, List.getElem_cons_succ, List.getElem_cons_zero, List.setIfInBounds_toArray, List.set_cons_succ, List.set_cons_zero])
            refine HeadAt.take (i := 8) (.int .i64 o) rfl (by kernel_rfl) (.inl ⟨rfl, fun w' z => ?_⟩) S0 ?_
            · (simp [go_sem, z.2.2.2.2])
            (try simp only [Act.put, List.getElem_toArray, List.getElem_cons_succ, List.getElem_cons_zero, List.setIfInBounds_toArray, List.set_cons_succ, List.set_cons_zero])
            refine HeadAt.take (i := 9) (.int .i64 (u + o)) rfl (by kernel_rfl) (.inl ⟨rfl, fun w' z => ?_⟩) S0 ?_
            · (simp [go_sem, ew1])
            (try simp only [Act.put, List.getElem_toArray, List.getElem_cons_succ, List.getElem_cons_zero, List.setIfInBounds_toArray, List.set_cons_succ, List.set_cons_zero])
            refine HeadAt.take (i := 10) (.slice (some ⟨b1, o1, none⟩) n kL) rfl (by kernel_rfl) (.inl ⟨rfl, fun _ _ => by simp [go_sem]⟩) S0 ?_
            (try simp only [Act.put, List.getElem_toArray, List.getElem_cons_succ, List.getElem_cons_zero, List.setIfInBounds_toArray, List.set_cons_succ, List.set_cons_zero])
            refine HeadAt.take (i := 11) (.int .i64 (k : Int)) rfl (by kernel_rfl) (.inl ⟨rfl, fun _ _ => by simp [go_sem]⟩) S0 ?_
            (try simp only [Act.put, List.getElem_toArray, List.getElem_cons_succ, List.getElem_cons_zero, List.setIfInBounds_toArray, List.set_cons_succ, List.set_cons_zero])
            refine HeadAt.take (i := 12) (.pointer (some ⟨b1, o1 + k, none⟩)) rfl (by kernel_rfl) (.inl ⟨rfl, fun w' z => ?_⟩) S0 ?_
            · (simp [go_sem, hkI, hk0])
            (try simp only [Act.put, List.getElem_toArray, List.getElem_cons_succ, List.getElem_cons_zero, List.setIfInBounds_toArray, List.set_cons_succ, List.set_cons_zero])
            refine HeadAt.take (i := 13) (.int .i64 s) rfl (by kernel_rfl) (.inl ⟨rfl, fun w' z => ?_⟩) S0 ?_
            · (simp [go_sem, z.2.1])
            (try simp only [Act.put, List.getElem_toArray, List.getElem_cons_succ, List.getElem_cons_zero, List.setIfInBounds_toArray, List.set_cons_succ, List.set_cons_zero])
            refine HeadAt.take (i := 14) (.slice (some ⟨b3, o3, none⟩) n kQ) rfl (by kernel_rfl) (.inl ⟨rfl, fun _ _ => by simp [go_sem]⟩) S0 ?_
            (try simp only [Act.put, List.getElem_toArray, List.getElem_cons_succ, List.getElem_cons_zero, List.setIfInBounds_toArray, List.set_cons_succ, List.set_cons_zero])
            refine HeadAt.take (i := 15) (.int .i64 (k : Int)) rfl (by kernel_rfl) (.inl ⟨rfl, fun _ _ => by simp [go_sem]⟩) S0 ?_
            (try simp only [Act.put, List.getElem_toArray, List.getElem_cons_succ, List.getElem_cons_zero, List.setIfInBounds_toArray, List.set_cons_succ, List.set_cons_zero])
            refine HeadAt.take (i := 16) (.pointer (some ⟨b3, o3 + k, none⟩)) rfl (by kernel_rfl) (.inl ⟨rfl, fun w' z => ?_⟩) S0 ?_
            · (simp [go_sem, hkI, hk0])
            (try simp only [Act.put, List.getElem_toArray, List.getElem_cons_succ, List.getElem_cons_zero, List.setIfInBounds_toArray, List.set_cons_succ, List.set_cons_zero])
            refine HeadAt.take (i := 17) (.int .i64 v) rfl (by kernel_rfl) (.inl ⟨rfl, fun w' z => ?_⟩) S0 ?_
            · (simp [go_sem, z.2.2.2.1])
            (try simp only [Act.put, List.getElem_toArray, List.getElem_cons_succ, List.getElem_cons_zero, List.setIfInBounds_toArray, List.set_cons_succ, List.set_cons_zero])
            refine HeadAt.take (i := 18) (.int .i64 (u + o)) rfl (by kernel_rfl) (.inl ⟨rfl, fun w' z => ?_⟩) S0 ?_
            · (simp [go_sem, ew2])
            (try simp only [Act.put, List.getElem_toArray, List.getElem_cons_succ, List.getElem_cons_zero, List.setIfInBounds_toArray, List.set_cons_succ, List.set_cons_zero])
            refine HeadAt.take (i := 19) (.bool false) rfl (by kernel_rfl) (.inl ⟨rfl, fun w' z => ?_⟩) S0 ?_
            · (simp [go_sem])
            (try simp only [Act.put, List.getElem_toArray, List.getElem_cons_succ, List.getElem_cons_zero, List.setIfInBounds_toArray, List.set_cons_succ, List.set_cons_zero])
            refine HeadAt.take (i := 20) (.bool false) rfl (by kernel_rfl) (.inl ⟨rfl, fun _ _ => by simp [go_sem]⟩) S0 ?_
            (try simp only [Act.put, List.getElem_toArray, List.getElem_cons_succ, List.getElem_cons_zero, List.setIfInBounds_toArray, List.set_cons_succ, List.set_cons_zero])
            refine HeadAt.take (i := 21) (.slice (some ⟨b2, o2, none⟩) n kP) rfl (by kernel_rfl) (.inl ⟨rfl, fun _ _ => by simp [go_sem]⟩) S0 ?_
            (try simp only [Act.put, List.getElem_toArray, List.getElem_cons_succ, List.getElem_cons_zero, List.setIfInBounds_toArray, List.set_cons_succ, List.set_cons_zero])
            refine HeadAt.take (i := 22) (.int .i64 (k : Int)) rfl (by kernel_rfl) (.inl ⟨rfl, fun _ _ => by simp [go_sem]⟩) S0 ?_
            (try simp only [Act.put, List.getElem_toArray, List.getElem_cons_succ, List.getElem_cons_zero, List.setIfInBounds_toArray, List.set_cons_succ, List.set_cons_zero])
            refine HeadAt.take (i := 23) (.pointer (some ⟨b2, o2 + k, none⟩)) rfl (by kernel_rfl) (.inl ⟨rfl, fun w' z => ?_⟩) S0 ?_
            · (simp [go_sem, hkI, hk0])
            (try simp only [Act.put, List.getElem_toArray, List.getElem_cons_succ, List.getElem_cons_zero, List.setIfInBounds_toArray, List.set_cons_succ, List.set_cons_zero])
            refine HeadAt.take (i := 24) (.int .i64 u) rfl (by kernel_rfl) (.inl ⟨rfl, fun w' z => ?_⟩) S0 ?_
            · (simp [go_sem, z.2.2.1])
            (try simp only [Act.put, List.getElem_toArray, List.getElem_cons_succ, List.getElem_cons_zero, List.setIfInBounds_toArray, List.set_cons_succ, List.set_cons_zero])
            refine HeadAt.take (i := 25) (.bool false) rfl (by kernel_rfl) (.inl ⟨rfl, fun w' z => ?_⟩) S0 ?_
            · (simp [go_sem, hu0] <;> omega)
            (try simp only [Act.put, List.getElem_toArray, List.getElem_cons_succ, List.getElem_cons_zero, List.setIfInBounds_toArray, List.set_cons_succ, List.set_cons_zero])
            refine HeadAt.take (i := 26) (.bool false) rfl (by kernel_rfl) (.inl ⟨rfl, fun _ _ => by simp [go_sem]⟩) S0 ?_
            (try simp only [Act.put, List.getElem_toArray, List.getElem_cons_succ, List.getElem_cons_zero, List.setIfInBounds_toArray, List.set_cons_succ, List.set_cons_zero])
            refine HeadAt.take (i := 27) undef rfl (by kernel_rfl) (.inr ⟨by kernel_rfl, rfl⟩) S0 ?_
            (try simp only [Act.put, List.getElem_toArray, List.getElem_cons_succ, List.getElem_cons_zero, List.setIfInBounds_toArray, List.set_cons_succ, List.set_cons_zero])
            refine HeadAt.take (i := 28) undef rfl (by kernel_rfl) (.inr ⟨by kernel_rfl, rfl⟩) S0 ?_
            (try simp only [Act.put, List.getElem_toArray, List.getElem_cons_succ, List.getElem_cons_zero, List.setIfInBounds_toArray, List.set_cons_succ, List.set_cons_zero])
            refine HeadAt.take (i := 29) undef rfl (by kernel_rfl) (.inr ⟨by kernel_rfl, rfl⟩) S0 ?_
            (try simp only [Act.put, List.getElem_toArray, List.getElem_cons_succ, List.getElem_cons_zero, List.setIfInBounds_toArray, List.set_cons_succ, List.set_cons_zero])
            refine HeadAt.take (i := 30) undef rfl (by kernel_rfl) (.inr ⟨by kernel_rfl, rfl⟩) S0 ?_
            (try simp only [Act.put, List.getElem_toArray, List.getElem_cons_succ, List.getElem_cons_zero, List.setIfInBounds_toArray, List.set_cons_succ, List.set_cons_zero])
            refine HeadAt.take (i := 31) undef rfl (by kernel_rfl) (.inr ⟨by kernel_rfl, rfl⟩) S0 ?_
            (try simp only [Act.put, List.getElem_toArray, List.getElem_cons_succ, List.getElem_cons_zero, List.setIfInBounds_toArray, List.set_cons_succ, List.set_cons_zero])
            refine HeadAt.take (i := 32) (.bool false) rfl (by kernel_rfl) (.inl ⟨rfl, fun _ _ => by simp [go_sem]⟩) S0 ?_
            (try simp only [Act.put, List.getElem_toArray, List.getElem_cons_succ, List.getElem_cons_zero, List.setIfInBounds_toArray, List.set_cons_succ, List.set_cons_zero])
            refine HeadAt.done (by kernel_rfl) ?_
            (try simp only [Act.put, List.drop_succ_cons, List.drop_zero, List.getElem_toArray, List.getElem_cons_succ, List.getElem_cons_zero])
            go_wp2_with fail
            refine NoPanic.normal ?_
            go_wp2
            go_roundw
            case rel => exact ⟨k + 1, by omega, by simp, hb2⟩
            case measure => simp [intOf]; omega
        · have hkI : ¬ (k : Int) < n := by omega
          replace hb := hb.trans (hb2.mono hb.size)
          clear hb2 hL hP hQ hO x0
          go_wp2_with fail
          refine (hwk _).mono ?_
          rintro e Vw ⟨rfl, hbw9⟩
          replace hb := hb.trans (hbw9.mono hb.size)
          go_wp2
          go_ret
          exact ⟨rfl, hb⟩
    · have hBE : (askE p S O true != 0) = true := by simp [hE]
      rw [shR_bad hE] at h1
      rw [stR_bad hE] at h2 h3
      simp only [List.length_nil] at h1 h2 h3
      obtain ⟨E, hE2⟩ : ∃ E, E = askE p S O true := ⟨_, rfl⟩
      rw [← hE2] at h1 h2 h3 h4 hBE
      have hEE : (E != E) = false := by simp
      clear hE hE2 hV hv
      have c0 := x0.cell 0 rfl; have c1 := x0.cell 1 rfl; have c2 := x0.cell 2 rfl
      go_enter Try.func7, Try.ntmps7
      go_wp2_with fail
      refine hrd.mono ?_
      rintro e W1 ⟨rfl, hb1⟩
      clear hrd hW hX
      clear c0 c1 c2
      replace x0 := x0.below hb1
      replace hR := hR.below hb1 (Nat.le_refl _)
      replace hb := hb.trans (hb1.mono hb.size)
      clear hb1
      have c0 := x0.cell 0 rfl; have c1 := x0.cell 1 rfl; have c2 := x0.cell 2 rfl
      go_wp2_with fail
      refine (h1 _ hR).mono ?_
      rintro e Vc10 ⟨aL, kL, rfl, hL, hb1⟩
      clear c0 c1 c2
      replace x0 := x0.below hb1
      replace hR := hR.below hb1 (Nat.le_refl _)
      replace hb := hb.trans (hb1.mono hb.size)
      clear hb1
      have c0 := x0.cell 0 rfl; have c1 := x0.cell 1 rfl; have c2 := x0.cell 2 rfl
      clear h1 hL
      go_wp2_with fail
      refine (h2 _ hR).mono ?_
      rintro e Vc11 ⟨aP, kP, rfl, hP, hb1⟩
      clear c0 c1 c2
      replace x0 := x0.below hb1
      replace hR := hR.below hb1 (Nat.le_refl _)
      replace hb := hb.trans (hb1.mono hb.size)
      clear hb1
      have c0 := x0.cell 0 rfl; have c1 := x0.cell 1 rfl; have c2 := x0.cell 2 rfl
      clear h2 hP
      go_wp2_with fail
      refine (h3 _ hR).mono ?_
      rintro e Vc12 ⟨aQ, kQ, rfl, hQ, hb1⟩
      clear c0 c1 c2
      replace x0 := x0.below hb1
      replace hR := hR.below hb1 (Nat.le_refl _)
      replace hb := hb.trans (hb1.mono hb.size)
      clear hb1
      have c0 := x0.cell 0 rfl; have c1 := x0.cell 1 rfl; have c2 := x0.cell 2 rfl
      clear h3 hQ
      go_wp2_with fail
      refine (h4 _ hR).mono ?_
      rintro e Vc13 ⟨rfl, hb1⟩
      clear c0 c1 c2
      replace x0 := x0.below hb1
      replace hR := hR.below hb1 (Nat.le_refl _)
      replace hb := hb.trans (hb1.mono hb.size)
      clear hb1
      have c0 := x0.cell 0 rfl; have c1 := x0.cell 1 rfl; have c2 := x0.cell 2 rfl
      clear h4
      go_wp2_with fail
      refine (hwk _).mono ?_
      rintro e Vw ⟨rfl, hbw9⟩
      clear c0 c1 c2
      replace hb := hb.trans (hbw9.mono hb.size)
      go_wp2
      go_ret
      exact ⟨rfl, hb⟩
end Go.Proofs.Ytakodllejndfeaa
