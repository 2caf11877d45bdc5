import Derived.Test.YtakodllejndfeaaT21
/-! RoyaltiesMore. -/
namespace Go.Proofs.Ytakodllejndfeaa
set_option linter.unusedSimpArgs false
set_option linter.unusedVariables false
open Go Go.RowKit

theorem cl_set : ∀ {S : List Sd} {i : Nat} {s : Sd} (_ : S[i]? = some s) (x w : Int), clS (S.set i ⟨s.pl + x, s.ps⟩) w = clS S w + x * pctOf s.ps w
  | [], i, s, h, x, w => by simp at h
  | t :: S, 0, s, h, x, w => by
    simp at h; subst h
    simp only [List.set_cons_zero, clS, List.map_cons, List.sum_cons, Int.add_mul]; omega
  | t :: S, i + 1, s, h, x, w => by
    have := cl_set (S := S) (i := i) (s := s) (by simpa using h) x w
    simp only [List.set_cons_succ, clS, List.map_cons, List.sum_cons] at *
    omega
theorem al_set : ∀ {S : List Sd} {i : Nat} {s : Sd} (_ : S[i]? = some s) (x : Int), alS (S.set i ⟨s.pl + x, s.ps⟩) = alS S + x
  | [], i, s, h, x => by simp at h
  | t :: S, 0, s, h, x => by
    simp at h; subst h
    simp only [List.set_cons_zero, alS, List.map_cons, List.sum_cons]; omega
  | t :: S, i + 1, s, h, x => by
    have := al_set (S := S) (i := i) (s := s) (by simpa using h) x
    simp only [List.set_cons_succ, alS, List.map_cons, List.sum_cons] at *
    omega
theorem one_part {n : Nat} {s : Sd} (h : SOk n s) (h1 : s.ps.length = 1) : ∃ q : Nat, s.ps = [((q : Int), 100)] ∧ q < n := by
  obtain ⟨pl, ps⟩ := s
  match ps, h1 with
  | [(q, y)], _ =>
    have hs := h.sum
    have hw := h.who (q, y) (by simp)
    simp [sumP] at hs
    subst hs
    obtain ⟨k, rfl⟩ := Int.eq_ofNat_of_zero_le hw.1
    exact ⟨k, rfl, by simp only at hw; omega⟩
/-- The exact part is not less with more plays. -/
theorem more_law {p : Int} {S : List Sd} {O : List Int} {i q : Nat} {s : Sd} {x : Int} (hE : askE p S O true = 0) (hi : S[i]? = some s) (hs : s.ps = [((q : Int), 100)]) (hq : q < O.length) (hx : 0 ≤ x) (hv2 : vB p (S.set i ⟨s.pl + x, s.ps⟩) O = true) :
    askE p S O (hasB O q) = 0 ∧ askE p (S.set i ⟨s.pl + x, s.ps⟩) O (hasB O q) = 0 ∧ ∃ a b c d : Nat, exU p S O q = (a : Int) ∧ exL p S O q = (b : Int) ∧ exU p (S.set i ⟨s.pl + x, s.ps⟩) O q = (c : Int) ∧ exL p (S.set i ⟨s.pl + x, s.ps⟩) O q = (d : Int) ∧ 0 < b ∧ 0 < d ∧ a ≤ 60000000000 ∧ b ≤ 60000000000 ∧ c ≤ 60000000000 ∧ d ≤ 60000000000 ∧ a * d ≤ c * b := by
  obtain ⟨hv, _, ha⟩ := askE_0 hE
  have hV := vB_ok hv
  have hV2 := vB_ok hv2
  have hw : hasB O q = true := inI_iff.2 ⟨by omega, by omega⟩
  have hal := VOk.al hV
  have hal2 := VOk.al hV2
  have hE1 : askE p S O (hasB O q) = 0 := by rw [hw]; exact hE
  have hT := al_set hi x
  have hC := cl_set hi x (q : Int)
  have hE2 : askE p (S.set i ⟨s.pl + x, s.ps⟩) O (hasB O q) = 0 := by
    rw [hw]; exact askE_n hv2 (by rw [hT]; omega)
  have hc1 := clS_rng hV.sd (q : Int)
  have hc2 := clS_rng hV2.sd (q : Int)
  have hp0 := hV.p0; have hp9 := hV.p9
  have hN1 : 0 ≤ p * clS S q ∧ p * clS S q ≤ 9999 * 6000000 := ⟨Int.mul_nonneg hp0 hc1.1, Int.mul_le_mul hp9 (by omega) hc1.1 (by omega)⟩
  have hN2 : 0 ≤ p * clS (S.set i ⟨s.pl + x, s.ps⟩) q ∧ p * clS (S.set i ⟨s.pl + x, s.ps⟩) q ≤ 9999 * 6000000 := ⟨Int.mul_nonneg hp0 hc2.1, Int.mul_le_mul hp9 (by omega) hc2.1 (by omega)⟩
  have hpo : pctOf s.ps q = 100 := by rw [hs]; simp [pctOf]
  rw [hpo] at hC
  refine ⟨hE1, hE2, ?_⟩
  unfold exU exL
  rw [if_pos hE1, if_pos hE2, if_pos hE1, if_pos hE2]
  have e1 : (exN p S q : Int) = p * clS S q := by unfold exN; omega
  have e2 : (exD S : Int) = 100 * alS S := by unfold exD; omega
  have e3 : (exN p (S.set i ⟨s.pl + x, s.ps⟩) q : Int) = p * clS (S.set i ⟨s.pl + x, s.ps⟩) q := by unfold exN; omega
  have e4 : (exD (S.set i ⟨s.pl + x, s.ps⟩) : Int) = 100 * alS (S.set i ⟨s.pl + x, s.ps⟩) := by unfold exD; omega
  have key : (exN p S q : Int) * (exD (S.set i ⟨s.pl + x, s.ps⟩) : Int) ≤ (exN p (S.set i ⟨s.pl + x, s.ps⟩) q : Int) * (exD S : Int) := by
    rw [e1, e2, e3, e4, hT, hC]
    have h1 : clS S q * x ≤ (100 * alS S) * x := Int.mul_le_mul_of_nonneg_right hc1.2 hx
    have h2 : p * (clS S q * x) ≤ p * ((100 * alS S) * x) := Int.mul_le_mul_of_nonneg_left h1 hp0
    have e5 : p * clS S q * (100 * (alS S + x)) = p * clS S q * (100 * alS S) + 100 * (p * (clS S q * x)) := by
      simp only [Int.mul_add, Int.add_mul, Int.mul_assoc, Int.mul_comm, Int.mul_left_comm]
    have e6 : p * (clS S q + x * 100) * (100 * alS S) = p * clS S q * (100 * alS S) + 100 * (p * ((100 * alS S) * x)) := by
      simp only [Int.mul_add, Int.add_mul, Int.mul_assoc, Int.mul_comm, Int.mul_left_comm]
    omega
  have keyN : exN p S q * exD (S.set i ⟨s.pl + x, s.ps⟩) ≤ exN p (S.set i ⟨s.pl + x, s.ps⟩) q * exD S := by exact_mod_cast key
  have hD1 : 0 < exD S := by omega
  have hD2 : 0 < exD (S.set i ⟨s.pl + x, s.ps⟩) := by omega
  generalize exN p S q = N at *
  generalize exD S = D at *
  generalize exN p (S.set i ⟨s.pl + x, s.ps⟩) q = M at *
  generalize exD (S.set i ⟨s.pl + x, s.ps⟩) = F at *
  have g1 := Nat.gcd_pos_of_pos_right N hD1
  have g2 := Nat.gcd_pos_of_pos_right M hD2
  have dN := Nat.div_mul_cancel (Nat.gcd_dvd_left N D)
  have dD := Nat.div_mul_cancel (Nat.gcd_dvd_right N D)
  have dM := Nat.div_mul_cancel (Nat.gcd_dvd_left M F)
  have dF := Nat.div_mul_cancel (Nat.gcd_dvd_right M F)
  have l1 := Nat.div_le_self N (Nat.gcd N D)
  have l2 := Nat.div_le_self D (Nat.gcd N D)
  have l3 := Nat.div_le_self M (Nat.gcd M F)
  have l4 := Nat.div_le_self F (Nat.gcd M F)
  generalize Nat.gcd N D = G at *
  generalize Nat.gcd M F = K at *
  refine ⟨N / G, D / G, M / K, F / K, rfl, rfl, rfl, rfl, ?_, ?_, by omega, by omega, by omega, by omega, ?_⟩
  · rcases Nat.eq_zero_or_pos (D / G) with h | h
    · rw [h] at dD; omega
    · exact h
  · rcases Nat.eq_zero_or_pos (F / K) with h | h
    · rw [h] at dF; omega
    · exact h
  · generalize N / G = a at *
    generalize D / G = b at *
    generalize M / K = c at *
    generalize F / K = d at *
    rw [← dN, ← dD, ← dM, ← dF] at keyN
    have e7 : a * G * (d * K) = a * d * (G * K) := by simp only [Nat.mul_assoc, Nat.mul_comm, Nat.mul_left_comm]
    have e8 : c * K * (b * G) = c * b * (G * K) := by simp only [Nat.mul_assoc, Nat.mul_comm, Nat.mul_left_comm]
    rw [e7, e8] at keyN
    exact Nat.le_of_mul_le_mul_right keyN (Nat.mul_pos g1 g2)

set_option maxRecDepth 100000 in
set_option maxHeartbeats 8000000 in
theorem royaltiesMore_any (p : Int) (aS aO : Option Addr) (cS cO : Nat) (S : List Sd) (O : List Int) (side more : Int) (w : World) (hX : RyIn w aS aO p S O) : Calls Try.prog 6 #[.agg #[.int .i64 p, .slice aS S.length cS, .slice aO O.length cO], .int .i64 side, .int .i64 more] w fun e w' => e = .returned (.bool true) ∧ Below w.heap.size w w' := by
  obtain ⟨W, hW, hb, _, x0⟩ := boxes1 w #[.int .i64 p, .slice aS S.length cS, .slice aO O.length cO] 25
  have hXW := hX.below hb (Nat.le_refl _)
  have hrd := ready_any p aS aO cS cO S O W hXW
  have hwk := fun V => works_any V
  cases hr : rdB p S O
  · rw [hr] at hrd
    clear hr hXW
    have c0 := x0.cell 0 rfl; have c1 := x0.cell 1 rfl; have c2 := x0.cell 2 rfl
    go_enter Try.func6, Try.ntmps6
    go_wp2_with fail
    refine hrd.mono ?_
    rintro e W1 ⟨rfl, hb1⟩
    clear c0 c1 c2
    replace x0 := x0.below hb1
    replace hb := hb.trans (hb1.mono hb.size)
    clear hb1 hrd hX hW
    have c0 := x0.cell 0 rfl; have c1 := x0.cell 1 rfl; have c2 := x0.cell 2 rfl
    go_wp2_with fail
    refine (hwk _).mono ?_
    rintro e Vw ⟨rfl, hbw9⟩
    clear c0 c1 c2
    replace hb := hb.trans (hbw9.mono hb.size)
    go_wp2
    go_ret
    exact ⟨rfl, hb⟩
  rw [hr] at hrd
  by_cases hs0 : side < 0
  · skip
    clear hr hXW
    have c0 := x0.cell 0 rfl; have c1 := x0.cell 1 rfl; have c2 := x0.cell 2 rfl
    go_enter Try.func6, Try.ntmps6
    go_wp2_with fail
    refine hrd.mono ?_
    rintro e W1 ⟨rfl, hb1⟩
    clear c0 c1 c2
    replace x0 := x0.below hb1
    replace hb := hb.trans (hb1.mono hb.size)
    clear hb1 hrd hX hW
    have c0 := x0.cell 0 rfl; have c1 := x0.cell 1 rfl; have c2 := x0.cell 2 rfl
    go_wp2_with fail
    refine (hwk _).mono ?_
    rintro e Vw ⟨rfl, hbw9⟩
    clear c0 c1 c2
    replace hb := hb.trans (hbw9.mono hb.size)
    go_wp2
    go_ret
    exact ⟨rfl, hb⟩
  by_cases hs1 : (S.length : Int) ≤ side
  · skip
    clear hr hXW
    have c0 := x0.cell 0 rfl; have c1 := x0.cell 1 rfl; have c2 := x0.cell 2 rfl
    go_enter Try.func6, Try.ntmps6
    go_wp2_with fail
    refine hrd.mono ?_
    rintro e W1 ⟨rfl, hb1⟩
    clear c0 c1 c2
    replace x0 := x0.below hb1
    replace hb := hb.trans (hb1.mono hb.size)
    clear hb1 hrd hX hW
    have c0 := x0.cell 0 rfl; have c1 := x0.cell 1 rfl; have c2 := x0.cell 2 rfl
    go_wp2_with fail
    refine (hwk _).mono ?_
    rintro e Vw ⟨rfl, hbw9⟩
    clear c0 c1 c2
    replace hb := hb.trans (hbw9.mono hb.size)
    go_wp2
    go_ret
    exact ⟨rfl, hb⟩
  obtain ⟨hf, hv⟩ := rdB_ok hr
  have hV := vB_ok hv
  have hR := hXW.ry hf
  have hRw := hX.ry hf
  obtain ⟨i, rfl⟩ := Int.eq_ofNat_of_zero_le (show 0 ≤ side by omega)
  have hiS : i < S.length := by omega
  have hg := get_of_lt sd0 hiS
  obtain ⟨s, hs⟩ : ∃ s, s = S.getD i sd0 := ⟨_, rfl⟩
  rw [← hs] at hg
  have hso := hV.sd s (List.mem_of_getElem? hg)
  have hat : ∀ (V : World), Ry V aS aO p S O → ∃ (b off : Nat) (a' : Option Addr) (c' : Nat), aS = some ⟨b, off, none⟩ ∧ b < V.heap.size ∧ V.cell? ⟨b, off + i * 2, none⟩ = some (.int .i64 s.pl) ∧ V.cell? ⟨b, off + i * 2 + 1, none⟩ = some (.slice a' s.ps.length c') ∧ Prs V a' s.ps := fun V h => by
    obtain ⟨b, off, s', a', c', e, hbl, q0, q1, hP, _, _, _, g1⟩ := h.sd.at hiS
    have e2 := g1.out
    rw [hg] at e2
    cases e2
    exact ⟨b, off, a', c', e, hbl, q0, q1, hP⟩
  have hiI : (i : Int) < (S.length : Int) := by omega
  have hi0 : (0 : Int) ≤ (i : Int) := by omega
  clear hs hs0 hs1 hr hXW
  obtain ⟨ql, hql⟩ : ∃ ql, ql = s.ps.length := ⟨_, rfl⟩
  by_cases hl : ql = 1
  · skip
    by_cases hm0 : more < 0
    · skip
      have HL := hid (hql.symm.trans hl)
      clear hql hl
      have c0 := x0.cell 0 rfl; have c1 := x0.cell 1 rfl; have c2 := x0.cell 2 rfl
      go_enter Try.func6, Try.ntmps6
      go_wp2_with fail
      refine hrd.mono ?_
      rintro e W1 ⟨rfl, hb1⟩
      clear c0 c1 c2
      replace x0 := x0.below hb1
      replace hR := hR.below hb1 (Nat.le_refl _)
      replace hb := hb.trans (hb1.mono hb.size)
      clear hb1 hrd hX hW
      have c0 := x0.cell 0 rfl; have c1 := x0.cell 1 rfl; have c2 := x0.cell 2 rfl
      obtain ⟨bs, os, a', c', rfl, hbl, q0, q1, hP⟩ := hat _ hR
      rw [HL.out] at q1
      clear hat
      go_wp2_with fail
      refine (hwk _).mono ?_
      rintro e Vw ⟨rfl, hbw9⟩
      clear c0 c1 c2
      replace hb := hb.trans (hbw9.mono hb.size)
      go_wp2
      go_ret
      exact ⟨rfl, hb⟩
    by_cases hm9 : 9999 < more
    · skip
      have HL := hid (hql.symm.trans hl)
      clear hql hl
      have c0 := x0.cell 0 rfl; have c1 := x0.cell 1 rfl; have c2 := x0.cell 2 rfl
      go_enter Try.func6, Try.ntmps6
      go_wp2_with fail
      refine hrd.mono ?_
      rintro e W1 ⟨rfl, hb1⟩
      clear c0 c1 c2
      replace x0 := x0.below hb1
      replace hR := hR.below hb1 (Nat.le_refl _)
      replace hb := hb.trans (hb1.mono hb.size)
      clear hb1 hrd hX hW
      have c0 := x0.cell 0 rfl; have c1 := x0.cell 1 rfl; have c2 := x0.cell 2 rfl
      obtain ⟨bs, os, a', c', rfl, hbl, q0, q1, hP⟩ := hat _ hR
      rw [HL.out] at q1
      clear hat
      go_wp2_with fail
      refine (hwk _).mono ?_
      rintro e Vw ⟨rfl, hbw9⟩
      clear c0 c1 c2
      replace hb := hb.trans (hbw9.mono hb.size)
      go_wp2
      go_ret
      exact ⟨rfl, hb⟩
    have h3 := fun V h => Plays_any p aS aO cS cO S O V h hV
    by_cases hal : alS S = 0
    · rw [hal] at h3
      have HL := hid (hql.symm.trans hl)
      clear hql hl hal
      have c0 := x0.cell 0 rfl; have c1 := x0.cell 1 rfl; have c2 := x0.cell 2 rfl
      go_enter Try.func6, Try.ntmps6
      go_wp2_with fail
      refine hrd.mono ?_
      rintro e W1 ⟨rfl, hb1⟩
      clear c0 c1 c2
      replace x0 := x0.below hb1
      replace hR := hR.below hb1 (Nat.le_refl _)
      replace hb := hb.trans (hb1.mono hb.size)
      clear hb1 hrd hX hW
      have c0 := x0.cell 0 rfl; have c1 := x0.cell 1 rfl; have c2 := x0.cell 2 rfl
      obtain ⟨bs, os, a', c', rfl, hbl, q0, q1, hP⟩ := hat _ hR
      rw [HL.out] at q1
      clear hat hP
      go_wp2_with fail
      refine (h3 _ hR).mono ?_
      rintro e Vc6 ⟨rfl, hb1⟩
      clear c0 c1 c2
      replace x0 := x0.below hb1
      replace hR := hR.below hb1 (Nat.le_refl _)
      replace hb := hb.trans (hb1.mono hb.size)
      clear hb1
      have c0 := x0.cell 0 rfl; have c1 := x0.cell 1 rfl; have c2 := x0.cell 2 rfl
      clear q0 q1 h3
      go_wp2_with fail
      refine (hwk _).mono ?_
      rintro e Vw ⟨rfl, hbw9⟩
      clear c0 c1 c2
      replace hb := hb.trans (hbw9.mono hb.size)
      go_wp2
      go_ret
      exact ⟨rfl, hb⟩
    have hE : askE p S O true = 0 := askE_n hv hal
    obtain ⟨q, hps, hqn⟩ := one_part hso (by rw [← hql]; exact hl)
    have hlaw := fun h => more_law (x := more) hE hg hps hqn (by omega) h
    have hpl := hso.pl
    have hBal : (alS S == 0) = false := by simp [hal]
    have hcp := fun V h => Copy_any p aS aO cS cO S O V h
    unfold CopyP at hcp
    have hol := hR.ol; have hsl := hR.sd.len
    have h5 := fun V h => Exact_any p aS aO cS cO S O (q : Int) V h
    obtain ⟨T, hT⟩ : ∃ T, T = S.set i ⟨s.pl + more, s.ps⟩ := ⟨_, rfl⟩
    have hTl : T.length = S.length := by rw [hT, List.length_set]
    rw [← hT] at hlaw
    have hset := fun (V : World) (B lo : Nat) (a b : Option Addr) (c d : Nat) (h : CpM V B lo a b c d S O) => h.setPl hg (x := s.pl + more) ⟨by omega, by omega⟩
    rw [← hT] at hset
    have hro := fun (a b : Option Addr) (c d : Nat) V (h : Ry V a b p T O) => ready_any p a b c d T O V h.inn
    have o5 := fun (a b : Option Addr) (c d : Nat) V (h : Ry V a b p T O) => Exact_any p a b c d T O (q : Int) V h
    rw [hTl] at hro o5
    have hcry := fun (B lo : Nat) (a b : Option Addr) (c d : Nat) (V : World) (h : CpM V B lo a b c d T O) => h.ry (p := p) (by rw [hTl]; exact hsl) hol hR.pr
    have HLAW := hid hlaw
    have HPS := hid hps
    have ewp : IntKind.i64.wrap (s.pl + more) = s.pl + more := IntWalk.i64_in _ (by omega)
    obtain ⟨A, hA⟩ : ∃ A, A = alS S := ⟨_, rfl⟩
    rw [← hA] at h3 hBal
    obtain ⟨m, hm⟩ : ∃ m, m = S.length := ⟨_, rfl⟩
    rw [← hm] at hrd h3 hcp h5 hro o5 hsl x0 hW hiI ⊢
    have HL := hid (hql.symm.trans hl)
    clear hql hl hal hE hg hso hv hV hf hlaw hps hT hTl hA hm hiS
    obtain ⟨pl, ps⟩ := s
    simp only at ewp hat hset HPS HL hpl
    obtain ⟨t, ht⟩ : ∃ t, t = pl + more := ⟨_, rfl⟩
    rw [← ht] at hset
    have ewt : IntKind.i64.wrap (pl + more) = t := by rw [ht]; exact ewp
    clear ewp ht
    have c0 := x0.cell 0 rfl; have c1 := x0.cell 1 rfl; have c2 := x0.cell 2 rfl
    go_enter Try.func6, Try.ntmps6
    go_wp2_with fail
    refine hrd.mono ?_
    rintro e W1 ⟨rfl, hb1⟩
    clear c0 c1 c2
    replace x0 := x0.below hb1
    replace hR := hR.below hb1 (Nat.le_refl _)
    replace hb := hb.trans (hb1.mono hb.size)
    clear hb1 hrd hX hW
    have c0 := x0.cell 0 rfl; have c1 := x0.cell 1 rfl; have c2 := x0.cell 2 rfl
    obtain ⟨bs, os, a', c', rfl, hbl, q0, q1, hP⟩ := hat _ hR
    rw [HL.out] at q1
    clear hP q0
    go_wp2_with fail
    refine (h3 _ hR).mono ?_
    rintro e Vc8 ⟨rfl, hb1⟩
    clear c0 c1 c2
    replace x0 := x0.below hb1
    replace hR := hR.below hb1 (Nat.le_refl _)
    replace hb := hb.trans (hb1.mono hb.size)
    clear hb1
    have c0 := x0.cell 0 rfl; have c1 := x0.cell 1 rfl; have c2 := x0.cell 2 rfl
    clear q1 h3 hbl
    go_wp2_with fail
    refine (hcp _ hR).mono ?_
    rintro e V1 ⟨a, b, k1, k2, rfl, hC, hb1, hszc⟩
    have hba := below_one (w := V1) (.cells #[.int .i64 p, .slice a m k1, .slice b O.length k2] 25)
    have hgs : ∀ ad, a = some ad → ad.block < V1.heap.size := fun ad e => by
      obtain ⟨cs, q1, _, _⟩ := hC.ex
      exact (q1.lt ad.block (by rw [e]; rfl)).2
    have hbW := hb.trans (hb1.mono hb.size)
    have hlw : w.heap.size < Vc8.heap.size + 3 := by have := hb.size; omega
    have HXa := hid (And.intro ((x0.below hb1).below hba) (And.intro (Bx.new V1 #[.int .i64 p, .slice a m k1, .slice b O.length k2] 25) (And.intro (hC.below hba) (And.intro (hbW.trans (hba.mono hbW.size)) (And.intro hgs hlw)))))
    clear hb hb1 c0 c1 c2 hba x0 hbW hC hR hcp hgs hlw
    generalize Vc8.heap.size + 3 = B0 at *
    go_upto_region 4 with fail
    obtain ⟨x0, x7, hC, hb, hgs, hlw⟩ := HXa.out
    clear HXa hszc
    generalize V1.heap.size = s7 at *
    generalize World.alloc _ _ = wa at *
    obtain ⟨gg, rfl, hBg, q0, qf, hgw, hC2⟩ := hset _ _ _ _ _ _ _ hC
    have hgs2 := hgs _ rfl
    simp only at hgs2
    have z0 := x0.other (a := ⟨gg, i * 2, none⟩) (by show w.heap.size ≠ gg; omega) (.int .i64 t)
    have z7 := x7.other (a := ⟨gg, i * 2, none⟩) (by show s7 ≠ gg; omega) (.int .i64 t)
    have zb := hb.setCell (p := ⟨gg, i * 2, none⟩) (by show w.heap.size ≤ gg; omega) (.int .i64 t)
    have HZ := hid (And.intro z0 (And.intro z7 (And.intro hC2 zb)))
    clear z0 z7 zb hC2 hC hset hgs hgs2
    have d0 := x7.cell 0 rfl; have d1 := x7.cell 1 rfl; have d2 := x7.cell 2 rfl
    clear x7 x0 hb
    go_upto_region 5 with fail
    obtain ⟨x0, x7, hC, hb⟩ := HZ.out
    clear HZ d0 d1 d2 q0 qf hgw hBg
    generalize World.setCell _ _ _ = wb at *
    have hRo := hcry _ _ _ _ _ _ _ hC
    have hR := hRw.below hb (Nat.le_refl _)
    clear hC hcry hlw
    have c0 := x0.cell 0 rfl; have c1 := x0.cell 1 rfl; have c2 := x0.cell 2 rfl
    have d0 := x7.cell 0 rfl; have d1 := x7.cell 1 rfl; have d2 := x7.cell 2 rfl
    have hro1 := hro _ _ k1 k2 _ hRo
    clear hro
    cases hr2 : rdB p T O
    · rw [hr2] at hro1
      clear hr2
      go_wp2_with fail
      refine (hro1).mono ?_
      rintro e Vc9 ⟨rfl, hb1⟩
      clear c0 c1 c2
      clear d0 d1 d2
      replace x0 := x0.below hb1
      replace x7 := x7.below hb1
      replace hRo := hRo.below hb1 (Nat.le_refl _)
      replace hR := hR.below hb1 (Nat.le_refl _)
      replace hb := hb.trans (hb1.mono hb.size)
      clear hb1
      have c0 := x0.cell 0 rfl; have c1 := x0.cell 1 rfl; have c2 := x0.cell 2 rfl
      have d0 := x7.cell 0 rfl; have d1 := x7.cell 1 rfl; have d2 := x7.cell 2 rfl
      go_wp2_with fail
      refine (hwk _).mono ?_
      rintro e Vw ⟨rfl, hbw9⟩
      clear c0 c1 c2
      clear d0 d1 d2
      replace hb := hb.trans (hbw9.mono hb.size)
      go_wp2
      go_ret
      exact ⟨rfl, hb⟩
    · rw [hr2] at hro1
      obtain ⟨e1, e2, na, nb, nc, nd, f1, f2, f3, f4, b0, d0', a9, b9, c9, d9, hcr⟩ := HLAW.out (rdB_ok hr2).2
      rw [e1, f1, f2] at h5
      rw [e2, f3, f4] at o5
      have hfr1 := fun V => isFraction_ok (na : Int) (nb : Int) (by omega) (by omega) (by omega) (by omega) V
      have hfr2 := fun V => isFraction_ok (nc : Int) (nd : Int) (by omega) (by omega) (by omega) (by omega) V
      have hng := fun V => notGreater_ok na nb nc nd V a9 b9 c9 d9 b0 d0' hcr
      clear HLAW hr2 e1 e2 f1 f2 f3 f4 hcr
      go_wp2_with fail
      refine (hro1).mono ?_
      rintro e Vc11 ⟨rfl, hb1⟩
      clear c0 c1 c2
      clear d0 d1 d2
      replace x0 := x0.below hb1
      replace x7 := x7.below hb1
      replace hRo := hRo.below hb1 (Nat.le_refl _)
      replace hR := hR.below hb1 (Nat.le_refl _)
      replace hb := hb.trans (hb1.mono hb.size)
      clear hb1
      have c0 := x0.cell 0 rfl; have c1 := x0.cell 1 rfl; have c2 := x0.cell 2 rfl
      have d0 := x7.cell 0 rfl; have d1 := x7.cell 1 rfl; have d2 := x7.cell 2 rfl
      clear hro1
      obtain ⟨bs', os', a2', c2', e3, hbl, q0, q1, hP⟩ := hat _ hR
      cases e3
      rw [HL.out] at q1
      obtain ⟨bp, op, x, y, rfl, _, r0, r1, _, _, g2, _⟩ := hP.at (k := 0) (by rw [HL.out]; omega)
      have hxq : x = (q : Int) := by
        have := g2.out
        rw [HPS.out] at this
        cases this; rfl
      subst hxq
      simp only [Nat.zero_mul, Nat.add_zero] at r0 r1
      clear g2 hP
      go_wp2_with fail
      refine (h5 _ hR).mono ?_
      rintro e Vc12 ⟨rfl, hb1⟩
      clear c0 c1 c2
      clear d0 d1 d2
      replace x0 := x0.below hb1
      replace x7 := x7.below hb1
      replace hRo := hRo.below hb1 (Nat.le_refl _)
      replace hR := hR.below hb1 (Nat.le_refl _)
      replace hb := hb.trans (hb1.mono hb.size)
      clear hb1
      have c0 := x0.cell 0 rfl; have c1 := x0.cell 1 rfl; have c2 := x0.cell 2 rfl
      have d0 := x7.cell 0 rfl; have d1 := x7.cell 1 rfl; have d2 := x7.cell 2 rfl
      clear h5 r0 r1 q0 q1
      go_wp2_with fail
      refine (o5 _ _ k1 k2 _ hRo).mono ?_
      rintro e Vc13 ⟨rfl, hb1⟩
      clear c0 c1 c2
      clear d0 d1 d2
      replace x0 := x0.below hb1
      replace x7 := x7.below hb1
      replace hRo := hRo.below hb1 (Nat.le_refl _)
      replace hR := hR.below hb1 (Nat.le_refl _)
      replace hb := hb.trans (hb1.mono hb.size)
      clear hb1
      have c0 := x0.cell 0 rfl; have c1 := x0.cell 1 rfl; have c2 := x0.cell 2 rfl
      have d0 := x7.cell 0 rfl; have d1 := x7.cell 1 rfl; have d2 := x7.cell 2 rfl
      clear o5
      go_wp2_with fail
      refine (hfr1 _).mono ?_
      rintro e Vc14 ⟨rfl, rfl⟩
      go_wp2_with fail
      refine (hfr2 _).mono ?_
      rintro e Vc15 ⟨rfl, rfl⟩
      go_wp2_with fail
      refine (hng _).mono ?_
      rintro e Vc16 ⟨rfl, hb1⟩
      clear c0 c1 c2
      clear d0 d1 d2
      replace x0 := x0.below hb1
      replace x7 := x7.below hb1
      replace hRo := hRo.below hb1 (Nat.le_refl _)
      replace hR := hR.below hb1 (Nat.le_refl _)
      replace hb := hb.trans (hb1.mono hb.size)
      clear hb1
      have c0 := x0.cell 0 rfl; have c1 := x0.cell 1 rfl; have c2 := x0.cell 2 rfl
      have d0 := x7.cell 0 rfl; have d1 := x7.cell 1 rfl; have d2 := x7.cell 2 rfl
      clear hng
      go_wp2_with fail
      refine (hwk _).mono ?_
      rintro e Vw ⟨rfl, hbw9⟩
      clear c0 c1 c2
      clear d0 d1 d2
      replace hb := hb.trans (hbw9.mono hb.size)
      go_wp2
      go_ret
      exact ⟨rfl, hb⟩
  · have hBl : ((ql : Int) != 1) = true := by simp; omega
    have HQL := hid hql
    clear hql
    have c0 := x0.cell 0 rfl; have c1 := x0.cell 1 rfl; have c2 := x0.cell 2 rfl
    go_enter Try.func6, Try.ntmps6
    go_wp2_with fail
    refine hrd.mono ?_
    rintro e W1 ⟨rfl, hb1⟩
    clear c0 c1 c2
    replace x0 := x0.below hb1
    replace hR := hR.below hb1 (Nat.le_refl _)
    replace hb := hb.trans (hb1.mono hb.size)
    clear hb1 hrd hX hW
    have c0 := x0.cell 0 rfl; have c1 := x0.cell 1 rfl; have c2 := x0.cell 2 rfl
    obtain ⟨bs, os, a', c', rfl, hbl, q0, q1, hP⟩ := hat _ hR
    rw [← HQL.out] at q1
    clear hat
    go_wp2_with fail
    refine (hwk _).mono ?_
    rintro e Vw ⟨rfl, hbw9⟩
    clear c0 c1 c2
    replace hb := hb.trans (hbw9.mono hb.size)
    go_wp2
    go_ret
    exact ⟨rfl, hb⟩
end Go.Proofs.Ytakodllejndfeaa
