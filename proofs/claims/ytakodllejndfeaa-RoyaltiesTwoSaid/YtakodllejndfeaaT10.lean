import Derived.Test.YtakodllejndfeaaT9
/-! The shares of a royal; what sides that are settled alone give. -/
namespace Go.Proofs.Ytakodllejndfeaa
set_option linter.unusedSimpArgs false
set_option linter.unusedVariables false
open Go Go.RowKit

theorem clL_getD (S : List Sd) {n i : Nat} (h : i < n) : (clL S n).getD i 0 = clS S (i : Nat) := getD_of (clL_get S h)
theorem qok_of {p P : Int} {S : List Sd} {O : List Int} (h : VOk p S O) (ha : alS S ≠ 0) (h0 : 0 ≤ P) (h9 : P ≤ 9999) : QOk P (clL S O.length) (100 * alS S) O.length := by
  have hal := VOk.al h
  refine ⟨⟨h0, by omega, fun i hi => ?_, ?_⟩, h9, clL_len _ _, h.n6, fun i hi => ?_, by omega⟩
  · rw [clL_getD S hi]; exact (clS_rng h.sd _).1
  · rw [sumR_congr (g := fun i => clS S (i : Nat)) (fun i hi => clL_getD S hi)]; exact cl_sum h.sd
  · rw [clL_getD S hi]
    have := (clS_rng h.sd (i : Nat)).2
    omega
/-- What claims are in memory, if there is no error. -/
def CmF (S : List Sd) (n : Nat) (E : Int) (v : Value) (V : World) : Prop :=
  ∃ (a : Option Addr) (k c : Nat) (A : Int), v = .agg #[.slice a k c, .int .i64 A] ∧ (E = 0 → ∃ g, a = some ⟨g, 0, none⟩ ∧ k = n ∧ c = n ∧ A = 100 * alS S ∧ Bx V g (vrow (clL S n)) 3)
theorem CmF.below {S : List Sd} {n : Nat} {E : Int} {v : Value} {V V' : World} (h : CmF S n E v V) (hb : Below V.heap.size V V') : CmF S n E v V' := by
  obtain ⟨a, k, c, A, h1, h2⟩ := h
  exact ⟨a, k, c, A, h1, fun h0 => by obtain ⟨g, e1, e2, e3, e4, h3⟩ := h2 h0; exact ⟨g, e1, e2, e3, e4, h3.below hb⟩⟩
theorem ask_any (p : Int) (aS aO : Option Addr) (cS cO : Nat) (S : List Sd) (O : List Int) (o : Bool) (w : World) (hX : Ry w aS aO p S O) : Calls Try.prog 45 #[.agg #[.int .i64 p, .slice aS S.length cS, .slice aO O.length cO], .bool o] w fun e w' => ∃ C, e = .returned (.tuple #[C, .int .i64 (askE p S O o)]) ∧ CmF S O.length (askE p S O o) C w' ∧ Below w.heap.size w w' := by
  by_cases h : askE p S O o = 0
  · obtain ⟨_, rfl, _⟩ := askE_0 h
    refine (ask_ok p aS aO cS cO S O w hX h).mono ?_
    rintro e w' ⟨g, rfl, h1, h2, h3⟩
    exact ⟨_, by rw [h], ⟨_, _, _, _, rfl, fun _ => ⟨g, rfl, rfl, rfl, rfl, h1⟩⟩, h2⟩
  · refine (ask_bad p aS aO cS cO S O o w hX h).mono ?_
    rintro e w' ⟨rfl, h2⟩
    exact ⟨_, rfl, ⟨_, _, _, _, rfl, fun h0 => absurd h0 h⟩, h2⟩

set_option maxRecDepth 100000 in
set_option maxHeartbeats 1000000 in
theorem Shares_bad (p : Int) (aS aO : Option Addr) (cS cO : Nat) (S : List Sd) (O : List Int) (w : World) (hX : Ry w aS aO p S O) (hE : askE p S O true ≠ 0) : Calls Try.prog 15 #[.agg #[.int .i64 p, .slice aS S.length cS, .slice aO O.length cO]] w fun e w' => e = .returned (.tuple #[.slice none 0 0, .int .i64 (askE p S O true)]) ∧ Below w.heap.size w w' := by
  obtain ⟨W, hW, hb, _, x0⟩ := boxes1 w #[.int .i64 p, .slice aS S.length cS, .slice aO O.length cO] 25
  have ha := ask_bad p aS aO cS cO S O true W (hX.below hb (Nat.le_refl _)) hE
  generalize askE p S O true = E at *
  have hB : (E != 0) = true := by simp [hE]
  have c0 := x0.cell 0 rfl; have c1 := x0.cell 1 rfl; have c2 := x0.cell 2 rfl
  go_enter Try.func15, Try.ntmps15
  go_wp2_with fail
  refine ha.mono ?_
  rintro e W1 ⟨rfl, hb1⟩
  replace hb := hb.trans (hb1.mono hb.size)
  have hba := below_one (w := W1) (.cells #[.slice none 0 0, .int .i64 0] 66)
  have HXa := hid (hb.trans (hba.mono hb.size))
  clear hb hb1 c0 c1 c2 hW ha hba hX x0
  go_upto_region 2 with fail
  generalize World.alloc _ _ = wa at *
  go_wp2
  go_ret2
  exact ⟨rfl, HXa.out⟩
/-- What shares that are asked for are in memory. -/
def SkP (p : Int) (S : List Sd) (n : Nat) (w : World) (e : Ending) (w' : World) : Prop :=
  ∃ r : Nat, e = .returned (.tuple #[.slice (some ⟨r, 0, none⟩) n n, .int .i64 0]) ∧ Bx w' r (vrow (shL p (clL S n) (100 * alS S) n)) 3 ∧ Below w.heap.size w w' ∧ w.heap.size ≤ r
set_option maxRecDepth 100000 in
set_option maxHeartbeats 1000000 in
theorem Shares_ok (p : Int) (aS aO : Option Addr) (cS cO : Nat) (S : List Sd) (O : List Int) (w : World) (hX : Ry w aS aO p S O) (hE : askE p S O true = 0) : Calls Try.prog 15 #[.agg #[.int .i64 p, .slice aS S.length cS, .slice aO O.length cO]] w (SkP p S O.length w) := by
  obtain ⟨W, hW, hb, _, x0⟩ := boxes1 w #[.int .i64 p, .slice aS S.length cS, .slice aO O.length cO] 25
  have ha := ask_ok p aS aO cS cO S O W (hX.below hb (Nat.le_refl _)) hE
  obtain ⟨hv, _, hal⟩ := askE_0 hE
  have hV := vB_ok hv
  have hQ := qok_of hV hal hV.p0 hV.p9
  unfold SkP
  unfold AkP at ha
  have hsh := fun g V h => shares_any g O.length p (clL S O.length) (100 * alS S) hQ V h
  unfold ShP at hsh
  generalize shL p (clL S O.length) (100 * alS S) O.length = L at *
  generalize clL S O.length = row at *
  generalize 100 * alS S = A at *
  clear hV hv hal hQ
  have c0 := x0.cell 0 rfl; have c1 := x0.cell 1 rfl; have c2 := x0.cell 2 rfl
  go_enter Try.func15, Try.ntmps15
  go_wp2_with fail
  refine ha.mono ?_
  rintro e W1 ⟨g, rfl, y, hb1, hg⟩
  have hba := below_one (w := W1) (.cells #[.slice (some ⟨g, 0, none⟩) O.length O.length, .int .i64 A] 66)
  have hbW := hb.trans (hb1.mono hb.size)
  have HXa := hid (And.intro ((x0.below hb1).below hba) (And.intro (Bx.new W1 #[.slice (some ⟨g, 0, none⟩) O.length O.length, .int .i64 A] 66) (And.intro (y.below hba) (hbW.trans (hba.mono hbW.size)))))
  clear hb hb1 c0 c1 c2 hW ha hba hX x0 y hbW
  go_upto_region 2 with fail
  obtain ⟨x0, x4, y, hb⟩ := HXa.out
  clear HXa
  generalize W1.heap.size = sa at *
  generalize World.alloc _ _ = wa at *
  have c0 := x0.cell 0 rfl; have c1 := x0.cell 1 rfl; have c2 := x0.cell 2 rfl
  have d0 := x4.cell 0 rfl; have d1 := x4.cell 1 rfl
  go_wp2_with fail
  refine (hsh g _ y).mono ?_
  rintro e W2 ⟨r, rfl, y2, hb2, hr⟩
  have hlt := hb.size
  have HH := hid (And.intro y2 (hb.trans (hb2.mono hb.size)))
  clear hb hb2 y2 y x0 x4 hsh c0 c1 c2 d0 d1
  go_wp2
  go_ret2
  exact ⟨r, rfl, HH.out.1, HH.out.2, by omega⟩
/-- The shares that are returned. -/
def shR (p : Int) (S : List Sd) (O : List Int) : List Int := if askE p S O true = 0 then shL p (clL S O.length) (100 * alS S) O.length else []
theorem shR_ok {p : Int} {S : List Sd} {O : List Int} (h : askE p S O true = 0) : shR p S O = shL p (clL S O.length) (100 * alS S) O.length := if_pos h
theorem shR_bad {p : Int} {S : List Sd} {O : List Int} (h : askE p S O true ≠ 0) : shR p S O = [] := if_neg h
theorem shR_rng (p : Int) (S : List Sd) (O : List Int) : ∀ x ∈ shR p S O, 0 ≤ x ∧ x ≤ 9999 := by
  intro x hx
  by_cases hE : askE p S O true = 0
  · rw [shR_ok hE] at hx
    obtain ⟨hv, _, hal⟩ := askE_0 hE
    have hV := vB_ok hv
    have hQ := qok_of hV hal hV.p0 hV.p9
    simp only [shL, List.mem_map, List.mem_range] at hx
    obtain ⟨i, hi, rfl⟩ := hx
    have hs := sh_sum hQ.toCOk
    have h0 : ∀ j, j < O.length → 0 ≤ shV p (clL S O.length) (100 * alS S) O.length (j : Nat) := fun j hj => by
      have h1 := flV_nn hQ.toCOk hj
      have h2 := (shV_rng (P := p) (E := clL S O.length) (A := 100 * alS S) (n := O.length) (j : Nat)).1
      omega
    refine ⟨h0 i hi, ?_⟩
    have : ∀ m, (∀ j, j < m → 0 ≤ shV p (clL S O.length) (100 * alS S) O.length (j : Nat)) → i < m → shV p (clL S O.length) (100 * alS S) O.length (i : Nat) ≤ sumR m fun j => shV p (clL S O.length) (100 * alS S) O.length (j : Nat) := by
      intro m
      induction m with
      | zero => intro _ h; omega
      | succ m ih =>
        intro hh hi'
        rw [sumR_succ]
        have hm := hh m (by omega)
        rcases Nat.lt_or_ge i m with h | h
        · have := ih (fun j hj => hh j (by omega)) h
          omega
        · obtain rfl : i = m := by omega
          have h3 := sumR_mono (n := i) (f := fun _ => 0) (g := fun j => shV p (clL S O.length) (100 * alS S) O.length (j : Nat)) (fun j hj => hh j (by omega))
          rw [sumR_zero] at h3
          omega
    have := this O.length h0 hi
    have := hV.p9
    omega
  · rw [shR_bad hE] at hx; simp at hx
theorem shR_len {p : Int} {S : List Sd} {O : List Int} (h : askE p S O true = 0) : (shR p S O).length = O.length := by rw [shR_ok h, shL_len]
theorem Ints.nil (w : World) (a : Option Addr) : Ints w a [] := ⟨by simp, by simp, fun i hi => by simp at hi⟩
theorem Shares_any (p : Int) (aS aO : Option Addr) (cS cO : Nat) (S : List Sd) (O : List Int) (w : World) (hX : Ry w aS aO p S O) : Calls Try.prog 15 #[.agg #[.int .i64 p, .slice aS S.length cS, .slice aO O.length cO]] w fun e w' => ∃ (a : Option Addr) (c : Nat), e = .returned (.tuple #[.slice a (shR p S O).length c, .int .i64 (askE p S O true)]) ∧ Ints w' a (shR p S O) ∧ Below w.heap.size w w' := by
  have hr := shR_rng p S O
  by_cases h : askE p S O true = 0
  · refine (Shares_ok p aS aO cS cO S O w hX h).mono ?_
    rintro e w' ⟨r, rfl, h1, h2, h3⟩
    rw [← shR_ok h] at h1
    refine ⟨_, _, by rw [shR_len h, h], Ints.of_bx h1 ?_ (fun x hx => by have := hr x hx; omega), h2⟩
    rw [shR_len h]
    have := hX.ol
    omega
  · refine (Shares_bad p aS aO cS cO S O w hX h).mono ?_
    rintro e w' ⟨rfl, h2⟩
    exact ⟨none, 0, by rw [shR_bad h]; rfl, by rw [shR_bad h]; exact Ints.nil _ _, h2⟩

/-- What a side gives that is settled alone. -/
def aloneP (mo : Int) (ps : List (Int × Int)) : Int := (ps.map fun q => mo * q.2 / 100).sum
def moneyS (p al : Int) (s : Sd) : Int := p * s.pl / al
def aloneS (p al : Int) (S : List Sd) : Int := (S.map fun s => aloneP (moneyS p al s) s.ps).sum
theorem aloneP_snoc (mo : Int) (ps : List (Int × Int)) (q : Int × Int) : aloneP mo (ps ++ [q]) = aloneP mo ps + mo * q.2 / 100 := by simp [aloneP, List.sum_append]
theorem aloneS_snoc (p al : Int) (S : List Sd) (s : Sd) : aloneS p al (S ++ [s]) = aloneS p al S + aloneP (moneyS p al s) s.ps := by simp [aloneS, List.sum_append]
theorem aloneP_rng {mo : Int} (h0 : 0 ≤ mo) {ps : List (Int × Int)} (h : ∀ q ∈ ps, 1 ≤ q.2 ∧ q.2 ≤ 100) : 0 ≤ aloneP mo ps ∧ 100 * aloneP mo ps ≤ mo * sumP ps := by
  induction ps with
  | nil => simp [aloneP, sumP]
  | cons q ps ih =>
    have h1 := ih fun x hx => h x (by simp [hx])
    have h2 := h q (by simp)
    have h3 : 0 ≤ mo * q.2 := Int.mul_nonneg h0 (by omega)
    simp only [aloneP, sumP, List.map_cons, List.sum_cons, Int.mul_add] at *
    omega
theorem moneyS_rng {p al : Int} {S : List Sd} {O : List Int} (hV : VOk p S O) (ha : 0 < al) {s : Sd} (hs : s ∈ S) : 0 ≤ moneyS p al s ∧ moneyS p al s ≤ 99980001 := by
  unfold moneyS
  have h1 := (hV.sd s hs).pl
  have h2 : 0 ≤ p * s.pl := Int.mul_nonneg hV.p0 h1.1
  have h3 : p * s.pl ≤ 9999 * 9999 := Int.mul_le_mul hV.p9 h1.2 h1.1 (by omega)
  have h4 := Int.ediv_le_self al h2
  exact ⟨Int.ediv_nonneg h2 (by omega), by omega⟩
theorem aloneS_rng {p al : Int} {S : List Sd} {O : List Int} (hV : VOk p S O) (ha : 0 < al) (k : Nat) : 0 ≤ aloneS p al (S.take k) ∧ aloneS p al (S.take k) ≤ 99980001 * 1000 := by
  have hh : ∀ T : List Sd, (∀ s ∈ T, s ∈ S) → 0 ≤ aloneS p al T ∧ aloneS p al T ≤ 99980001 * T.length := by
    intro T
    induction T with
    | nil => intro _; simp [aloneS]
    | cons s T ih =>
      intro h
      have h1 := ih fun x hx => h x (by simp [hx])
      have hs := h s (by simp)
      have h2 := moneyS_rng hV ha hs
      have h3 := aloneP_rng h2.1 (hV.sd s hs).pct
      rw [(hV.sd s hs).sum] at h3
      simp only [aloneS, List.map_cons, List.sum_cons, List.length_cons] at *
      omega
  have h1 := hh (S.take k) (fun s hs => List.mem_of_mem_take hs)
  have h2 := hV.m6
  rw [List.length_take] at h1
  omega
theorem quo100_eq {x : Int} (h : 0 ≤ x) : x.tdiv 100 = x / 100 := Int.tdiv_eq_ediv_of_nonneg h

set_option maxRecDepth 100000 in
set_option maxHeartbeats 6000000 in
theorem alone_any (p : Int) (aS aO : Option Addr) (cS cO : Nat) (S : List Sd) (O : List Int) (al : Int) (w : World) (hX : Ry w aS aO p S O) (hV : VOk p S O) (ha : 0 < al) : Calls Try.prog 47 #[.agg #[.int .i64 p, .slice aS S.length cS, .slice aO O.length cO], .int .i64 al] w fun e w' => e = .returned (.int .i64 (aloneS p al S)) ∧ Below w.heap.size w w' := by
  obtain ⟨W, hW, hb, _, x0⟩ := boxes1 w #[.int .i64 p, .slice aS S.length cS, .slice aO O.length cO] 25
  have c0 := x0.cell 0 rfl; have c1 := x0.cell 1 rfl; have c2 := x0.cell 2 rfl
  have hX1 := (hX.below hb (Nat.le_refl _)).sd
  have hm6 := hV.m6
  obtain ⟨m, hm⟩ : ∃ m, m = S.length := ⟨_, rfl⟩
  rw [← hm] at hm6 x0 hW c1 ⊢
  have HM := hid hm
  have hmI : (m : Int) ≤ 6 := by omega
  have hane : ¬ al = 0 := by omega
  clear hm hX
  go_enter Try.func47, Try.ntmps47
  go_wp2
  clear hW c0 c1 c2
  go_loopw [5, 14] (fun v5 v14 wr => ∃ k : Nat, k ≤ m ∧ v14 = .int .i64 (k : Int) ∧ v5 = .int .i64 (aloneS p al (S.take k)) ∧ Below W.heap.size W wr) (fun _ v14 _ => m - (intOf v14).toNat)
  case atStart => exact ⟨0, Nat.zero_le _, rfl, rfl, Below.refl _ _⟩
  case round =>
    obtain ⟨k, hk, rfl, rfl, hb1⟩ := hrel
    by_cases hlt : k < m
    · obtain ⟨b, off, s, a', c', rfl, hbl, q0, q1, hP, hpl, hrg, hmem, hg⟩ := (hX1.below hb1 (Nat.le_refl _)).at (k := k) (by rw [← HM.out]; exact hlt)
      have hkI : (k : Int) < m := by omega
      have hk0 : (0 : Int) ≤ (k : Int) := by omega
      have hso := hV.sd s hmem
      have hmo := moneyS_rng hV ha hmem
      have hst : aloneS p al (S.take (k + 1)) = aloneS p al (S.take k) + aloneP (moneyS p al s) s.ps := by rw [take_snoc hg.out, aloneS_snoc]
      have hr1 := aloneS_rng hV ha k
      have hp2 : 0 ≤ p * s.pl := Int.mul_nonneg hV.p0 hso.pl.1
      have hp3 : p * s.pl ≤ 9999 * 9999 := Int.mul_le_mul hV.p9 hso.pl.2 hso.pl.1 (by omega)
      have hdiv : (p * s.pl).tdiv al = moneyS p al s := Int.tdiv_eq_ediv_of_nonneg hp2
      obtain ⟨mo, hmo2⟩ : ∃ mo, mo = moneyS p al s := ⟨_, rfl⟩
      rw [← hmo2] at hmo hst hdiv
      obtain ⟨u, hu⟩ : ∃ u, u = aloneS p al (S.take k) := ⟨_, rfl⟩
      rw [← hu] at hst hr1 ⊢
      obtain ⟨pl, ps⟩ := s
      simp only at q0 q1 hpl hrg hst hp2 hp3 hdiv
      obtain ⟨q, hq⟩ : ∃ q, q = ps.length := ⟨_, rfl⟩
      rw [← hq] at q1 hpl
      have HQ := hid hq; have HST := hid hst; have HSO := hid hso
      have ew1 : IntKind.i64.wrap (p * pl) = p * pl := IntWalk.i64_in _ (by omega)
      have ew2 : IntKind.i64.wrap mo = mo := IntWalk.i64_in _ (by omega)
      have hba := below_one (w := wr) (.cells #[.int .i64 pl, .slice a' q c'] 39)
      have hb2 := hb1.trans (hba.mono hb1.size)
      have HXa := hid (And.intro ((x0.below hb1).below hba) (And.intro (Bx.new wr #[.int .i64 pl, .slice a' q c'] 39) (And.intro (hP.below hba (Nat.le_refl _)) hb2)))
      clear hq hst hso hu hmo2 hmem hg hba hb2 hP
      go_upto_region 5 with fail
      obtain ⟨y0, x7, hP, hb2⟩ := HXa.out
      clear HXa q0 q1 hb1
      generalize wr.heap.size = s7 at *
      generalize World.alloc _ _ = wa at *
      have c0 := y0.cell 0 rfl; have c1 := y0.cell 1 rfl; have c2 := y0.cell 2 rfl
      have d0 := x7.cell 0 rfl; have d1 := x7.cell 1 rfl
      go_wp2
      clear c0 c1 c2 d0 d1
      go_loopw [5, 28] (fun v5 v28 wr => ∃ j : Nat, j ≤ q ∧ v28 = .int .i64 (j : Int) ∧ v5 = .int .i64 (u + aloneP mo (ps.take j)) ∧ Below wa.heap.size wa wr) (fun _ v28 _ => q - (intOf v28).toNat)
      case atStart => exact ⟨0, Nat.zero_le _, rfl, by simp [aloneP], Below.refl _ _⟩
      case round =>
        obtain ⟨j, hj, rfl, rfl, hb3⟩ := hrel
        by_cases hltj : j < q
        · obtain ⟨b2, off2, x, y, rfl, hbl2, q0, q1, hx1, hy1, hg, _⟩ := (hP.below hb3 (Nat.le_refl _)).at (k := j) (by rw [← HQ.out]; exact hltj)
          have hpct := HSO.out.pct _ (List.mem_of_getElem? hg.out)
          simp only at hpct
          have hjI : (j : Int) < q := by omega
          have hj0 : (0 : Int) ≤ (j : Int) := by omega
          have hsn := aloneP_snoc mo (ps.take j) (x, y)
          rw [← take_snoc hg.out] at hsn
          have h3 : 0 ≤ mo * y := Int.mul_nonneg hmo.1 (by omega)
          have h4 : mo * y ≤ 99980001 * 100 := Int.mul_le_mul hmo.2 hpct.2 (by omega) (by omega)
          have hpr := aloneP_rng hmo.1 (ps := ps.take j) (fun q hq => HSO.out.pct q (List.mem_of_mem_take hq))
          have hsp := (sumP_rng (ps := ps.take j) (fun q hq => HSO.out.pct q (List.mem_of_mem_take hq)))
          rw [List.length_take] at hsp
          have h5 : mo * sumP (ps.take j) ≤ 99980001 * 100000 := Int.mul_le_mul hmo.2 (by omega) hsp.1 (by omega)
          simp only at hsn
          obtain ⟨t, ht⟩ : ∃ t, t = mo * y := ⟨_, rfl⟩
          rw [← ht] at hsn h3 h4
          have hd100 := quo100_eq h3
          obtain ⟨d, hd⟩ : ∃ d, d = t / 100 := ⟨_, rfl⟩
          rw [← hd] at hd100 hsn
          obtain ⟨z, hz⟩ : ∃ z, z = aloneP mo (ps.take j) := ⟨_, rfl⟩
          rw [← hz] at hsn hpr ⊢
          have ew1 : IntKind.i64.wrap (mo * y) = t := by rw [← ht]; exact IntWalk.i64_in _ (by omega)
          have ew2 : IntKind.i64.wrap d = d := IntWalk.i64_in _ (by omega)
          have ew3 : IntKind.i64.wrap (u + z + d) = u + z + d := IntWalk.i64_in _ (by omega)
          have HSN := hid hsn
          have hba := below_one (w := wr) (.cells #[.int .i64 x, .int .i64 y] 53)
          have HXa := hid (And.intro (Bx.new wr #[.int .i64 x, .int .i64 y] 53) (hb3.trans (hba.mono hb3.size)))
          clear hsn hba ht hd hz hsp h5 hpr hg h3 h4 hb3
          go_upto_region 9 with fail
          obtain ⟨x10, hb3⟩ := HXa.out
          clear HXa q0 q1
          generalize wr.heap.size = s10 at *
          generalize World.alloc _ _ = wb at *
          have f0 := x10.cell 0 rfl; have f1 := x10.cell 1 rfl
          go_wp2
          go_roundw
          case rel => exact ⟨j + 1, by omega, by simp, by rw [HSN.out, ← Int.add_assoc], hb3⟩
          case measure => simp [intOf]; omega
        · have hjq : j = q := by omega
          have hjI : ¬ (j : Int) < q := by omega
          have ht : ps.take j = ps := by rw [hjq, HQ.out, List.take_length]
          rw [ht, ← HST.out]
          have hb4 := hb2.trans (hb3.mono hb2.size)
          clear ht
          go_wp2
          go_roundw
          case rel => exact ⟨k + 1, by omega, by simp, rfl, hb4⟩
          case measure => simp [intOf]; omega
    · have hkm : k = m := by omega
      have hkI : ¬ (k : Int) < m := by omega
      have ht : S.take k = S := by rw [hkm, HM.out, List.take_length]
      rw [ht]
      have hb2 := hb.trans (hb1.mono hb.size)
      clear ht hkm
      go_wp2
      go_ret
      exact ⟨rfl, hb2⟩
end Go.Proofs.Ytakodllejndfeaa
