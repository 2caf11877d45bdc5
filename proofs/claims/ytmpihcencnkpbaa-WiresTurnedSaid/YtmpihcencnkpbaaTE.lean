import Derived.Test.YtmpihcencnkpbaaTD
/-! The reference's Check; which boxes a statement examines. -/
namespace Go.Proofs.Ytmpihcencnkpbaa
set_option linter.unusedSimpArgs false
set_option linter.unusedVariables false
open Go Go.RowKit

set_option maxRecDepth 100000 in
set_option maxHeartbeats 1000000 in
theorem IsButton_any (L N : Int) (aP : Option Addr) (cP : Nat) (P : List F3) (F : Int) (l n : Int) (w : World) : Calls Try.prog 44 #[.agg #[.int .i64 L, .int .i64 N, .slice aP P.length cP, .int .i64 F], .int .i64 l, .int .i64 n] w fun e w' => e = .returned (.bool (prB L N l n)) ∧ Below w.heap.size w w' := by
  obtain ⟨W, hW, hb, _, x0⟩ := boxes1 w #[.int .i64 L, .int .i64 N, .slice aP P.length cP, .int .i64 F] 24
  have h1 := within_any 0 l (w64 (L - 1)) W
  have h2 := within_any 0 n (w64 (N - 1)) W
  have e1 : IntKind.i64.wrap (L - 1) = w64 (L - 1) := rfl
  have e2 : IntKind.i64.wrap (N - 1) = w64 (N - 1) := rfl
  unfold prB
  generalize w64 (L - 1) = m1 at *
  generalize w64 (N - 1) = m2 at *
  generalize fromI 0 l m1 = r1 at *
  generalize fromI 0 n m2 = r2 at *
  have c0 := x0.cell 0 rfl; have c1 := x0.cell 1 rfl; have c2 := x0.cell 2 rfl; have c3 := x0.cell 3 rfl
  cases r1
  · go_enter Try.func44, Try.ntmps44
    go_wp2_with fail
    refine h1.mono ?_
    rintro e W1 ⟨rfl, rfl⟩
    clear hW x0
    go_wp2
    go_ret
    exact ⟨rfl, hb⟩
  · go_enter Try.func44, Try.ntmps44
    go_wp2_with fail
    refine h1.mono ?_
    rintro e W1 ⟨rfl, rfl⟩
    clear hW x0
    go_wp2_with fail
    refine h2.mono ?_
    rintro e W1 ⟨rfl, rfl⟩
    go_wp2
    go_ret
    exact ⟨ret_bool (by simp), hb⟩

theorem vB_noF {L N F : Int} {P : List F3} (h : fromI 0 F 3 = false) : vB L N P F = false := by unfold vB; rw [h]; simp
theorem vB_all2 {L N F : Int} {P : List F3} (h : sizB L N P.length = true) (hf : fromI 0 F 3 = true) (ha : P.all (pG L N) = true) : vB L N P F = true := by rw [vB_all h ha, hf]
/-- The error of a box alone. -/
def ckE (L N : Int) (P : List F3) (F : Int) : Int := if vB L N P F then 0 else 110
theorem ckE_chE (L N : Int) (P : List F3) (F : Int) : chE L N P F true = ckE L N P F := by unfold chE ckE; simp

set_option maxRecDepth 100000 in
set_option maxHeartbeats 4000000 in
theorem rCheck_any (L N : Int) (aP : Option Addr) (cP : Nat) (P : List F3) (F : Int) (w : World) (hX : P.length ≤ 1000 → Fz w aP P) (hl : P.length ≤ 9223372036854775807) : Calls Try.prog 17 #[.agg #[.int .i64 L, .int .i64 N, .slice aP P.length cP, .int .i64 F]] w fun e w' => e = .returned (.int .i64 (ckE L N P F)) ∧ Below w.heap.size w w' := by
  obtain ⟨W, hW, hb, _, x0⟩ := boxes1 w #[.int .i64 L, .int .i64 N, .slice aP P.length cP, .int .i64 F] 24
  have HL := fun h => vB_len (L := L) (N := N) (P := P) (F := F) h
  have HF := fun h => vB_noF (L := L) (N := N) (P := P) (F := F) h
  have HN := fun x hx h => vB_no (L := L) (N := N) (P := P) (F := F) (x := x) hx h
  have HA := fun h hf ha => vB_all2 (L := L) (N := N) (P := P) (F := F) h hf ha
  have hs0 : sizB L N P.length = ((fromI 1 L 5 && fromI 1 N 5) && decide (P.length ≤ 8)) := rfl
  have hR0 : Hid (vB L N P F = false → ckE L N P F = 110) := hid fun h => by unfold ckE; rw [h]; rfl
  have hR1 : Hid (vB L N P F = true → ckE L N P F = 0) := hid fun h => by unfold ckE; rw [h]; rfl
  generalize ckE L N P F = r at *
  generalize vB L N P F = v at *
  obtain ⟨n, hn⟩ : ∃ n, n = P.length := ⟨_, rfl⟩
  rw [← hn] at hl HL HA x0 hW hX hs0
  rw [← hn]
  have HLN := hid hn
  clear hn
  have hfl := within_any 1 L 5 W
  have hfn := within_any 1 N 5 W
  have hff := within_any 0 F 3 W
  have c0 := x0.cell 0 rfl; have c1 := x0.cell 1 rfl; have c2 := x0.cell 2 rfl; have c3 := x0.cell 3 rfl
  obtain ⟨r1, hr1⟩ : ∃ r1, r1 = fromI 1 L 5 := ⟨_, rfl⟩
  obtain ⟨r2, hr2⟩ : ∃ r2, r2 = fromI 1 N 5 := ⟨_, rfl⟩
  obtain ⟨r3, hr3⟩ : ∃ r3, r3 = fromI 0 F 3 := ⟨_, rfl⟩
  rw [← hr1] at hfl hs0
  rw [← hr2] at hfn hs0
  rw [← hr3] at hff HF HA
  cases r1
  · have HR := hid (hR0.out (HL (by rw [hs0]; rfl)))
    clear HL HA HN HF hX hs0 hr1 hr2 hr3 hR0 hR1
    go_enter Try.func17, Try.ntmps17
    go_wp2_with fail
    refine hfl.mono ?_
    rintro e W1 ⟨rfl, rfl⟩
    clear hW
    go_wp2
    go_ret
    exact ⟨ret_int (by rw [HR.out]), hb⟩
  · cases r2
    · have HR := hid (hR0.out (HL (by rw [hs0]; rfl)))
      clear HL HA HN HF hX hs0 hr1 hr2 hr3 hR0 hR1
      go_enter Try.func17, Try.ntmps17
      go_wp2_with fail
      refine hfl.mono ?_
      rintro e W1 ⟨rfl, rfl⟩
      clear hW
      go_wp2_with fail
      refine hfn.mono ?_
      rintro e W1 ⟨rfl, rfl⟩
      go_wp2
      go_ret
      exact ⟨ret_int (by rw [HR.out]), hb⟩
    · by_cases h8 : n ≤ 8
      · have h8I : (n : Int) ≤ 8 := by omega
        cases r3
        · have HR := hid (hR0.out (HF rfl))
          clear HL HA HN HF hX hs0 hr1 hr2 hr3 hR0 hR1 h8
          go_enter Try.func17, Try.ntmps17
          go_wp2_with fail
          refine hfl.mono ?_
          rintro e W1 ⟨rfl, rfl⟩
          clear hW
          go_wp2_with fail
          refine hfn.mono ?_
          rintro e W1 ⟨rfl, rfl⟩
          go_wp2_with fail
          refine hff.mono ?_
          rintro e W1 ⟨rfl, rfl⟩
          go_wp2
          go_ret
          exact ⟨ret_int (by rw [HR.out]), hb⟩
        · replace HA := fun ha => hR1.out (HA (by rw [hs0, decide_eq_true h8]; rfl) rfl ha)
          replace HN := fun x hx h => hR0.out (HN x hx h)
          have hX1 := (hX (by omega)).below hb (Nat.le_refl _)
          have em : IntKind.i64.wrap (L * N) = w64 (L * N) := rfl
          have em2 : IntKind.i64.wrap (w64 (L * N) - 1) = w64 (w64 (L * N) - 1) := rfl
          have HPG : Hid (∀ x : F3, pG L N x = (prB L N x.k x.a && fromI (-1) x.b (w64 (w64 (L * N) - 1)))) := hid fun _ => rfl
          generalize w64 (w64 (L * N) - 1) = m2 at *
          generalize w64 (L * N) = m1 at *
          clear HL HF hX hs0 hr1 hr2 hr3 hR0 hR1
          go_enter Try.func17, Try.ntmps17
          go_wp2_with fail
          refine hfl.mono ?_
          rintro e W1 ⟨rfl, rfl⟩
          clear hW
          go_wp2_with fail
          refine hfn.mono ?_
          rintro e W1 ⟨rfl, rfl⟩
          go_wp2_with fail
          refine hff.mono ?_
          rintro e W1 ⟨rfl, rfl⟩
          go_wp2
          clear c0 c1 c2 c3
          go_loopw [3, 4] (fun v3 v4 wr => ∃ k : Nat, k ≤ n ∧ v3 = .int .i64 (k : Int) ∧ Hid ((P.take k).all (pG L N) = true) ∧ Below W.heap.size W wr) (fun v3 _ _ => n - (intOf v3).toNat)
          case atStart => exact ⟨0, Nat.zero_le _, rfl, hid rfl, Below.refl _ _⟩
          case round =>
            obtain ⟨k, hk, rfl, HK, hb1⟩ := hrel
            have xr := x0.below hb1
            by_cases hlt : k < n
            · have hXr := hX1.below hb1 (Nat.le_refl _)
              obtain ⟨b, off, x, rfl, hbl, ⟨q0, q1, q2⟩, _, hmem, _, _, htk⟩ := hXr.at (k := k) (by rw [← HLN.out]; exact hlt)
              have hkI : (k : Int) < n := by omega
              have hk0 : (0 : Int) ≤ (k : Int) := by omega
              have hno := HN x hmem
              have hip := fun v => IsButton_any L N (some ⟨b, off, none⟩) cP P F x.k x.a v
              rw [← HLN.out] at hip
              have hif := fun v => within_any (-1) x.b m2 v
              rw [HPG.out x] at hno
              have HGx := hid (HPG.out x)
              generalize prB L N x.k x.a = g1 at *
              generalize fromI (-1) x.b m2 = g2 at *
              have hba := below_one (w := wr) (.cells #[.int .i64 x.k, .int .i64 x.a, .int .i64 x.b] 58)
              have hb2 := hb1.trans (hba.mono hb1.size)
              have x1 := Bx.new wr #[.int .i64 x.k, .int .i64 x.a, .int .i64 x.b] 58
              have x0r := xr.below hba
              have HXa := hid (And.intro hb2 (And.intro x1 x0r))
              have c0 := xr.cell 0 rfl; have c1 := xr.cell 1 rfl; have c2 := xr.cell 2 rfl; have c3 := xr.cell 3 rfl
              clear hb1 hba hb2 x1 x0r xr hmem HN hXr
              go_upto_region 7 with fail
              obtain ⟨hb2, x1, x0r⟩ := HXa.out
              clear HXa c0 c1 c2 c3
              generalize wr.heap.size = sa at *
              generalize World.alloc _ _ = Va at *
              have c0 := x0r.cell 0 rfl; have c1 := x0r.cell 1 rfl; have c2 := x0r.cell 2 rfl; have c3 := x0r.cell 3 rfl
              have d0 := x1.cell 0 rfl; have d1 := x1.cell 1 rfl; have d2 := x1.cell 2 rfl
              cases g1
              · have HR := hid (hno rfl)
                clear hno htk HA HK
                go_wp2_with fail
                refine (hip _).mono ?_
                rintro e V1 ⟨rfl, hb3⟩
                replace hb2 := hb2.trans (hb3.mono hb2.size)
                replace hb := hb.trans (hb2.mono hb.size)
                clear q0 q1 q2 hip hif c0 c1 c2 c3 d0 d1 d2 x0r x1 hb3
                go_wp2
                go_ret
                exact ⟨ret_int (by rw [HR.out]), hb⟩
              · cases g2
                · have HR := hid (hno rfl)
                  clear hno htk HA HK
                  go_wp2_with fail
                  refine (hip _).mono ?_
                  rintro e V1 ⟨rfl, hb3⟩
                  replace hb2 := hb2.trans (hb3.mono hb2.size)
                  replace hb := hb.trans (hb2.mono hb.size)
                  replace x0r := x0r.below hb3
                  replace x1 := x1.below hb3
                  clear q0 q1 q2 hip c0 c1 c2 c3 d0 d1 d2 hb3
                  have c0 := x0r.cell 0 rfl; have c1 := x0r.cell 1 rfl; have c2 := x0r.cell 2 rfl; have c3 := x0r.cell 3 rfl
                  have d0 := x1.cell 0 rfl; have d1 := x1.cell 1 rfl; have d2 := x1.cell 2 rfl
                  go_wp2_with fail
                  refine (hif _).mono ?_
                  rintro e V1 ⟨rfl, rfl⟩
                  go_wp2
                  go_ret
                  exact ⟨ret_int (by rw [HR.out]), hb⟩
                · have HK2 := hid (show (P.take (k + 1)).all (pG L N) = true by rw [htk.out]; exact all_snoc3 HK.out (by rw [HGx.out]; rfl))
                  clear hno htk HK HA
                  go_wp2_with fail
                  refine (hip _).mono ?_
                  rintro e V1 ⟨rfl, hb3⟩
                  replace hb2 := hb2.trans (hb3.mono hb2.size)
                  replace x0r := x0r.below hb3
                  replace x1 := x1.below hb3
                  clear q0 q1 q2 hip c0 c1 c2 c3 d0 d1 d2 hb3
                  have c0 := x0r.cell 0 rfl; have c1 := x0r.cell 1 rfl; have c2 := x0r.cell 2 rfl; have c3 := x0r.cell 3 rfl
                  have d0 := x1.cell 0 rfl; have d1 := x1.cell 1 rfl; have d2 := x1.cell 2 rfl
                  go_wp2_with fail
                  refine (hif _).mono ?_
                  rintro e V1 ⟨rfl, rfl⟩
                  clear c0 c1 c2 c3 d0 d1 d2 x0r x1 hif
                  go_wp2
                  go_roundw
                  case rel => exact ⟨k + 1, by omega, by simp, HK2, hb2⟩
                  case measure => simp [intOf]; omega
            · have hkn : k = n := by omega
              have hall : P.all (pG L N) = true := by
                have := HK.out
                rwa [hkn, HLN.out, List.take_length] at this
              have HR := hid (HA hall)
              have hkI : ¬ (k : Int) < n := by omega
              have hbr := hb.trans (hb1.mono hb.size)
              have c0 := xr.cell 0 rfl; have c1 := xr.cell 1 rfl; have c2 := xr.cell 2 rfl; have c3 := xr.cell 3 rfl
              clear hall hkn HA HN HK hX1 x0 xr
              go_wp2
              go_ret
              exact ⟨ret_int (by rw [HR.out]), hbr⟩
      · have h8I : (8 : Int) < (n : Int) := by omega
        have HR := hid (hR0.out (HL (by rw [hs0, decide_eq_false h8]; rfl)))
        clear HL HA HN HF hX hs0 hr1 hr2 hr3 h8 hR0 hR1
        go_enter Try.func17, Try.ntmps17
        go_wp2_with fail
        refine hfl.mono ?_
        rintro e W1 ⟨rfl, rfl⟩
        clear hW
        go_wp2_with fail
        refine hfn.mono ?_
        rintro e W1 ⟨rfl, rfl⟩
        go_wp2
        go_ret
        exact ⟨ret_int (by rw [HR.out]), hb⟩

/-- A box with far too many presses, or a valid one with too many buttons or faults to be examined. -/
def farB (L N : Int) (P : List F3) (F : Int) : Bool := decide (40 < P.length) || (vB L N P F && (decide (4 < max L N) || decide (2 < F)))
def rdB (L N : Int) (P : List F3) (F : Int) : Bool := !farB L N P F && vB L N P F
theorem rdB_ok {L N F : Int} {P : List F3} (h : rdB L N P F = true) : vB L N P F = true ∧ L ≤ 4 ∧ N ≤ 4 ∧ F ≤ 2 := by
  unfold rdB at h
  rw [Bool.and_eq_true] at h
  obtain ⟨h1, h2⟩ := h
  refine ⟨h2, ?_⟩
  unfold farB at h1
  rw [h2] at h1
  simp only [Bool.true_and, Bool.not_eq_true', Bool.or_eq_false_iff, decide_eq_false_iff_not] at h1
  omega
set_option maxRecDepth 100000 in
set_option maxHeartbeats 4000000 in
theorem Far_any (L N : Int) (aP : Option Addr) (cP : Nat) (P : List F3) (F : Int) (w : World) (hP : Pz w aP P) : Calls Try.prog 24 #[.agg #[.int .i64 L, .int .i64 N, .slice aP P.length cP, .int .i64 F]] w fun e w' => e = .returned (.bool (farB L N P F)) ∧ Below w.heap.size w w' := by
  obtain ⟨W, hW, hb, _, x0⟩ := boxes1 w #[.int .i64 L, .int .i64 N, .slice aP P.length cP, .int .i64 F] 24
  replace hP := hP.below hb (Nat.le_refl _)
  have hck := rCheck_any L N aP cP P F W hP.2 hP.1
  have hl := hP.1
  unfold farB
  unfold ckE at hck
  generalize vB L N P F = v at *
  obtain ⟨n, hn⟩ : ∃ n, n = P.length := ⟨_, rfl⟩
  rw [← hn] at hl hck x0 hW ⊢
  clear hP hn
  have c0 := x0.cell 0 rfl; have c1 := x0.cell 1 rfl; have c2 := x0.cell 2 rfl; have c3 := x0.cell 3 rfl
  by_cases h40 : 40 < n
  · have h40I : (40 : Int) < (n : Int) := by omega
    go_enter Try.func24, Try.ntmps24
    go_wp2
    go_ret
    exact ⟨ret_bool (by simp [h40]), hb⟩
  · have h40I : (n : Int) ≤ 40 := by omega
    cases v
    · simp only [Bool.false_eq_true, if_false] at hck
      go_enter Try.func24, Try.ntmps24
      go_wp2_with fail
      refine hck.mono ?_
      rintro e W1 ⟨rfl, hb1⟩
      replace hb := hb.trans (hb1.mono hb.size)
      clear hW hb1 c0 c1 c2 c3 x0 hck
      go_wp2
      go_ret
      exact ⟨ret_bool (by simp [h40]; omega), hb⟩
    · simp only [if_true] at hck
      by_cases h4 : 4 < max L N
      · go_enter Try.func24, Try.ntmps24
        go_wp2_with fail
        refine hck.mono ?_
        rintro e W1 ⟨rfl, hb1⟩
        replace hb := hb.trans (hb1.mono hb.size)
        replace x0 := x0.below hb1
        clear hW hb1 c0 c1 c2 c3 hck
        have c0 := x0.cell 0 rfl; have c1 := x0.cell 1 rfl; have c2 := x0.cell 2 rfl; have c3 := x0.cell 3 rfl
        clear x0
        go_wp2
        go_ret
        exact ⟨ret_bool (by simp [h40, h4]), hb⟩
      · have h4' : max L N ≤ 4 := by omega
        by_cases h2 : 2 < F
        · go_enter Try.func24, Try.ntmps24
          go_wp2_with fail
          refine hck.mono ?_
          rintro e W1 ⟨rfl, hb1⟩
          replace hb := hb.trans (hb1.mono hb.size)
          replace x0 := x0.below hb1
          clear hW hb1 c0 c1 c2 c3 hck
          have c0 := x0.cell 0 rfl; have c1 := x0.cell 1 rfl; have c2 := x0.cell 2 rfl; have c3 := x0.cell 3 rfl
          clear x0
          go_wp2
          go_ret
          exact ⟨ret_bool (by simp [h40, h4, h2]), hb⟩
        · have h2' : F ≤ 2 := by omega
          go_enter Try.func24, Try.ntmps24
          go_wp2_with fail
          refine hck.mono ?_
          rintro e W1 ⟨rfl, hb1⟩
          replace hb := hb.trans (hb1.mono hb.size)
          replace x0 := x0.below hb1
          clear hW hb1 c0 c1 c2 c3 hck
          have c0 := x0.cell 0 rfl; have c1 := x0.cell 1 rfl; have c2 := x0.cell 2 rfl; have c3 := x0.cell 3 rfl
          clear x0
          go_wp2
          go_ret
          exact ⟨ret_bool (by simp [h40, h4, h2]; omega), hb⟩
set_option maxRecDepth 100000 in
set_option maxHeartbeats 2000000 in
theorem ready_any (L N : Int) (aP : Option Addr) (cP : Nat) (P : List F3) (F : Int) (w : World) (hP : Pz w aP P) : Calls Try.prog 42 #[.agg #[.int .i64 L, .int .i64 N, .slice aP P.length cP, .int .i64 F]] w fun e w' => e = .returned (.bool (rdB L N P F)) ∧ Below w.heap.size w w' := by
  obtain ⟨W, hW, hb, _, x0⟩ := boxes1 w #[.int .i64 L, .int .i64 N, .slice aP P.length cP, .int .i64 F] 24
  replace hP := hP.below hb (Nat.le_refl _)
  have hfa := Far_any L N aP cP P F W hP
  have hck := fun V (h : Pz V aP P) => rCheck_any L N aP cP P F V h.2 h.1
  unfold rdB
  unfold ckE at hck
  generalize farB L N P F = f at *
  generalize vB L N P F = v at *
  have c0 := x0.cell 0 rfl; have c1 := x0.cell 1 rfl; have c2 := x0.cell 2 rfl; have c3 := x0.cell 3 rfl
  cases f
  · go_enter Try.func42, Try.ntmps42
    go_wp2_with fail
    refine hfa.mono ?_
    rintro e W1 ⟨rfl, hb1⟩
    replace hb := hb.trans (hb1.mono hb.size)
    replace x0 := x0.below hb1
    replace hP := hP.below hb1 (Nat.le_refl _)
    clear hW hb1 c0 c1 c2 c3 hfa
    have c0 := x0.cell 0 rfl; have c1 := x0.cell 1 rfl; have c2 := x0.cell 2 rfl; have c3 := x0.cell 3 rfl
    go_wp2_with fail
    refine (hck _ hP).mono ?_
    rintro e W2 ⟨rfl, hb1⟩
    replace hb := hb.trans (hb1.mono hb.size)
    clear hb1 c0 c1 c2 c3 x0 hP hck
    cases v
    all_goals
      simp only [Bool.false_eq_true, if_false, if_true]
      go_wp2
      go_ret
      exact ⟨rfl, hb⟩
  · go_enter Try.func42, Try.ntmps42
    go_wp2_with fail
    refine hfa.mono ?_
    rintro e W1 ⟨rfl, hb1⟩
    replace hb := hb.trans (hb1.mono hb.size)
    clear hW hb1 c0 c1 c2 c3 hfa x0
    go_wp2
    go_ret
    exact ⟨rfl, hb⟩
def knB (e : Int) : Bool := e == 0 || e == 3
set_option maxRecDepth 100000 in
set_option maxHeartbeats 1000000 in
theorem isKnown_any (x : Int) (w : World) : Calls Try.prog 48 #[.int .i64 x] w fun e w' => e = .returned (.bool (knB x)) ∧ w = w' := by
  unfold knB
  cases h1 : (x == 0)
  · cases h2 : (x == 3)
    all_goals
      go_enter Try.func48, Try.ntmps48
      go_wp2
      go_ret
      exact ⟨rfl, rfl⟩
  · go_enter Try.func48, Try.ntmps48
    go_wp2
    go_ret
    exact ⟨rfl, rfl⟩
end Go.Proofs.Ytmpihcencnkpbaa
