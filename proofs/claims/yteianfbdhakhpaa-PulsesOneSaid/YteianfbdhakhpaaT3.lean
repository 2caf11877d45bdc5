import Derived.Test.YteianfbdhakhpaaT2
/-! Whether a train is valid. -/
namespace Go.Proofs.Yteianfbdhakhpaa
set_option linter.unusedSimpArgs false
set_option linter.unusedVariables false
open Go Go.RowKit

set_option maxRecDepth 100000 in
set_option maxHeartbeats 3000000 in
theorem areDistances_any (aT : Option Addr) (cT : Nat) (X : Pu) (w : World) : Calls Try.prog 76 #[.agg #[.int .i64 X.l, .int .i64 X.n, .int .i64 X.pi, .int .i64 X.sl, .int .i64 X.ga, .int .i64 X.pa, .int .i64 X.sp, .slice aT X.ts.length cT]] w fun e w' => e = .returned (.bool (distB X)) ∧ Below w.heap.size w w' := by
  obtain ⟨W, hW, hb, _, x0⟩ := boxes1 w #[.int .i64 X.l, .int .i64 X.n, .int .i64 X.pi, .int .i64 X.sl, .int .i64 X.ga, .int .i64 X.pa, .int .i64 X.sp, .slice aT X.ts.length cT] 24
  have c0 := x0.cell 0 rfl; have c1 := x0.cell 1 rfl; have c2 := x0.cell 2 rfl; have c3 := x0.cell 3 rfl; have c4 := x0.cell 4 rfl; have c5 := x0.cell 5 rfl; have c6 := x0.cell 6 rfl; have c7 := x0.cell 7 rfl
  have HD := hid (show distB X = (fromI 1 X.pi 99 && (fromI 0 X.sl (X.pi - 1) && (decide (X.pi + X.sl < X.ga) && (decide (X.ga < X.pa) && decide (X.pa ≤ 999))))) from rfl)
  generalize distB X = r at *
  generalize X.ts.length = n at *
  have h1 := fun V => isFrom_any 1 X.pi 99 V
  have h2 := fun V => isFrom_any 0 X.sl (X.pi - 1) V
  obtain ⟨l, nn, pi, sl, ga, pa, sp, ts⟩ := X
  simp only at *
  cases hb1 : fromI 1 pi 99 with
  | false =>
    have HR := hid (show r = false by rw [HD.out, hb1]; rfl)
    rw [hb1] at h1
    clear hb1 HD h2
    go_enter Try.func76, Try.ntmps76
    go_wp2_with fail
    refine (h1 _).mono ?_
    rintro e V1 ⟨rfl, rfl⟩
    go_wp2
    go_ret
    exact ⟨ret_bool HR.out.symm, hb⟩
  | true =>
    have hr1 : 1 ≤ pi ∧ pi ≤ 99 := by simpa [fromI] using hb1
    have ew : IntKind.i64.wrap (pi - 1) = pi - 1 := IntWalk.i64_in _ (by omega)
    rw [hb1] at h1
    cases hb2 : fromI 0 sl (pi - 1) with
    | false =>
      have HR := hid (show r = false by rw [HD.out, hb1, hb2]; rfl)
      rw [hb2] at h2
      clear hb1 hb2 HD
      go_enter Try.func76, Try.ntmps76
      go_wp2_with fail
      refine (h1 _).mono ?_
      rintro e V1 ⟨rfl, rfl⟩
      go_wp2_with fail
      refine (h2 _).mono ?_
      rintro e V1 ⟨rfl, rfl⟩
      go_wp2
      go_ret
      exact ⟨ret_bool HR.out.symm, hb⟩
    | true =>
      have hr2 : 0 ≤ sl ∧ sl ≤ pi - 1 := by simpa [fromI] using hb2
      have ew2 : IntKind.i64.wrap (pi + sl) = pi + sl := IntWalk.i64_in _ (by omega)
      rw [hb2] at h2
      by_cases h3 : pi + sl < ga
      · by_cases h4 : ga < pa
        · by_cases h5 : pa ≤ 999
          · skip
            have HR := hid (show r = true by rw [HD.out, hb1, hb2]; simp [h3, h4, h5])
            clear hb1 hb2 HD
            go_enter Try.func76, Try.ntmps76
            go_wp2_with fail
            refine (h1 _).mono ?_
            rintro e V1 ⟨rfl, rfl⟩
            go_wp2_with fail
            refine (h2 _).mono ?_
            rintro e V1 ⟨rfl, rfl⟩
            go_wp2
            go_ret
            exact ⟨ret_bool (by rw [HR.out] <;> simp [h3, h4, h5]), hb⟩
          · skip
            have HR := hid (show r = false by rw [HD.out, hb1, hb2]; simp [h3, h4, h5])
            clear hb1 hb2 HD
            go_enter Try.func76, Try.ntmps76
            go_wp2_with fail
            refine (h1 _).mono ?_
            rintro e V1 ⟨rfl, rfl⟩
            go_wp2_with fail
            refine (h2 _).mono ?_
            rintro e V1 ⟨rfl, rfl⟩
            go_wp2
            go_ret
            exact ⟨ret_bool (by rw [HR.out] <;> simp [h3, h4, h5]), hb⟩
        · skip
          have HR := hid (show r = false by rw [HD.out, hb1, hb2]; simp [h3, h4])
          clear hb1 hb2 HD
          go_enter Try.func76, Try.ntmps76
          go_wp2_with fail
          refine (h1 _).mono ?_
          rintro e V1 ⟨rfl, rfl⟩
          go_wp2_with fail
          refine (h2 _).mono ?_
          rintro e V1 ⟨rfl, rfl⟩
          go_wp2
          go_ret
          exact ⟨ret_bool (by rw [HR.out] <;> simp [h3, h4]), hb⟩
      · skip
        have HR := hid (show r = false by rw [HD.out, hb1, hb2]; simp [h3])
        clear hb1 hb2 HD
        go_enter Try.func76, Try.ntmps76
        go_wp2_with fail
        refine (h1 _).mono ?_
        rintro e V1 ⟨rfl, rfl⟩
        go_wp2_with fail
        refine (h2 _).mono ?_
        rintro e V1 ⟨rfl, rfl⟩
        go_wp2
        go_ret
        exact ⟨ret_bool (by rw [HR.out] <;> simp [h3]), hb⟩

theorem timesB_no {ts : List Int} {k : Nat} (hk : k < ts.length) (h : timeOk ts k = false) : timesB ts = false := by
  unfold timesB; rw [all_range_no _ hk h]; rfl
set_option maxRecDepth 100000 in
set_option maxHeartbeats 3000000 in
theorem areTimes_any (a : Option Addr) (c : Nat) (l : List Int) (w : World) (hI : Ints w a l) : Calls Try.prog 77 #[.slice a l.length c] w fun e w' => e = .returned (.bool (timesB l)) ∧ w = w' := by
  have hlen := hI.len
  have H1 := hid (show ∀ k, k < l.length → timeOk l k = false → timesB l = false from fun k hk h => timesB_no hk h)
  have H2 := hid (show (List.range l.length).all (timeOk l) = true → timesB l = decide (l.length ≤ 24) from fun h => by unfold timesB; rw [h]; rfl)
  generalize timesB l = r at *
  obtain ⟨n, hn⟩ : ∃ n, n = l.length := ⟨_, rfl⟩
  rw [← hn] at hlen H1 H2 ⊢
  have HN := hid hn
  clear hn
  go_enter Try.func77, Try.ntmps77
  go_wp2
  go_loopw [3, 4, 7] (fun v3 v4 v7 wr => ∃ k : Nat, k ≤ n ∧ v7 = .int .i64 (k : Int) ∧ Hid ((List.range k).all (timeOk l) = true) ∧ wr = w) (fun _ _ v7 _ => n - (intOf v7).toNat)
  case atStart => exact ⟨0, Nat.zero_le _, rfl, hid rfl, rfl⟩
  case round =>
    obtain ⟨k, hk, rfl, HA, rfl⟩ := hrel
    by_cases hlt : k < n
    · obtain ⟨b, off, y, rfl, hbl, hc, hy1, hy2, hg, _⟩ := hI.at (k := k) (by rw [← HN.out]; exact hlt)
      have hkI : (k : Int) < n := by omega
      have hk0 : (0 : Int) ≤ (k : Int) := by omega
      have hyd : l.getD k 0 = y := by rw [List.getD_eq_getElem?_getD, hg.out]; rfl
      have hrow : timeOk l k = (fromI 0 y 99999 && (decide (k = 0) || decide (l.getD (k - 1) 0 < y))) := by unfold timeOk; rw [hyd]
      have hno := H1.out k hlt
      have h1 := isTime_any y wr
      cases hy : fromI 0 y 99999 with
      | false =>
        rw [hy] at h1 hrow
        have HR := hid (hno hrow)
        clear hno hrow hyd hg HA H2 hy
        go_wp2_with fail
        refine h1.mono ?_
        rintro e V1 ⟨rfl, rfl⟩
        go_wp2
        go_ret
        exact ⟨ret_bool HR.out.symm, rfl⟩
      | true =>
        rw [hy] at h1 hrow
        by_cases hk00 : k = 0
        · have HB := hid (show (List.range (k + 1)).all (timeOk l) = true by rw [all_range_succ, HA.out, hrow]; simp [hk00])
          have hjg : ¬ (k : Int) > 0 := by omega
          clear hno hrow hyd hg HA hy hk00
          go_wp2_with fail
          refine h1.mono ?_
          rintro e V1 ⟨rfl, rfl⟩
          go_wp2
          go_roundw
          case rel => exact ⟨k + 1, by omega, by simp, HB, trivial⟩
          case measure => simp [intOf]; omega
        · obtain ⟨j, hj⟩ : ∃ j, j = k - 1 := ⟨_, rfl⟩
          obtain ⟨b', off', z, eb, hbl', hc', hz1, hz2, hg', _⟩ := hI.at (k := j) (by rw [← HN.out]; omega)
          simp only [Option.some.injEq, Addr.mk.injEq, and_true] at eb
          obtain ⟨rfl, rfl⟩ := eb
          have hzd : l.getD (k - 1) 0 = z := by rw [← hj, List.getD_eq_getElem?_getD, hg'.out]; rfl
          rw [hzd] at hrow
          have hjI : (j : Int) < n := by omega
          have hj0 : (0 : Int) ≤ (j : Int) := by omega
          have hjg : (k : Int) > 0 := by omega
          have ewj : IntKind.i64.wrap ((k : Int) - 1) = (j : Int) := by rw [IntWalk.i64_in _ (by omega)]; omega
          by_cases hlt2 : z < y
          · have HB := hid (show (List.range (k + 1)).all (timeOk l) = true by rw [all_range_succ, HA.out, hrow]; simp [hlt2])
            clear hno hrow hyd hzd hg hg' HA hy hj hk00
            go_wp2_with fail
            refine h1.mono ?_
            rintro e V1 ⟨rfl, rfl⟩
            go_wp2
            go_roundw
            case rel => exact ⟨k + 1, by omega, by simp, HB, trivial⟩
            case measure => simp [intOf]; omega
          · have hle2 : y ≤ z := by omega
            have HR := hid (hno (by rw [hrow]; simp [hlt2, hk00]))
            clear hno hrow hyd hzd hg hg' HA hy H2 hj hk00
            go_wp2_with fail
            refine h1.mono ?_
            rintro e V1 ⟨rfl, rfl⟩
            go_wp2
            go_ret
            exact ⟨ret_bool HR.out.symm, rfl⟩
    · obtain rfl : k = n := by omega
      have HR := hid (H2.out HA.out)
      by_cases h24 : k ≤ 24
      · have h24I : (k : Int) ≤ 24 := by omega
        rw [decide_eq_true h24] at HR
        clear h24
        go_wp2
        go_ret
        exact ⟨ret_bool HR.out.symm, rfl⟩
      · have h24I : ¬ (k : Int) ≤ 24 := by omega
        rw [decide_eq_false h24] at HR
        clear h24
        go_wp2
        go_ret
        exact ⟨ret_bool HR.out.symm, rfl⟩

set_option maxRecDepth 100000 in
set_option maxHeartbeats 3000000 in
theorem valid_any (aT : Option Addr) (cT : Nat) (X : Pu) (w : World) (hX : Ints w aT X.ts) : Calls Try.prog 48 #[.agg #[.int .i64 X.l, .int .i64 X.n, .int .i64 X.pi, .int .i64 X.sl, .int .i64 X.ga, .int .i64 X.pa, .int .i64 X.sp, .slice aT X.ts.length cT]] w fun e w' => e = .returned (.bool (vB X)) ∧ Below w.heap.size w w' := by
  obtain ⟨W, hW, hb, _, x0⟩ := boxes1 w #[.int .i64 X.l, .int .i64 X.n, .int .i64 X.pi, .int .i64 X.sl, .int .i64 X.ga, .int .i64 X.pa, .int .i64 X.sp, .slice aT X.ts.length cT] 24
  have c0 := x0.cell 0 rfl; have c1 := x0.cell 1 rfl; have c2 := x0.cell 2 rfl; have c3 := x0.cell 3 rfl; have c4 := x0.cell 4 rfl; have c5 := x0.cell 5 rfl; have c6 := x0.cell 6 rfl; have c7 := x0.cell 7 rfl
  have h1 := fun V => isFrom_any 1 X.l 5 V
  have h2 := fun V => isFrom_any 1 X.n 5 V
  have h3 := fun V => areDistances_any aT cT X V
  have h4 := fun V => isFrom_any 0 X.sp 3 V
  have h5 := fun V (h : Below w.heap.size w V) => areTimes_any aT cT X.ts V (hX.below h (Nat.le_refl _))
  have HV := hid (show vB X = (fromI 1 X.l 5 && (fromI 1 X.n 5 && (distB X && (fromI 0 X.sp 3 && timesB X.ts)))) from rfl)
  generalize vB X = r at *
  generalize fromI 1 X.l 5 = b1 at *
  generalize fromI 1 X.n 5 = b2 at *
  generalize distB X = b3 at *
  generalize fromI 0 X.sp 3 = b4 at *
  generalize timesB X.ts = b5 at *
  clear hX
  generalize X.ts.length = n at *
  cases b1 with
  | false =>
    have HR := hid (show r = false by rw [HV.out]; rfl)
    clear HV
    go_enter Try.func48, Try.ntmps48
    go_wp2_with fail
    refine (h1 _).mono ?_
    rintro e V1 ⟨rfl, rfl⟩
    go_wp2
    go_ret
    exact ⟨ret_bool HR.out.symm, hb⟩
  | true =>
    cases b2 with
    | false =>
      have HR := hid (show r = false by rw [HV.out]; rfl)
      clear HV
      go_enter Try.func48, Try.ntmps48
      go_wp2_with fail
      refine (h1 _).mono ?_
      rintro e V1 ⟨rfl, rfl⟩
      go_wp2_with fail
      refine (h2 _).mono ?_
      rintro e V2 ⟨rfl, rfl⟩
      go_wp2
      go_ret
      exact ⟨ret_bool HR.out.symm, hb⟩
    | true =>
      cases b3 with
      | false =>
        have HR := hid (show r = false by rw [HV.out]; rfl)
        clear HV
        go_enter Try.func48, Try.ntmps48
        go_wp2_with fail
        refine (h1 _).mono ?_
        rintro e V1 ⟨rfl, rfl⟩
        go_wp2_with fail
        refine (h2 _).mono ?_
        rintro e V2 ⟨rfl, rfl⟩
        go_wp2_with fail
        refine (h3 _).mono ?_
        rintro e V3 ⟨rfl, hb3⟩
        clear c0 c1 c2 c3 c4 c5 c6 c7
        replace x0 := x0.below hb3
        have c0 := x0.cell 0 rfl; have c1 := x0.cell 1 rfl; have c2 := x0.cell 2 rfl; have c3 := x0.cell 3 rfl; have c4 := x0.cell 4 rfl; have c5 := x0.cell 5 rfl; have c6 := x0.cell 6 rfl; have c7 := x0.cell 7 rfl
        replace hb := hb.trans (hb3.mono hb.size)
        clear hb3
        go_wp2
        go_ret
        exact ⟨ret_bool HR.out.symm, hb⟩
      | true =>
        cases b4 with
        | false =>
          have HR := hid (show r = false by rw [HV.out]; rfl)
          clear HV
          go_enter Try.func48, Try.ntmps48
          go_wp2_with fail
          refine (h1 _).mono ?_
          rintro e V1 ⟨rfl, rfl⟩
          go_wp2_with fail
          refine (h2 _).mono ?_
          rintro e V2 ⟨rfl, rfl⟩
          go_wp2_with fail
          refine (h3 _).mono ?_
          rintro e V3 ⟨rfl, hb3⟩
          clear c0 c1 c2 c3 c4 c5 c6 c7
          replace x0 := x0.below hb3
          have c0 := x0.cell 0 rfl; have c1 := x0.cell 1 rfl; have c2 := x0.cell 2 rfl; have c3 := x0.cell 3 rfl; have c4 := x0.cell 4 rfl; have c5 := x0.cell 5 rfl; have c6 := x0.cell 6 rfl; have c7 := x0.cell 7 rfl
          replace hb := hb.trans (hb3.mono hb.size)
          clear hb3
          go_wp2_with fail
          refine (h4 _).mono ?_
          rintro e V4 ⟨rfl, rfl⟩
          go_wp2
          go_ret
          exact ⟨ret_bool HR.out.symm, hb⟩
        | true =>
          have HR := hid (show r = b5 by rw [HV.out]; simp)
          clear HV
          go_enter Try.func48, Try.ntmps48
          go_wp2_with fail
          refine (h1 _).mono ?_
          rintro e V1 ⟨rfl, rfl⟩
          go_wp2_with fail
          refine (h2 _).mono ?_
          rintro e V2 ⟨rfl, rfl⟩
          go_wp2_with fail
          refine (h3 _).mono ?_
          rintro e V3 ⟨rfl, hb3⟩
          clear c0 c1 c2 c3 c4 c5 c6 c7
          replace x0 := x0.below hb3
          have c0 := x0.cell 0 rfl; have c1 := x0.cell 1 rfl; have c2 := x0.cell 2 rfl; have c3 := x0.cell 3 rfl; have c4 := x0.cell 4 rfl; have c5 := x0.cell 5 rfl; have c6 := x0.cell 6 rfl; have c7 := x0.cell 7 rfl
          replace hb := hb.trans (hb3.mono hb.size)
          clear hb3
          go_wp2_with fail
          refine (h4 _).mono ?_
          rintro e V4 ⟨rfl, rfl⟩
          go_wp2_with fail
          refine (h5 _ hb).mono ?_
          rintro e V5 ⟨rfl, rfl⟩
          go_wp2
          go_ret
          exact ⟨ret_bool HR.out.symm, hb⟩
set_option maxRecDepth 100000 in
set_option maxHeartbeats 3000000 in
theorem Check_any (aT : Option Addr) (cT : Nat) (X : Pu) (w : World) (hX : Ints w aT X.ts) : Calls Try.prog 15 #[.agg #[.int .i64 X.l, .int .i64 X.n, .int .i64 X.pi, .int .i64 X.sl, .int .i64 X.ga, .int .i64 X.pa, .int .i64 X.sp, .slice aT X.ts.length cT]] w fun e w' => e = .returned (.int .i64 (if vB X = true then 0 else 130)) ∧ Below w.heap.size w w' := by
  obtain ⟨W, hW, hb, _, x0⟩ := boxes1 w #[.int .i64 X.l, .int .i64 X.n, .int .i64 X.pi, .int .i64 X.sl, .int .i64 X.ga, .int .i64 X.pa, .int .i64 X.sp, .slice aT X.ts.length cT] 24
  have c0 := x0.cell 0 rfl; have c1 := x0.cell 1 rfl; have c2 := x0.cell 2 rfl; have c3 := x0.cell 3 rfl; have c4 := x0.cell 4 rfl; have c5 := x0.cell 5 rfl; have c6 := x0.cell 6 rfl; have c7 := x0.cell 7 rfl
  have h1 := valid_any aT cT X W (hX.below hb (Nat.le_refl _))
  generalize vB X = r at *
  generalize X.ts.length = n at *
  clear x0
  cases r
  all_goals
    go_enter Try.func15, Try.ntmps15
    go_wp2_with fail
    refine h1.mono ?_
    rintro e V1 ⟨rfl, hb1⟩
    replace hb := hb.trans (hb1.mono hb.size)
    clear hW hb1 h1
    go_wp2
    go_ret
    exact ⟨rfl, hb⟩
def chkE (X : Pu) (o : Bool) : Int := if vB X = true then (if o = true then 0 else 1) else 130
set_option maxRecDepth 100000 in
set_option maxHeartbeats 3000000 in
theorem check_any (aT : Option Addr) (cT : Nat) (X : Pu) (o : Bool) (w : World) (hX : Ints w aT X.ts) : Calls Try.prog 51 #[.agg #[.int .i64 X.l, .int .i64 X.n, .int .i64 X.pi, .int .i64 X.sl, .int .i64 X.ga, .int .i64 X.pa, .int .i64 X.sp, .slice aT X.ts.length cT], .bool o] w fun e w' => e = .returned (.int .i64 (chkE X o)) ∧ Below w.heap.size w w' := by
  obtain ⟨W, hW, hb, _, x0⟩ := boxes1 w #[.int .i64 X.l, .int .i64 X.n, .int .i64 X.pi, .int .i64 X.sl, .int .i64 X.ga, .int .i64 X.pa, .int .i64 X.sp, .slice aT X.ts.length cT] 24
  have c0 := x0.cell 0 rfl; have c1 := x0.cell 1 rfl; have c2 := x0.cell 2 rfl; have c3 := x0.cell 3 rfl; have c4 := x0.cell 4 rfl; have c5 := x0.cell 5 rfl; have c6 := x0.cell 6 rfl; have c7 := x0.cell 7 rfl
  have h1 := valid_any aT cT X W (hX.below hb (Nat.le_refl _))
  unfold chkE
  generalize vB X = r at *
  generalize X.ts.length = n at *
  clear x0
  cases r <;> cases o
  all_goals
    go_enter Try.func51, Try.ntmps51
    go_wp2_with fail
    refine h1.mono ?_
    rintro e V1 ⟨rfl, hb1⟩
    replace hb := hb.trans (hb1.mono hb.size)
    clear hW hb1 h1
    go_wp2
    go_ret
    exact ⟨rfl, hb⟩
end Go.Proofs.Yteianfbdhakhpaa
