import Derived.Test.YtipdohpbilabiaaNC
import Derived.Test.YtipdohpbilabiaaM8
import Derived.Test.YtipdohpbilabiaaW2
/-! SwapsMore. -/
namespace Go.Proofs.Ytipdohpbilabiaa
set_option linter.unusedSimpArgs false
set_option linter.unusedVariables false
open Go Go.RowKit

theorem min2_run (x y : Int) (w : World) : (Builtin.min2 (.int .i64 x) (.int .i64 y)).run Try.prog w = .ok (.int .i64 (min x y)) w := by
  unfold Builtin.min2
  rcases Int.lt_or_le y x with h | h
  · simp [go_sem, h]; omega
  · simp [go_sem, show ¬ y < x by omega]; omega
theorem max2_run (x y : Int) (w : World) : (Builtin.max2 (.int .i64 x) (.int .i64 y)).run Try.prog w = .ok (.int .i64 (max x y)) w := by
  unfold Builtin.max2
  rcases Int.lt_or_le x y with h | h
  · simp [go_sem, h]; omega
  · simp [go_sem, show ¬ x < y by omega]; omega
theorem min4_run (a b c d : Int) (w : World) : (Builtin.min_ #[3, 3, 3, 3] 3 #[.int .i64 a, .int .i64 b, .int .i64 c, .int .i64 d]).run Try.prog w = .ok (.int .i64 (min (min (min a b) c) d)) w := by
  simp [Builtin.min_, min2_run, List.foldlM, go_sem]
theorem max4_run (a b c d : Int) (w : World) : (Builtin.max_ #[3, 3, 3, 3] 3 #[.int .i64 a, .int .i64 b, .int .i64 c, .int .i64 d]).run Try.prog w = .ok (.int .i64 (max (max (max a b) c) d)) w := by
  simp [Builtin.max_, max2_run, List.foldlM, go_sem]
theorem min22_run (a b : Int) (w : World) : (Builtin.min_ #[3, 3] 3 #[.int .i64 a, .int .i64 b]).run Try.prog w = .ok (.int .i64 (min a b)) w := by
  simp [Builtin.min_, min2_run, List.foldlM, go_sem]

set_option maxRecDepth 100000 in
set_option maxHeartbeats 4000000 in
theorem More_bad (ab ast ae ak : Option Addr) (cb cs ce ck : Nat) (X : Sw) (yt yc yb ye yh yk goal : Int) (w : World) (mn mx : Int) (hmn : mn = min (min (min yc ye) yh) yk) (hmx : mx = max (max (max yc ye) yh) yk) (rb : Bool) (hrd : ∀ V, Below w.heap.size w V → Calls Try.prog 44 #[.agg #[.slice ab X.bs.length cb, .slice ast X.st.length cs, .slice ae X.er.length ce, .slice ak X.ks.length ck, .int .i64 X.ch]] V fun e w' => e = .returned (.bool rb) ∧ Below V.heap.size V w') (h : ¬ (rb = true ∧ 0 ≤ mn ∧ mx ≤ 999 ∧ 0 ≤ goal ∧ goal ≤ 99999)) : Calls Try.prog 8 #[.agg #[.slice ab X.bs.length cb, .slice ast X.st.length cs, .slice ae X.er.length ce, .slice ak X.ks.length ck, .int .i64 X.ch], .agg #[.int .i64 yt, .int .i64 yc, .int .i64 yb, .int .i64 ye, .int .i64 yh, .int .i64 yk], .int .i64 goal] w fun e w' => e = .returned (.bool true) ∧ Below w.heap.size w w' := by
  obtain ⟨W, hWW, hb, _, x0, y0⟩ := boxes2 w #[.slice ab X.bs.length cb, .slice ast X.st.length cs, .slice ae X.er.length ce, .slice ak X.ks.length ck, .int .i64 X.ch] 26 #[.int .i64 yt, .int .i64 yc, .int .i64 yb, .int .i64 ye, .int .i64 yh, .int .i64 yk] 58
  have hW := works_any
  have hmin : ∀ w, (Builtin.min_ #[3, 3, 3, 3] 3 #[.int .i64 yc, .int .i64 ye, .int .i64 yh, .int .i64 yk]).run Try.prog w = .ok (.int .i64 mn) w := fun w => by rw [hmn]; exact min4_run _ _ _ _ w
  have hmax : ∀ w, (Builtin.max_ #[3, 3, 3, 3] 3 #[.int .i64 yc, .int .i64 ye, .int .i64 yh, .int .i64 yk]).run Try.prog w = .ok (.int .i64 mx) w := fun w => by rw [hmx]; exact max4_run _ _ _ _ w
  have c0 := x0.cell 0 rfl; have c1 := x0.cell 1 rfl; have c2 := x0.cell 2 rfl; have c3 := x0.cell 3 rfl; have c4 := x0.cell 4 rfl; have d0 := y0.cell 0 rfl; have d1 := y0.cell 1 rfl; have d2 := y0.cell 2 rfl; have d3 := y0.cell 3 rfl; have d4 := y0.cell 4 rfl; have d5 := y0.cell 5 rfl
  clear hmn hmx
  cases rb
  · go_enter Try.func8, Try.ntmps8
    go_wp2_with fail
    refine (hrd _ hb).mono ?_
    rintro e V1 ⟨rfl, hb1⟩
    replace hb := hb.trans (hb1.mono hb.size)
    replace x0 := x0.below hb1
    replace y0 := y0.below hb1
    clear c0 c1 c2 c3 c4 d0 d1 d2 d3 d4 d5 hb1 hrd
    have c0 := x0.cell 0 rfl; have c1 := x0.cell 1 rfl; have c2 := x0.cell 2 rfl; have c3 := x0.cell 3 rfl; have c4 := x0.cell 4 rfl; have d0 := y0.cell 0 rfl; have d1 := y0.cell 1 rfl; have d2 := y0.cell 2 rfl; have d3 := y0.cell 3 rfl; have d4 := y0.cell 4 rfl; have d5 := y0.cell 5 rfl
    go_wp2_with fail
    refine (hW _).mono ?_
    rintro e Vw ⟨rfl, hb1⟩
    replace hb := hb.trans (hb1.mono hb.size)
    go_wp2
    go_ret
    exact ⟨rfl, hb⟩
  · by_cases h1 : 0 ≤ mn
    · by_cases h2 : mx ≤ 999
      · by_cases h3 : 0 ≤ goal
        · have h4 : (99999 : Int) < goal := by
            have : ¬ goal ≤ 99999 := fun h4 => h ⟨rfl, h1, h2, h3, h4⟩
            omega
          clear h
          go_enter Try.func8, Try.ntmps8
          go_wp2_with fail
          refine (hrd _ hb).mono ?_
          rintro e V1 ⟨rfl, hb1⟩
          replace hb := hb.trans (hb1.mono hb.size)
          replace x0 := x0.below hb1
          replace y0 := y0.below hb1
          clear c0 c1 c2 c3 c4 d0 d1 d2 d3 d4 d5 hb1 hrd
          have c0 := x0.cell 0 rfl; have c1 := x0.cell 1 rfl; have c2 := x0.cell 2 rfl; have c3 := x0.cell 3 rfl; have c4 := x0.cell 4 rfl; have d0 := y0.cell 0 rfl; have d1 := y0.cell 1 rfl; have d2 := y0.cell 2 rfl; have d3 := y0.cell 3 rfl; have d4 := y0.cell 4 rfl; have d5 := y0.cell 5 rfl
          go_wp2_with fail
          refine (hW _).mono ?_
          rintro e Vw ⟨rfl, hb1⟩
          replace hb := hb.trans (hb1.mono hb.size)
          go_wp2
          go_ret
          exact ⟨rfl, hb⟩
        · have h3' : goal < 0 := by omega
          clear h h3
          go_enter Try.func8, Try.ntmps8
          go_wp2_with fail
          refine (hrd _ hb).mono ?_
          rintro e V1 ⟨rfl, hb1⟩
          replace hb := hb.trans (hb1.mono hb.size)
          replace x0 := x0.below hb1
          replace y0 := y0.below hb1
          clear c0 c1 c2 c3 c4 d0 d1 d2 d3 d4 d5 hb1 hrd
          have c0 := x0.cell 0 rfl; have c1 := x0.cell 1 rfl; have c2 := x0.cell 2 rfl; have c3 := x0.cell 3 rfl; have c4 := x0.cell 4 rfl; have d0 := y0.cell 0 rfl; have d1 := y0.cell 1 rfl; have d2 := y0.cell 2 rfl; have d3 := y0.cell 3 rfl; have d4 := y0.cell 4 rfl; have d5 := y0.cell 5 rfl
          go_wp2_with fail
          refine (hW _).mono ?_
          rintro e Vw ⟨rfl, hb1⟩
          replace hb := hb.trans (hb1.mono hb.size)
          go_wp2
          go_ret
          exact ⟨rfl, hb⟩
      · have h2' : (999 : Int) < mx := by omega
        clear h h2
        go_enter Try.func8, Try.ntmps8
        go_wp2_with fail
        refine (hrd _ hb).mono ?_
        rintro e V1 ⟨rfl, hb1⟩
        replace hb := hb.trans (hb1.mono hb.size)
        replace x0 := x0.below hb1
        replace y0 := y0.below hb1
        clear c0 c1 c2 c3 c4 d0 d1 d2 d3 d4 d5 hb1 hrd
        have c0 := x0.cell 0 rfl; have c1 := x0.cell 1 rfl; have c2 := x0.cell 2 rfl; have c3 := x0.cell 3 rfl; have c4 := x0.cell 4 rfl; have d0 := y0.cell 0 rfl; have d1 := y0.cell 1 rfl; have d2 := y0.cell 2 rfl; have d3 := y0.cell 3 rfl; have d4 := y0.cell 4 rfl; have d5 := y0.cell 5 rfl
        go_wp2_with fail
        refine (hW _).mono ?_
        rintro e Vw ⟨rfl, hb1⟩
        replace hb := hb.trans (hb1.mono hb.size)
        go_wp2
        go_ret
        exact ⟨rfl, hb⟩
    · have h1' : mn < 0 := by omega
      clear h h1
      go_enter Try.func8, Try.ntmps8
      go_wp2_with fail
      refine (hrd _ hb).mono ?_
      rintro e V1 ⟨rfl, hb1⟩
      replace hb := hb.trans (hb1.mono hb.size)
      replace x0 := x0.below hb1
      replace y0 := y0.below hb1
      clear c0 c1 c2 c3 c4 d0 d1 d2 d3 d4 d5 hb1 hrd
      have c0 := x0.cell 0 rfl; have c1 := x0.cell 1 rfl; have c2 := x0.cell 2 rfl; have c3 := x0.cell 3 rfl; have c4 := x0.cell 4 rfl; have d0 := y0.cell 0 rfl; have d1 := y0.cell 1 rfl; have d2 := y0.cell 2 rfl; have d3 := y0.cell 3 rfl; have d4 := y0.cell 4 rfl; have d5 := y0.cell 5 rfl
      go_wp2_with fail
      refine (hW _).mono ?_
      rintro e Vw ⟨rfl, hb1⟩
      replace hb := hb.trans (hb1.mono hb.size)
      go_wp2
      go_ret
      exact ⟨rfl, hb⟩

theorem known_true {f : Int} (h : f = 0 ∨ f = 3) : (decide (f = 0) || decide (f = 3)) = true := by rcases h with rfl | rfl <;> rfl
theorem fair_two {X Y : Sw} (hvX : vB X = true) (hvY : vB Y = true) (h : MoreP X Y) : ∃ fa fb fe : Int, fa ≤ fb ∧ (fe = 0 ∨ fe = 3) ∧
    (∀ (ab ast ae ak : Option Addr) (cb cs ce ck : Nat) V, Swp V ab ast ae ak X → Calls Try.prog 31 #[.agg #[.slice ab X.bs.length cb, .slice ast X.st.length cs, .slice ae X.er.length ce, .slice ak X.ks.length ck, .int .i64 X.ch]] V fun e w' => e = .returned (.tuple #[.int .i64 fa, .int .i64 fe]) ∧ Below V.heap.size V w') ∧
    (∀ (ab ast ae ak : Option Addr) (cb cs ce ck : Nat) V, Swp V ab ast ae ak Y → Calls Try.prog 31 #[.agg #[.slice ab Y.bs.length cb, .slice ast Y.st.length cs, .slice ae Y.er.length ce, .slice ak Y.ks.length ck, .int .i64 Y.ch]] V fun e w' => e = .returned (.tuple #[.int .i64 fb, .int .i64 fe]) ∧ Below V.heap.size V w') := by
  have hl : Y.bs.length = X.bs.length := by rw [h.bs]
  by_cases h0 : X.bs.length = 0
  · exact ⟨0, 0, 3, Int.le_refl _, .inr rfl, fun ab ast ae ak cb cs ce ck V hX => FairNone_ok ab ast ae ak cb cs ce ck X V hX hvX h0, fun ab ast ae ak cb cs ce ck V hX => FairNone_ok ab ast ae ak cb cs ce ck Y V hX hvY (by omega)⟩
  · exact ⟨_, _, 0, more_fair (vB_iff hvX) (vB_iff hvY) h (by omega), .inl rfl, fun ab ast ae ak cb cs ce ck V hX => Fair_ok ab ast ae ak cb cs ce ck X V hX hvX (by omega), fun ab ast ae ak cb cs ce ck V hX => Fair_ok ab ast ae ak cb cs ce ck Y V hX hvY (by omega)⟩
theorem few_two {X Y : Sw} (hvX : vB X = true) (hvY : vB Y = true) (h : MoreP X Y) (goal : Int) (g0 : 0 ≤ goal) (g9 : goal ≤ 99999) : ∃ m n fi fj : Int, (fi = 0 ∨ fi = 3) ∧ (fj = 0 ∨ fj = 3) ∧ (fi = 0 → fj = 0 ∧ 0 ≤ n ∧ n ≤ m) ∧
    (∀ (ab ast ae ak : Option Addr) (cb cs ce ck : Nat) V, Swp V ab ast ae ak X → Calls Try.prog 38 #[.agg #[.slice ab X.bs.length cb, .slice ast X.st.length cs, .slice ae X.er.length ce, .slice ak X.ks.length ck, .int .i64 X.ch], .int .i64 goal] V fun e w' => e = .returned (.tuple #[.int .i64 m, .int .i64 fi]) ∧ Below V.heap.size V w') ∧
    (∀ (ab ast ae ak : Option Addr) (cb cs ce ck : Nat) V, Swp V ab ast ae ak Y → Calls Try.prog 38 #[.agg #[.slice ab Y.bs.length cb, .slice ast Y.st.length cs, .slice ae Y.er.length ce, .slice ak Y.ks.length ck, .int .i64 Y.ch], .int .i64 goal] V fun e w' => e = .returned (.tuple #[.int .i64 n, .int .i64 fj]) ∧ Below V.heap.size V w') := by
  have c1 := fun ab ast ae ak cb cs ce ck V hX => few_law ab ast ae ak cb cs ce ck X hvX goal g0 g9 _ _ rfl rfl V hX
  have c2 := fun ab ast ae ak cb cs ce ck V hX => few_law ab ast ae ak cb cs ce ck Y hvY goal g0 g9 _ _ rfl rfl V hX
  have f2 := (few_facts (vB_iff hvY) goal).2
  have mf := more_few (vB_iff hvX) (vB_iff hvY) h goal
  rcases hx : fewV X.vz goal with ⟨m, o1⟩
  rcases hy : fewV Y.vz goal with ⟨n, o2⟩
  rw [hx] at c1 mf
  rw [hy] at c2 mf f2
  cases o1
  · cases o2
    · exact ⟨_, _, _, _, .inr rfl, .inr rfl, fun h => (by cases h), c1, c2⟩
    · exact ⟨_, _, _, _, .inr rfl, .inl rfl, fun h => (by cases h), c1, c2⟩
  · obtain ⟨e, hle⟩ := mf rfl
    have e' : o2 = true := e
    subst e'
    exact ⟨_, _, _, _, .inl rfl, .inl rfl, fun _ => ⟨rfl, f2 rfl, hle⟩, c1, c2⟩

set_option maxRecDepth 100000 in
set_option maxHeartbeats 8000000 in
theorem swapsMore_any (ab ast ae ak : Option Addr) (cb cs ce ck : Nat) (X : Sw) (yt yc yb ye yh yk goal : Int) (w : World) (hX : Swp w ab ast ae ak X) (hr : rdB X = true) (mn mx : Int) (hmn : mn = min (min (min yc ye) yh) yk) (hmx : mx = max (max (max yc ye) yh) yk) (m0 : 0 ≤ mn) (m9 : mx ≤ 999) (g0 : 0 ≤ goal) (g9 : goal ≤ 99999) : Calls Try.prog 8 #[.agg #[.slice ab X.bs.length cb, .slice ast X.st.length cs, .slice ae X.er.length ce, .slice ak X.ks.length ck, .int .i64 X.ch], .agg #[.int .i64 yt, .int .i64 yc, .int .i64 yb, .int .i64 ye, .int .i64 yh, .int .i64 yk], .int .i64 goal] w fun e w' => e = .returned (.bool true) ∧ Below w.heap.size w w' := by
  have hv := (rdB_iff hr).1
  have hok := vB_iff hv
  obtain ⟨W, hWW, hb, _, x0, y0⟩ := boxes2 w #[.slice ab X.bs.length cb, .slice ast X.st.length cs, .slice ae X.er.length ce, .slice ak X.ks.length ck, .int .i64 X.ch] 26 #[.int .i64 yt, .int .i64 yc, .int .i64 yb, .int .i64 ye, .int .i64 yh, .int .i64 yk] 58
  have hgX := fun V (h : Below w.heap.size w V) => hX.below h (Nat.le_refl _)
  have hrd := fun V h => ready_any ab ast ae ak cb cs ce ck X V (hgX V h)
  rw [hr] at hrd
  have hW := works_any
  have hmin : ∀ w, (Builtin.min_ #[3, 3, 3, 3] 3 #[.int .i64 yc, .int .i64 ye, .int .i64 yh, .int .i64 yk]).run Try.prog w = .ok (.int .i64 mn) w := fun w => by rw [hmn]; exact min4_run _ _ _ _ w
  have hmax : ∀ w, (Builtin.max_ #[3, 3, 3, 3] 3 #[.int .i64 yc, .int .i64 ye, .int .i64 yh, .int .i64 yk]).run Try.prog w = .ok (.int .i64 mx) w := fun w => by rw [hmx]; exact max4_run _ _ _ _ w
  have y1 : 0 ≤ yc ∧ yc ≤ 999 := by omega
  have y2 : 0 ≤ ye ∧ ye ≤ 999 := by omega
  have y3 : 0 ≤ yh ∧ yh ≤ 999 := by omega
  have y4 : 0 ≤ yk ∧ yk ≤ 999 := by omega
  have hbl : ∀ l ∈ X.bs, l.length ≤ 1000 := fun l hl => by
    obtain ⟨i, hi, rfl⟩ := mem_getD [] hl
    have := (hok.b3 i hi).1; omega
  have hel : ∀ l ∈ X.er, l.length ≤ 1000 := fun l hl => by
    obtain ⟨i, hi, rfl⟩ := mem_getD [] hl
    have := (hok.er2 i hi).1; have := hok.nb3; omega
  have hcl := fun V h => CloneM_any ab ast ae ak cb cs ce ck X V (hgX V h) (by have := hok.nb3; omega) hbl (by have := hok.t6; omega) (by have := hok.er1; have := hok.t6; omega) hel (by have := hok.k4; omega)
  obtain ⟨km, hkm⟩ : ∃ km : Nat, min yk (X.ks.length : Int) = (km : Int) := ⟨(min yk (X.ks.length : Int)).toNat, by omega⟩
  have hm2 : ∀ w, (Builtin.min_ #[3, 3] 3 #[.int .i64 yk, .int .i64 (X.ks.length : Int)]).run Try.prog w = .ok (.int .i64 (km : Int)) w := fun w => by rw [min22_run, hkm]
  have hkl : km ≤ X.ks.length := by omega
  have hch := hok.ch3
  have hwc : IntKind.i64.wrap (X.ch + yh) = X.ch + yh := IntWalk.i64_in _ (by omega)
  have HOK := hid hok
  have HY := hid (And.intro y1 (And.intro y2 (And.intro y3 y4)))
  have c0 := x0.cell 0 rfl; have c1 := x0.cell 1 rfl; have c2 := x0.cell 2 rfl; have c3 := x0.cell 3 rfl; have c4 := x0.cell 4 rfl; have d0 := y0.cell 0 rfl; have d1 := y0.cell 1 rfl; have d2 := y0.cell 2 rfl; have d3 := y0.cell 3 rfl; have d4 := y0.cell 4 rfl; have d5 := y0.cell 5 rfl
  clear hX hr hmn hmx hbl hel hok hkm y1 y2 y3 y4 hch
  go_enter Try.func8, Try.ntmps8
  go_wp2_with fail
  refine (hrd _ hb).mono ?_
  rintro e V1 ⟨rfl, hb1⟩
  replace hb := hb.trans (hb1.mono hb.size)
  replace x0 := x0.below hb1
  replace y0 := y0.below hb1
  clear c0 c1 c2 c3 c4 d0 d1 d2 d3 d4 d5 hb1 hrd
  have c0 := x0.cell 0 rfl; have c1 := x0.cell 1 rfl; have c2 := x0.cell 2 rfl; have c3 := x0.cell 3 rfl; have c4 := x0.cell 4 rfl; have d0 := y0.cell 0 rfl; have d1 := y0.cell 1 rfl; have d2 := y0.cell 2 rfl; have d3 := y0.cell 3 rfl; have d4 := y0.cell 4 rfl; have d5 := y0.cell 5 rfl
  have hB : w.heap.size + 2 ≤ V1.heap.size := by have := y0.lt; omega
  go_wp2_with fail
  refine (hcl _ hb).mono ?_
  rintro e Vn ⟨hb1, oab, oast, oae, oak, ocb, ocs, oce, ock, rfl, hM⟩
  replace hb := hb.trans (hb1.mono hb.size)
  replace x0 := x0.below hb1
  replace y0 := y0.below hb1
  have hBn : w.heap.size + 2 ≤ Vn.heap.size := Nat.le_trans hB hb1.size
  have hck : (km : Int) ≤ (ock : Int) := by
    obtain ⟨T6, T9, _, _, g13, _⟩ := hM.ex
    rcases g13.2 with ⟨_, h0⟩ | ⟨g', cap', cur, h1, _, _, h4, _⟩
    · omega
    · simp only [Value.slice.injEq] at h1
      omega
  have hbA := below_one (w := Vn) (.cells #[.slice oab X.bs.length ocb, .slice oast X.st.length ocs, .slice oae X.er.length oce, .slice oak X.ks.length ock, .int .i64 X.ch] 26)
  have z0 := Bx.new Vn #[.slice oab X.bs.length ocb, .slice oast X.st.length ocs, .slice oae X.er.length oce, .slice oak X.ks.length ock, .int .i64 X.ch] 26
  have HH := hid (And.intro (hb.trans (hbA.mono hb.size)) (And.intro (x0.below hbA) (And.intro (y0.below hbA) (And.intro z0 hbA))))
  clear hb x0 y0 z0 hbA hb1 c0 c1 c2 c3 c4 d0 d1 d2 d3 d4 d5 hcl
  go_upto_region 4 with fail
  obtain ⟨hb, x0, y0, z0, HVn⟩ := HH.out
  clear HH
  obtain ⟨g, hg⟩ : ∃ g, g = Vn.heap.size := ⟨_, rfl⟩
  have hgw : w.heap.size + 2 ≤ g := by omega
  rw [← hg] at z0 ⊢
  have HG := hid hg
  clear hg
  generalize Vn.alloc _ = Va at *
  have c0 := x0.cell 0 rfl; have c1 := x0.cell 1 rfl; have c2 := x0.cell 2 rfl; have c3 := x0.cell 3 rfl; have c4 := x0.cell 4 rfl; have d0 := y0.cell 0 rfl; have d1 := y0.cell 1 rfl; have d2 := y0.cell 2 rfl; have d3 := y0.cell 3 rfl; have d4 := y0.cell 4 rfl; have d5 := y0.cell 5 rfl; have e0 := z0.cell 0 rfl; have e1 := z0.cell 1 rfl; have e2 := z0.cell 2 rfl; have e3 := z0.cell 3 rfl; have e4 := z0.cell 4 rfl
  have f0 := z0.free 0; have f1 := z0.free 1; have f2 := z0.free 2; have f3 := z0.free 3; have f4 := z0.free 4
  have z1 : Bx (Va.setCell ⟨g, 4, none⟩ (.int .i64 (X.ch + yh))) g #[.slice oab X.bs.length ocb, .slice oast X.st.length ocs, .slice oae X.er.length oce, .slice oak X.ks.length ock, .int .i64 (X.ch + yh)] 26 := by simpa using z0.set 4 (.int .i64 (X.ch + yh))
  have HH := hid (And.intro (hb.setCell (p := ⟨g, 4, none⟩) (by show w.heap.size ≤ g; omega) (.int .i64 (X.ch + yh))) (And.intro (x0.other (a := ⟨g, 4, none⟩) (by show w.heap.size ≠ g; omega) (.int .i64 (X.ch + yh))) (And.intro (y0.other (a := ⟨g, 4, none⟩) (by show w.heap.size + 1 ≠ g; omega) (.int .i64 (X.ch + yh))) (And.intro z1 (HVn.setCell (p := ⟨g, 4, none⟩) (by show Vn.heap.size ≤ g; have := HG.out; omega) (.int .i64 (X.ch + yh)))))))
  clear hb x0 y0 z0 z1 HVn
  go_upto_region 5 with fail
  obtain ⟨hb, x0, y0, z0, HVn⟩ := HH.out
  clear HH c0 c1 c2 c3 c4 d0 d1 d2 d3 d4 d5 e0 e1 e2 e3 e4 f0 f1 f2 f3 f4
  generalize World.setCell _ _ _ = Va at *
  have c0 := x0.cell 0 rfl; have c1 := x0.cell 1 rfl; have c2 := x0.cell 2 rfl; have c3 := x0.cell 3 rfl; have c4 := x0.cell 4 rfl; have d0 := y0.cell 0 rfl; have d1 := y0.cell 1 rfl; have d2 := y0.cell 2 rfl; have d3 := y0.cell 3 rfl; have d4 := y0.cell 4 rfl; have d5 := y0.cell 5 rfl; have e0 := z0.cell 0 rfl; have e1 := z0.cell 1 rfl; have e2 := z0.cell 2 rfl; have e3 := z0.cell 3 rfl; have e4 := z0.cell 4 rfl
  have f0 := z0.free 0; have f1 := z0.free 1; have f2 := z0.free 2; have f3 := z0.free 3; have f4 := z0.free 4
  have z1 : Bx (Va.setCell ⟨g, 3, none⟩ (.slice oak km ock)) g #[.slice oab X.bs.length ocb, .slice oast X.st.length ocs, .slice oae X.er.length oce, .slice oak km ock, .int .i64 (X.ch + yh)] 26 := by simpa using z0.set 3 (.slice oak km ock)
  have HH := hid (And.intro (hb.setCell (p := ⟨g, 3, none⟩) (by show w.heap.size ≤ g; omega) (.slice oak km ock)) (And.intro (x0.other (a := ⟨g, 3, none⟩) (by show w.heap.size ≠ g; omega) (.slice oak km ock)) (And.intro (y0.other (a := ⟨g, 3, none⟩) (by show w.heap.size + 1 ≠ g; omega) (.slice oak km ock)) (And.intro z1 (HVn.setCell (p := ⟨g, 3, none⟩) (by show Vn.heap.size ≤ g; have := HG.out; omega) (.slice oak km ock))))))
  clear hb x0 y0 z0 z1 HVn
  have hkm0 : (0 : Int) ≤ (km : Int) := by omega
  have htn : ((km : Int)).toNat = km := by omega
  go_upto_region 6 with fail
  obtain ⟨hb, x0, y0, z0, HVn⟩ := HH.out
  clear HH c0 c1 c2 c3 c4 d0 d1 d2 d3 d4 d5 e0 e1 e2 e3 e4 f0 f1 f2 f3 f4
  have hM0 : CMem (Va.setCell ⟨g, 3, none⟩ (.slice oak km ock)) (V1.heap.size + 2) (.slice oab X.bs.length ocb) (.slice oast X.st.length ocs) (.slice oae X.er.length oce) (.slice oak km ock) { X with ks := X.ks.take km, ch := X.ch + yh } := ((hM.below HVn).takeKeeps hkl).ch _
  have hYA := moreA HOK.out km yh HY.out.2.2.1.1
  generalize World.setCell _ _ _ = Vn at *
  clear hM HVn hck hkm0 htn hm2 hwc
  have eq0 : ({ X with ks := X.ks.take km, ch := X.ch + yh } : Sw).bs.length = X.bs.length ∧ ({ X with ks := X.ks.take km, ch := X.ch + yh } : Sw).st.length = X.st.length ∧ ({ X with ks := X.ks.take km, ch := X.ch + yh } : Sw).er.length = X.er.length ∧ ({ X with ks := X.ks.take km, ch := X.ch + yh } : Sw).ks.length = km ∧ ({ X with ks := X.ks.take km, ch := X.ch + yh } : Sw).ch = X.ch + yh := ⟨rfl, rfl, rfl, by show (X.ks.take km).length = km; rw [List.length_take]; omega, rfl⟩
  by_cases t0 : 0 ≤ yt
  · by_cases t1 : yt < (X.st.length : Int)
    · obtain ⟨t, rfl⟩ := Int.eq_ofNat_of_zero_le t0
      have htl : t < X.st.length := by omega
      obtain ⟨o1, ho1⟩ : ∃ o, o = X.st.getD t 0 := ⟨_, rfl⟩
      have hs9 := HOK.out.st9 (X.st.getD t 0) (getD_mem' _ 0 htl)
      rw [← ho1] at hs9
      have hyc := HY.out.1
      have hwt : IntKind.i64.wrap (o1 + yc) = o1 + yc := IntWalk.i64_in _ (by omega)
      have hYB := moreB hYA t (o1 + yc) (by show X.st.getD t 0 ≤ _; rw [← ho1]; omega) (by omega)
      have hbd := (Below.refl Vn.heap.size Vn).drew
      obtain ⟨gs, hgs, hgB, hgl, hcs, hfs, hcur, hM1⟩ := CMem.setStock (X := { X with ks := X.ks.take km, ch := X.ch + yh }) (hM0.below hbd) htl (o1 + yc)
      have HGS := hid hgs
      replace hcs : Vn.drew.cell? ⟨gs, t, none⟩ = some (.int .i64 o1) := by rw [ho1]; exact hcs
      have hx1 := x0.below hbd
      have hy1 := y0.below hbd
      have hz1 := z0.below hbd
      have hb1 := hb.trans (hbd.mono hb.size)
      have hne : g ≠ gs := fun e => by
        obtain ⟨cur, hc⟩ := hcur
        rw [← e] at hc
        unfold Bx at hz1
        rw [hz1] at hc; cases hc
      have HN := hid (And.intro hb1 (And.intro hx1 (And.intro hM1 hYB)))
      have S0 := And.intro hy1 (And.intro hz1 hcs)
      have HFS := hid hfs
      have htI : (t : Int) < (X.st.length : Int) := by omega
      have d0 := y0.cell 0 rfl; have d1 := y0.cell 1 rfl; have d2 := y0.cell 2 rfl; have d3 := y0.cell 3 rfl; have d4 := y0.cell 4 rfl; have d5 := y0.cell 5 rfl; have e0 := z0.cell 0 rfl; have e1 := z0.cell 1 rfl; have e2 := z0.cell 2 rfl; have e3 := z0.cell 3 rfl; have e4 := z0.cell 4 rfl
      clear hM0 hYA hYB hbd hx1 hy1 hz1 hb1 hM1 hcur hcs hfs eq0 hs9 hyc hgs ho1
      go_upto_region 7 with fail
      clear d0 d1 d2 d3 d4 d5 e0 e1 e2 e3 e4 x0 y0 z0 hb
      refine wp_region_head 10 (fun w' => Bx w' (w.heap.size + 1) #[.int .i64 (t : Int), .int .i64 yc, .int .i64 yb, .int .i64 ye, .int .i64 yh, .int .i64 yk] 58 ∧ Bx w' g #[.slice oab X.bs.length ocb, .slice oast X.st.length ocs, .slice oae X.er.length oce, .slice oak km ock, .int .i64 (X.ch + yh)] 26 ∧ w'.cell? ⟨gs, t, none⟩ = some (.int .i64 o1)) (by kernel_rfl) rfl ?_
      generalize Vn.drew = Yw at *
      refine HeadAt.take (i := 0) (.pointer (some ⟨g, 1, none⟩)) rfl (by kernel_rfl) (.inl ⟨rfl, fun _ _ => by simp [go_sem]⟩) S0 ?_
      (try simp only [Act.put, List.getElem_toArray, List.getElem_cons_succ, List.getElem_cons_zero, List.setIfInBounds_toArray, List.set_cons_succ, List.set_cons_zero])
      refine HeadAt.take (i := 1) (.slice oast X.st.length ocs) rfl (by kernel_rfl) (.inl ⟨rfl, fun w' z => ?_⟩) S0 ?_
      · (have z0 := z.2.1.cell 1 rfl; simp [go_sem, z0])
      refine HeadAt.take (i := 2) (.pointer (some ⟨w.heap.size + 1, 0, none⟩)) rfl (by kernel_rfl) (.inl ⟨rfl, fun _ _ => by simp [go_sem]⟩) S0 ?_
      (try simp only [Act.put, List.getElem_toArray, List.getElem_cons_succ, List.getElem_cons_zero, List.setIfInBounds_toArray, List.set_cons_succ, List.set_cons_zero])
      refine HeadAt.take (i := 3) (.int .i64 (t : Int)) rfl (by kernel_rfl) (.inl ⟨rfl, fun w' z => ?_⟩) S0 ?_
      · (have z0 := z.1.cell 0 rfl; simp [go_sem, z0])
      (try simp only [Act.put, List.getElem_toArray, List.getElem_cons_succ, List.getElem_cons_zero, List.setIfInBounds_toArray, List.set_cons_succ, List.set_cons_zero])
      refine HeadAt.take (i := 4) (.pointer (some ⟨gs, t, none⟩)) rfl (by kernel_rfl) (.inl ⟨rfl, fun w' z => ?_⟩) S0 ?_
      · (have hgs' := HGS.out; simp [go_sem, htI, hgs'])
      (try simp only [Act.put, List.getElem_toArray, List.getElem_cons_succ, List.getElem_cons_zero, List.setIfInBounds_toArray, List.set_cons_succ, List.set_cons_zero])
      refine HeadAt.take (i := 5) (.int .i64 o1) rfl (by kernel_rfl) (.inl ⟨rfl, fun w' z => ?_⟩) S0 ?_
      · (have z2 := z.2.2; simp [go_sem, -List.getD_eq_getElem?_getD, z2])
      refine HeadAt.take (i := 6) (.pointer (some ⟨w.heap.size + 1, 1, none⟩)) rfl (by kernel_rfl) (.inl ⟨rfl, fun _ _ => by simp [go_sem]⟩) S0 ?_
      (try simp only [Act.put, List.getElem_toArray, List.getElem_cons_succ, List.getElem_cons_zero, List.setIfInBounds_toArray, List.set_cons_succ, List.set_cons_zero])
      refine HeadAt.take (i := 7) (.int .i64 yc) rfl (by kernel_rfl) (.inl ⟨rfl, fun w' z => ?_⟩) S0 ?_
      · (have z0 := z.1.cell 1 rfl; simp [go_sem, z0])
      (try simp only [Act.put, List.getElem_toArray, List.getElem_cons_succ, List.getElem_cons_zero, List.setIfInBounds_toArray, List.set_cons_succ, List.set_cons_zero])
      refine HeadAt.take (i := 8) (.int .i64 (o1 + yc)) rfl (by kernel_rfl) (.inl ⟨rfl, fun w' z => ?_⟩) S0 ?_
      · (simp [go_sem, -List.getD_eq_getElem?_getD, hwt])
      refine HeadAt.take (i := 9) (.pointer (some ⟨gs, t, none⟩)) rfl (by kernel_rfl) (.inl ⟨rfl, fun w' z => ?_⟩) S0 ?_
      · (have hgs' := HGS.out; simp [go_sem, htI, hgs'])
      refine HeadAt.done (by kernel_rfl) ?_
      (try simp only [Act.put, List.drop_succ_cons, List.drop_zero, List.getElem_toArray, List.getElem_cons_succ, List.getElem_cons_zero])
      obtain ⟨y0, z0, hcs⟩ := S0
      obtain ⟨hb, x0, hM1, hYB⟩ := HN.out
      have hfs := HFS.out
      have hx2 := x0.other (a := ⟨gs, t, none⟩) (by show w.heap.size ≠ gs; omega) (.int .i64 (o1 + yc))
      have hy2 := y0.other (a := ⟨gs, t, none⟩) (by show w.heap.size + 1 ≠ gs; omega) (.int .i64 (o1 + yc))
      have hz2 := z0.other (a := ⟨gs, t, none⟩) hne (.int .i64 (o1 + yc))
      have hb2 := hb.setCell (p := ⟨gs, t, none⟩) (by show w.heap.size ≤ gs; omega) (.int .i64 (o1 + yc))
      have HN2 := hid (And.intro hb2 (And.intro hx2 (And.intro hy2 (And.intro hz2 (And.intro hM1 hYB)))))
      clear HN HFS hb x0 y0 z0 hM1 hYB hx2 hy2 hz2 hb2
      go_wp2_with fail
      refine NoPanic.normal ?_
      obtain ⟨hb, x0, y0, z0, hM0, hYA⟩ := HN2.out
      clear HN2 hcs hfs hwt
      generalize World.setCell _ _ _ = Vn at *
      have eq0 : ({ X with ks := X.ks.take km, ch := X.ch + yh, st := X.st.set t (o1 + yc) } : Sw).bs.length = X.bs.length ∧ ({ X with ks := X.ks.take km, ch := X.ch + yh, st := X.st.set t (o1 + yc) } : Sw).st.length = X.st.length ∧ ({ X with ks := X.ks.take km, ch := X.ch + yh, st := X.st.set t (o1 + yc) } : Sw).er.length = X.er.length ∧ ({ X with ks := X.ks.take km, ch := X.ch + yh, st := X.st.set t (o1 + yc) } : Sw).ks.length = km ∧ ({ X with ks := X.ks.take km, ch := X.ch + yh, st := X.st.set t (o1 + yc) } : Sw).ch = X.ch + yh := ⟨rfl, by show (X.st.set t _).length = _; rw [List.length_set], rfl, by show (X.ks.take km).length = km; rw [List.length_take]; omega, rfl⟩
      by_cases b0 : 0 ≤ yb
      · by_cases b1 : yb < (X.bs.length : Int)
        · obtain ⟨j, rfl⟩ := Int.eq_ofNat_of_zero_le b0
          have hjl : j < X.bs.length := by omega
          have hte : t < X.er.length := by rw [HOK.out.er1]; exact htl
          obtain ⟨ks, hks⟩ : ∃ ks, X.er[t]? = some ks := ⟨_, List.getElem?_eq_getElem hte⟩
          have hkd : X.er.getD t [] = ks := by rw [List.getD_eq_getElem?_getD, hks]; rfl
          obtain ⟨hkl2, hk9⟩ := HOK.out.er2 t hte
          rw [hkd] at hkl2 hk9
          have hjk : j < ks.length := by omega
          obtain ⟨o2, ho2⟩ : ∃ o, o = ks.getD j 0 := ⟨_, rfl⟩
          have hs9 := hk9 (ks.getD j 0) (getD_mem' _ 0 hjk)
          rw [← ho2] at hs9
          have hye := HY.out.2.1
          have hn3' := HOK.out.nb3
          have hwt : IntKind.i64.wrap (o2 + ye) = o2 + ye := IntWalk.i64_in _ (by omega)
          have hYB := moreC hYA t j ks (o2 + ye) hks hjk (by rw [← ho2]; omega)
          have hbd := (Below.refl Vn.heap.size Vn).drew
          obtain ⟨ge, gi, ci, hge, hce, hgB, hgl, hcs, hfs, hcur, hM1⟩ := CMem.setEarn (X := { X with ks := X.ks.take km, ch := X.ch + yh, st := X.st.set t (o1 + yc) }) (hM0.below hbd) hks hjk (by omega) (o2 + ye) (by omega)
          have HGE := hid hge
          rw [← ho2] at hcs
          have hx1 := x0.below hbd
          have hy1 := y0.below hbd
          have hz1 := z0.below hbd
          have hb1 := hb.trans (hbd.mono hb.size)
          have hne : g ≠ gi := fun e => by
            obtain ⟨cur, hc⟩ := hcur
            rw [← e] at hc
            unfold Bx at hz1
            rw [hz1] at hc; cases hc
          have HN := hid (And.intro hb1 (And.intro hx1 (And.intro hM1 hYB)))
          have S0 := And.intro hy1 (And.intro hz1 (And.intro hce hcs))
          have HFS := hid hfs
          have htE : (t : Int) < (X.er.length : Int) := by omega
          have hjI : (j : Int) < (ks.length : Int) := by omega
          have HKL := hid hkl2
          have d0 := y0.cell 0 rfl; have d1 := y0.cell 1 rfl; have d2 := y0.cell 2 rfl; have d3 := y0.cell 3 rfl; have d4 := y0.cell 4 rfl; have d5 := y0.cell 5 rfl; have e0 := z0.cell 0 rfl; have e1 := z0.cell 1 rfl; have e2 := z0.cell 2 rfl; have e3 := z0.cell 3 rfl; have e4 := z0.cell 4 rfl
          clear hM0 hYA hYB hbd hx1 hy1 hz1 hb1 hM1 hcur hcs hfs eq0 hs9 hye hge hce hks hkd hkl2 hk9 hn3' ho2
          go_upto_region 9 with fail
          clear d0 d1 d2 d3 d4 d5 e0 e1 e2 e3 e4 x0 y0 z0 hb
          refine wp_region_head 14 (fun w' => Bx w' (w.heap.size + 1) #[.int .i64 (t : Int), .int .i64 yc, .int .i64 (j : Int), .int .i64 ye, .int .i64 yh, .int .i64 yk] 58 ∧ Bx w' g #[.slice oab X.bs.length ocb, .slice oast X.st.length ocs, .slice oae X.er.length oce, .slice oak km ock, .int .i64 (X.ch + yh)] 26 ∧ w'.cell? ⟨ge, t, none⟩ = some (.slice (some ⟨gi, 0, none⟩) ks.length ci) ∧ w'.cell? ⟨gi, j, none⟩ = some (.int .i64 o2)) (by kernel_rfl) rfl ?_
          generalize Vn.drew = Yw at *
          refine HeadAt.take (i := 0) (.pointer (some ⟨g, 2, none⟩)) rfl (by kernel_rfl) (.inl ⟨rfl, fun _ _ => by simp [go_sem]⟩) S0 ?_
          (try simp only [Act.put, List.getElem_toArray, List.getElem_cons_succ, List.getElem_cons_zero, List.setIfInBounds_toArray, List.set_cons_succ, List.set_cons_zero])
          refine HeadAt.take (i := 1) (.slice oae X.er.length oce) rfl (by kernel_rfl) (.inl ⟨rfl, fun w' z => ?_⟩) S0 ?_
          · (have z0 := z.2.1.cell 2 rfl; simp [go_sem, z0])
          refine HeadAt.take (i := 2) (.pointer (some ⟨w.heap.size + 1, 0, none⟩)) rfl (by kernel_rfl) (.inl ⟨rfl, fun _ _ => by simp [go_sem]⟩) S0 ?_
          (try simp only [Act.put, List.getElem_toArray, List.getElem_cons_succ, List.getElem_cons_zero, List.setIfInBounds_toArray, List.set_cons_succ, List.set_cons_zero])
          refine HeadAt.take (i := 3) (.int .i64 (t : Int)) rfl (by kernel_rfl) (.inl ⟨rfl, fun w' z => ?_⟩) S0 ?_
          · (have z0 := z.1.cell 0 rfl; simp [go_sem, z0])
          (try simp only [Act.put, List.getElem_toArray, List.getElem_cons_succ, List.getElem_cons_zero, List.setIfInBounds_toArray, List.set_cons_succ, List.set_cons_zero])
          refine HeadAt.take (i := 4) (.pointer (some ⟨ge, t, none⟩)) rfl (by kernel_rfl) (.inl ⟨rfl, fun w' z => ?_⟩) S0 ?_
          · (have hge' := HGE.out; simp [go_sem, htE, hge'])
          (try simp only [Act.put, List.getElem_toArray, List.getElem_cons_succ, List.getElem_cons_zero, List.setIfInBounds_toArray, List.set_cons_succ, List.set_cons_zero])
          refine HeadAt.take (i := 5) (.slice (some ⟨gi, 0, none⟩) ks.length ci) rfl (by kernel_rfl) (.inl ⟨rfl, fun w' z => ?_⟩) S0 ?_
          · (have z2 := z.2.2.1; simp [go_sem, z2])
          refine HeadAt.take (i := 6) (.pointer (some ⟨w.heap.size + 1, 2, none⟩)) rfl (by kernel_rfl) (.inl ⟨rfl, fun _ _ => by simp [go_sem]⟩) S0 ?_
          (try simp only [Act.put, List.getElem_toArray, List.getElem_cons_succ, List.getElem_cons_zero, List.setIfInBounds_toArray, List.set_cons_succ, List.set_cons_zero])
          refine HeadAt.take (i := 7) (.int .i64 (j : Int)) rfl (by kernel_rfl) (.inl ⟨rfl, fun w' z => ?_⟩) S0 ?_
          · (have z0 := z.1.cell 2 rfl; simp [go_sem, z0])
          (try simp only [Act.put, List.getElem_toArray, List.getElem_cons_succ, List.getElem_cons_zero, List.setIfInBounds_toArray, List.set_cons_succ, List.set_cons_zero])
          refine HeadAt.take (i := 8) (.pointer (some ⟨gi, j, none⟩)) rfl (by kernel_rfl) (.inl ⟨rfl, fun w' z => ?_⟩) S0 ?_
          · (simp [go_sem, hjI])
          (try simp only [Act.put, List.getElem_toArray, List.getElem_cons_succ, List.getElem_cons_zero, List.setIfInBounds_toArray, List.set_cons_succ, List.set_cons_zero])
          refine HeadAt.take (i := 9) (.int .i64 o2) rfl (by kernel_rfl) (.inl ⟨rfl, fun w' z => ?_⟩) S0 ?_
          · (have z2 := z.2.2.2; simp [go_sem, -List.getD_eq_getElem?_getD, z2])
          refine HeadAt.take (i := 10) (.pointer (some ⟨w.heap.size + 1, 3, none⟩)) rfl (by kernel_rfl) (.inl ⟨rfl, fun _ _ => by simp [go_sem]⟩) S0 ?_
          (try simp only [Act.put, List.getElem_toArray, List.getElem_cons_succ, List.getElem_cons_zero, List.setIfInBounds_toArray, List.set_cons_succ, List.set_cons_zero])
          refine HeadAt.take (i := 11) (.int .i64 ye) rfl (by kernel_rfl) (.inl ⟨rfl, fun w' z => ?_⟩) S0 ?_
          · (have z0 := z.1.cell 3 rfl; simp [go_sem, z0])
          (try simp only [Act.put, List.getElem_toArray, List.getElem_cons_succ, List.getElem_cons_zero, List.setIfInBounds_toArray, List.set_cons_succ, List.set_cons_zero])
          refine HeadAt.take (i := 12) (.int .i64 (o2 + ye)) rfl (by kernel_rfl) (.inl ⟨rfl, fun w' z => ?_⟩) S0 ?_
          · (simp [go_sem, -List.getD_eq_getElem?_getD, hwt])
          refine HeadAt.take (i := 13) (.pointer (some ⟨gi, j, none⟩)) rfl (by kernel_rfl) (.inl ⟨rfl, fun w' z => ?_⟩) S0 ?_
          · (simp [go_sem, hjI])
          refine HeadAt.done (by kernel_rfl) ?_
          (try simp only [Act.put, List.drop_succ_cons, List.drop_zero, List.getElem_toArray, List.getElem_cons_succ, List.getElem_cons_zero])
          obtain ⟨y0, z0, hce, hcs⟩ := S0
          obtain ⟨hb, x0, hM1, hYB⟩ := HN.out
          have hfs := HFS.out
          have hx2 := x0.other (a := ⟨gi, j, none⟩) (by show w.heap.size ≠ gi; omega) (.int .i64 (o2 + ye))
          have hy2 := y0.other (a := ⟨gi, j, none⟩) (by show w.heap.size + 1 ≠ gi; omega) (.int .i64 (o2 + ye))
          have hz2 := z0.other (a := ⟨gi, j, none⟩) hne (.int .i64 (o2 + ye))
          have hb2 := hb.setCell (p := ⟨gi, j, none⟩) (by show w.heap.size ≤ gi; omega) (.int .i64 (o2 + ye))
          have HN2 := hid (And.intro hb2 (And.intro hx2 (And.intro hy2 (And.intro hz2 (And.intro hM1 hYB)))))
          clear HN HFS hb x0 y0 z0 hM1 hYB hx2 hy2 hz2 hb2
          go_wp2_with fail
          refine NoPanic.normal ?_
          obtain ⟨hb, x0, y0, z0, hM0, hYA⟩ := HN2.out
          clear HN2 hcs hfs hwt hce hjI
          generalize World.setCell _ _ _ = Vn at *
          have eq0 : ({ X with ks := X.ks.take km, ch := X.ch + yh, st := X.st.set t (o1 + yc), er := X.er.set t (ks.set j (o2 + ye)) } : Sw).bs.length = X.bs.length ∧ ({ X with ks := X.ks.take km, ch := X.ch + yh, st := X.st.set t (o1 + yc), er := X.er.set t (ks.set j (o2 + ye)) } : Sw).st.length = X.st.length ∧ ({ X with ks := X.ks.take km, ch := X.ch + yh, st := X.st.set t (o1 + yc), er := X.er.set t (ks.set j (o2 + ye)) } : Sw).er.length = X.er.length ∧ ({ X with ks := X.ks.take km, ch := X.ch + yh, st := X.st.set t (o1 + yc), er := X.er.set t (ks.set j (o2 + ye)) } : Sw).ks.length = km ∧ ({ X with ks := X.ks.take km, ch := X.ch + yh, st := X.st.set t (o1 + yc), er := X.er.set t (ks.set j (o2 + ye)) } : Sw).ch = X.ch + yh := ⟨rfl, by show (X.st.set t _).length = _; rw [List.length_set], by show (X.er.set t _).length = _; rw [List.length_set], by show (X.ks.take km).length = km; rw [List.length_take]; omega, rfl⟩
          obtain ⟨Y, hYd⟩ : ∃ Y : Sw, Y = { X with ks := X.ks.take km, ch := X.ch + yh, st := X.st.set t (o1 + yc), er := X.er.set t (ks.set j (o2 + ye)) } := ⟨_, rfl⟩
          have hYY : MoreY X Y := by rw [hYd]; exact hYA
          have eqs : Y.bs.length = X.bs.length ∧ Y.st.length = X.st.length ∧ Y.er.length = X.er.length ∧ Y.ks.length = km ∧ Y.ch = X.ch + yh := by rw [hYd]; exact eq0
          obtain ⟨b1, b2, b3, b4, k1, k2, k3, k4, q1, q2, q3, q4, hO⟩ := hM0.swp (by rw [← hYd, hYY.m.bs]; have := HOK.out.nb3; omega) (by rw [← hYd]; exact hYY.s) (by rw [← hYd]; exact hYY.e) (by rw [← hYd]; exact hYY.k) (by rw [← hYd]; exact hYY.r1) (by rw [← hYd]; exact hYY.r2)
          injection q1 with r1 n1 r2
          injection q2 with r3 n2 r4
          injection q3 with r5 n3 r6
          injection q4 with r7 n4 r8
          subst r1 r2 r3 r4 r5 r6 r7 r8
          clear n1 n2 n3 n4
          rw [← hYd] at hO
          have z1 : Bx Vn g #[.slice oab Y.bs.length ocb, .slice oast Y.st.length ocs, .slice oae Y.er.length oce, .slice oak Y.ks.length ock, .int .i64 Y.ch] 26 := by rw [eqs.1, eqs.2.1, eqs.2.2.1, eqs.2.2.2.1, eqs.2.2.2.2]; exact z0
          clear hM0 hYA hYd eq0 eqs
          have d0 := y0.cell 0 rfl; have d1 := y0.cell 1 rfl; have d2 := y0.cell 2 rfl; have d3 := y0.cell 3 rfl; have d4 := y0.cell 4 rfl; have d5 := y0.cell 5 rfl; have e0 := z0.cell 0 rfl; have e1 := z0.cell 1 rfl; have e2 := z0.cell 2 rfl; have e3 := z0.cell 3 rfl; have e4 := z0.cell 4 rfl; have c0 := x0.cell 0 rfl; have c1 := x0.cell 1 rfl; have c2 := x0.cell 2 rfl; have c3 := x0.cell 3 rfl; have c4 := x0.cell 4 rfl
          go_upto_region 10 with fail
          clear d0 d1 d2 d3 d4 d5 e0 e1 e2 e3 e4 y0 z0
          have z0 := z1
          clear z1
          have e0 := z0.cell 0 rfl; have e1 := z0.cell 1 rfl; have e2 := z0.cell 2 rfl; have e3 := z0.cell 3 rfl; have e4 := z0.cell 4 rfl
          cases hrY : rdB Y
          · have hry := fun V h => ready_any oab oast oae oak ocb ocs oce ock Y V h
            rw [hrY] at hry
            go_wp2_with fail
            refine (hry _ hO).mono ?_
            rintro e Vn ⟨rfl, hb1⟩
            replace hb := hb.trans (hb1.mono hb.size)
            replace x0 := x0.below hb1
            replace z0 := z0.below hb1
            replace hO := hO.below hb1 (Nat.le_refl _)
            clear hb1 c0 c1 c2 c3 c4 e0 e1 e2 e3 e4
            have c0 := x0.cell 0 rfl; have c1 := x0.cell 1 rfl; have c2 := x0.cell 2 rfl; have c3 := x0.cell 3 rfl; have c4 := x0.cell 4 rfl; have e0 := z0.cell 0 rfl; have e1 := z0.cell 1 rfl; have e2 := z0.cell 2 rfl; have e3 := z0.cell 3 rfl; have e4 := z0.cell 4 rfl
            go_wp2_with fail
            refine (hW _).mono ?_
            rintro e Vw ⟨rfl, hb1⟩
            replace hb := hb.trans (hb1.mono hb.size)
            go_wp2
            go_ret
            exact ⟨rfl, hb⟩
          · have hry := fun V h => ready_any oab oast oae oak ocb ocs oce ock Y V h
            rw [hrY] at hry
            have hvY := (rdB_iff hrY).1
            obtain ⟨fa, fb, fe, hfab, hfe, hfX, hfY⟩ := fair_two hv hvY hYY.m
            obtain ⟨fm, fn, fi, fj, hfi, hfj, hfij, hwX, hwY⟩ := few_two hv hvY hYY.m goal g0 g9
            have hbeX := fun V h => Best_ok ab ast ae ak cb cs ce ck X V h hv
            have hbeY := fun V h => Best_ok oab oast oae oak ocb ocs oce ock Y V h hvY
            have hbxy := more_best (vB_iff hv) (vB_iff hvY) hYY.m
            have hke := isKnown_any fe
            rw [known_true hfe] at hke
            have hki := isKnown_any fi
            rw [known_true hfi] at hki
            have hkj := isKnown_any fj
            rw [known_true hfj] at hkj
            generalize earn X.vz (bestP X.vz) = bx at *
            generalize earn Y.vz (bestP Y.vz) = by1 at *
            clear hrY hYY hfe hfj hvY
            go_wp2_with fail
            refine (hry _ hO).mono ?_
            rintro e Vn ⟨rfl, hb1⟩
            replace hb := hb.trans (hb1.mono hb.size)
            replace x0 := x0.below hb1
            replace z0 := z0.below hb1
            replace hO := hO.below hb1 (Nat.le_refl _)
            clear hb1 c0 c1 c2 c3 c4 e0 e1 e2 e3 e4
            have c0 := x0.cell 0 rfl; have c1 := x0.cell 1 rfl; have c2 := x0.cell 2 rfl; have c3 := x0.cell 3 rfl; have c4 := x0.cell 4 rfl; have e0 := z0.cell 0 rfl; have e1 := z0.cell 1 rfl; have e2 := z0.cell 2 rfl; have e3 := z0.cell 3 rfl; have e4 := z0.cell 4 rfl
            go_wp2_with fail
            refine (hbeX _ (hgX _ hb)).mono ?_
            rintro e Vn ⟨rfl, hb1⟩
            replace hb := hb.trans (hb1.mono hb.size)
            replace x0 := x0.below hb1
            replace z0 := z0.below hb1
            replace hO := hO.below hb1 (Nat.le_refl _)
            clear hb1 c0 c1 c2 c3 c4 e0 e1 e2 e3 e4
            have c0 := x0.cell 0 rfl; have c1 := x0.cell 1 rfl; have c2 := x0.cell 2 rfl; have c3 := x0.cell 3 rfl; have c4 := x0.cell 4 rfl; have e0 := z0.cell 0 rfl; have e1 := z0.cell 1 rfl; have e2 := z0.cell 2 rfl; have e3 := z0.cell 3 rfl; have e4 := z0.cell 4 rfl
            go_wp2_with fail
            refine (hbeY _ hO).mono ?_
            rintro e Vn ⟨rfl, hb1⟩
            replace hb := hb.trans (hb1.mono hb.size)
            replace x0 := x0.below hb1
            replace z0 := z0.below hb1
            replace hO := hO.below hb1 (Nat.le_refl _)
            clear hb1 c0 c1 c2 c3 c4 e0 e1 e2 e3 e4
            have c0 := x0.cell 0 rfl; have c1 := x0.cell 1 rfl; have c2 := x0.cell 2 rfl; have c3 := x0.cell 3 rfl; have c4 := x0.cell 4 rfl; have e0 := z0.cell 0 rfl; have e1 := z0.cell 1 rfl; have e2 := z0.cell 2 rfl; have e3 := z0.cell 3 rfl; have e4 := z0.cell 4 rfl
            go_wp2_with fail
            refine (hfX _ _ _ _ _ _ _ _ _ (hgX _ hb)).mono ?_
            rintro e Vn ⟨rfl, hb1⟩
            replace hb := hb.trans (hb1.mono hb.size)
            replace x0 := x0.below hb1
            replace z0 := z0.below hb1
            replace hO := hO.below hb1 (Nat.le_refl _)
            clear hb1 c0 c1 c2 c3 c4 e0 e1 e2 e3 e4
            have c0 := x0.cell 0 rfl; have c1 := x0.cell 1 rfl; have c2 := x0.cell 2 rfl; have c3 := x0.cell 3 rfl; have c4 := x0.cell 4 rfl; have e0 := z0.cell 0 rfl; have e1 := z0.cell 1 rfl; have e2 := z0.cell 2 rfl; have e3 := z0.cell 3 rfl; have e4 := z0.cell 4 rfl
            go_wp2_with fail
            refine (hfY _ _ _ _ _ _ _ _ _ hO).mono ?_
            rintro e Vn ⟨rfl, hb1⟩
            replace hb := hb.trans (hb1.mono hb.size)
            replace x0 := x0.below hb1
            replace z0 := z0.below hb1
            replace hO := hO.below hb1 (Nat.le_refl _)
            clear hb1 c0 c1 c2 c3 c4 e0 e1 e2 e3 e4
            have c0 := x0.cell 0 rfl; have c1 := x0.cell 1 rfl; have c2 := x0.cell 2 rfl; have c3 := x0.cell 3 rfl; have c4 := x0.cell 4 rfl; have e0 := z0.cell 0 rfl; have e1 := z0.cell 1 rfl; have e2 := z0.cell 2 rfl; have e3 := z0.cell 3 rfl; have e4 := z0.cell 4 rfl
            go_wp2_with fail
            refine (hwX _ _ _ _ _ _ _ _ _ (hgX _ hb)).mono ?_
            rintro e Vn ⟨rfl, hb1⟩
            replace hb := hb.trans (hb1.mono hb.size)
            replace x0 := x0.below hb1
            replace z0 := z0.below hb1
            replace hO := hO.below hb1 (Nat.le_refl _)
            clear hb1 c0 c1 c2 c3 c4 e0 e1 e2 e3 e4
            have c0 := x0.cell 0 rfl; have c1 := x0.cell 1 rfl; have c2 := x0.cell 2 rfl; have c3 := x0.cell 3 rfl; have c4 := x0.cell 4 rfl; have e0 := z0.cell 0 rfl; have e1 := z0.cell 1 rfl; have e2 := z0.cell 2 rfl; have e3 := z0.cell 3 rfl; have e4 := z0.cell 4 rfl
            go_wp2_with fail
            refine (hwY _ _ _ _ _ _ _ _ _ hO).mono ?_
            rintro e Vn ⟨rfl, hb1⟩
            replace hb := hb.trans (hb1.mono hb.size)
            replace x0 := x0.below hb1
            replace z0 := z0.below hb1
            replace hO := hO.below hb1 (Nat.le_refl _)
            clear hb1 c0 c1 c2 c3 c4 e0 e1 e2 e3 e4
            have c0 := x0.cell 0 rfl; have c1 := x0.cell 1 rfl; have c2 := x0.cell 2 rfl; have c3 := x0.cell 3 rfl; have c4 := x0.cell 4 rfl; have e0 := z0.cell 0 rfl; have e1 := z0.cell 1 rfl; have e2 := z0.cell 2 rfl; have e3 := z0.cell 3 rfl; have e4 := z0.cell 4 rfl
            clear hfX hfY hwX hwY hbeX hbeY hry hgX x0 z0 hO c0 c1 c2 c3 c4 e0 e1 e2 e3 e4
            go_wp2_with fail
            refine (hke _).mono ?_
            rintro e Vm ⟨rfl, rfl⟩
            go_wp2_with fail
            refine (hki _).mono ?_
            rintro e Vm ⟨rfl, rfl⟩
            go_wp2_with fail
            refine (hkj _).mono ?_
            rintro e Vm ⟨rfl, rfl⟩
            clear hke hki hkj
            rcases hfi with rfl | rfl
            · obtain ⟨rfl, hn0, hnm⟩ := hfij rfl
              go_wp2_with fail
              refine (hW _).mono ?_
              rintro e Vw ⟨rfl, hb1⟩
              replace hb := hb.trans (hb1.mono hb.size)
              go_wp2
              go_ret
              exact ⟨rfl, hb⟩
            · clear hfij
              go_wp2_with fail
              refine (hW _).mono ?_
              rintro e Vw ⟨rfl, hb1⟩
              replace hb := hb.trans (hb1.mono hb.size)
              go_wp2
              go_ret
              exact ⟨rfl, hb⟩
        · obtain ⟨Y, hYd⟩ : ∃ Y : Sw, Y = { X with ks := X.ks.take km, ch := X.ch + yh, st := X.st.set t (o1 + yc) } := ⟨_, rfl⟩
          have hYY : MoreY X Y := by rw [hYd]; exact hYA
          have eqs : Y.bs.length = X.bs.length ∧ Y.st.length = X.st.length ∧ Y.er.length = X.er.length ∧ Y.ks.length = km ∧ Y.ch = X.ch + yh := by rw [hYd]; exact eq0
          obtain ⟨b1, b2, b3, b4, k1, k2, k3, k4, q1, q2, q3, q4, hO⟩ := hM0.swp (by rw [← hYd, hYY.m.bs]; have := HOK.out.nb3; omega) (by rw [← hYd]; exact hYY.s) (by rw [← hYd]; exact hYY.e) (by rw [← hYd]; exact hYY.k) (by rw [← hYd]; exact hYY.r1) (by rw [← hYd]; exact hYY.r2)
          injection q1 with r1 n1 r2
          injection q2 with r3 n2 r4
          injection q3 with r5 n3 r6
          injection q4 with r7 n4 r8
          subst r1 r2 r3 r4 r5 r6 r7 r8
          clear n1 n2 n3 n4
          rw [← hYd] at hO
          have z1 : Bx Vn g #[.slice oab Y.bs.length ocb, .slice oast Y.st.length ocs, .slice oae Y.er.length oce, .slice oak Y.ks.length ock, .int .i64 Y.ch] 26 := by rw [eqs.1, eqs.2.1, eqs.2.2.1, eqs.2.2.2.1, eqs.2.2.2.2]; exact z0
          clear hM0 hYA hYd eq0 eqs
          have d0 := y0.cell 0 rfl; have d1 := y0.cell 1 rfl; have d2 := y0.cell 2 rfl; have d3 := y0.cell 3 rfl; have d4 := y0.cell 4 rfl; have d5 := y0.cell 5 rfl; have e0 := z0.cell 0 rfl; have e1 := z0.cell 1 rfl; have e2 := z0.cell 2 rfl; have e3 := z0.cell 3 rfl; have e4 := z0.cell 4 rfl; have c0 := x0.cell 0 rfl; have c1 := x0.cell 1 rfl; have c2 := x0.cell 2 rfl; have c3 := x0.cell 3 rfl; have c4 := x0.cell 4 rfl
          go_upto_region 10 with fail
          clear d0 d1 d2 d3 d4 d5 e0 e1 e2 e3 e4 y0 z0
          have z0 := z1
          clear z1
          have e0 := z0.cell 0 rfl; have e1 := z0.cell 1 rfl; have e2 := z0.cell 2 rfl; have e3 := z0.cell 3 rfl; have e4 := z0.cell 4 rfl
          cases hrY : rdB Y
          · have hry := fun V h => ready_any oab oast oae oak ocb ocs oce ock Y V h
            rw [hrY] at hry
            go_wp2_with fail
            refine (hry _ hO).mono ?_
            rintro e Vn ⟨rfl, hb1⟩
            replace hb := hb.trans (hb1.mono hb.size)
            replace x0 := x0.below hb1
            replace z0 := z0.below hb1
            replace hO := hO.below hb1 (Nat.le_refl _)
            clear hb1 c0 c1 c2 c3 c4 e0 e1 e2 e3 e4
            have c0 := x0.cell 0 rfl; have c1 := x0.cell 1 rfl; have c2 := x0.cell 2 rfl; have c3 := x0.cell 3 rfl; have c4 := x0.cell 4 rfl; have e0 := z0.cell 0 rfl; have e1 := z0.cell 1 rfl; have e2 := z0.cell 2 rfl; have e3 := z0.cell 3 rfl; have e4 := z0.cell 4 rfl
            go_wp2_with fail
            refine (hW _).mono ?_
            rintro e Vw ⟨rfl, hb1⟩
            replace hb := hb.trans (hb1.mono hb.size)
            go_wp2
            go_ret
            exact ⟨rfl, hb⟩
          · have hry := fun V h => ready_any oab oast oae oak ocb ocs oce ock Y V h
            rw [hrY] at hry
            have hvY := (rdB_iff hrY).1
            obtain ⟨fa, fb, fe, hfab, hfe, hfX, hfY⟩ := fair_two hv hvY hYY.m
            obtain ⟨fm, fn, fi, fj, hfi, hfj, hfij, hwX, hwY⟩ := few_two hv hvY hYY.m goal g0 g9
            have hbeX := fun V h => Best_ok ab ast ae ak cb cs ce ck X V h hv
            have hbeY := fun V h => Best_ok oab oast oae oak ocb ocs oce ock Y V h hvY
            have hbxy := more_best (vB_iff hv) (vB_iff hvY) hYY.m
            have hke := isKnown_any fe
            rw [known_true hfe] at hke
            have hki := isKnown_any fi
            rw [known_true hfi] at hki
            have hkj := isKnown_any fj
            rw [known_true hfj] at hkj
            generalize earn X.vz (bestP X.vz) = bx at *
            generalize earn Y.vz (bestP Y.vz) = by1 at *
            clear hrY hYY hfe hfj hvY
            go_wp2_with fail
            refine (hry _ hO).mono ?_
            rintro e Vn ⟨rfl, hb1⟩
            replace hb := hb.trans (hb1.mono hb.size)
            replace x0 := x0.below hb1
            replace z0 := z0.below hb1
            replace hO := hO.below hb1 (Nat.le_refl _)
            clear hb1 c0 c1 c2 c3 c4 e0 e1 e2 e3 e4
            have c0 := x0.cell 0 rfl; have c1 := x0.cell 1 rfl; have c2 := x0.cell 2 rfl; have c3 := x0.cell 3 rfl; have c4 := x0.cell 4 rfl; have e0 := z0.cell 0 rfl; have e1 := z0.cell 1 rfl; have e2 := z0.cell 2 rfl; have e3 := z0.cell 3 rfl; have e4 := z0.cell 4 rfl
            go_wp2_with fail
            refine (hbeX _ (hgX _ hb)).mono ?_
            rintro e Vn ⟨rfl, hb1⟩
            replace hb := hb.trans (hb1.mono hb.size)
            replace x0 := x0.below hb1
            replace z0 := z0.below hb1
            replace hO := hO.below hb1 (Nat.le_refl _)
            clear hb1 c0 c1 c2 c3 c4 e0 e1 e2 e3 e4
            have c0 := x0.cell 0 rfl; have c1 := x0.cell 1 rfl; have c2 := x0.cell 2 rfl; have c3 := x0.cell 3 rfl; have c4 := x0.cell 4 rfl; have e0 := z0.cell 0 rfl; have e1 := z0.cell 1 rfl; have e2 := z0.cell 2 rfl; have e3 := z0.cell 3 rfl; have e4 := z0.cell 4 rfl
            go_wp2_with fail
            refine (hbeY _ hO).mono ?_
            rintro e Vn ⟨rfl, hb1⟩
            replace hb := hb.trans (hb1.mono hb.size)
            replace x0 := x0.below hb1
            replace z0 := z0.below hb1
            replace hO := hO.below hb1 (Nat.le_refl _)
            clear hb1 c0 c1 c2 c3 c4 e0 e1 e2 e3 e4
            have c0 := x0.cell 0 rfl; have c1 := x0.cell 1 rfl; have c2 := x0.cell 2 rfl; have c3 := x0.cell 3 rfl; have c4 := x0.cell 4 rfl; have e0 := z0.cell 0 rfl; have e1 := z0.cell 1 rfl; have e2 := z0.cell 2 rfl; have e3 := z0.cell 3 rfl; have e4 := z0.cell 4 rfl
            go_wp2_with fail
            refine (hfX _ _ _ _ _ _ _ _ _ (hgX _ hb)).mono ?_
            rintro e Vn ⟨rfl, hb1⟩
            replace hb := hb.trans (hb1.mono hb.size)
            replace x0 := x0.below hb1
            replace z0 := z0.below hb1
            replace hO := hO.below hb1 (Nat.le_refl _)
            clear hb1 c0 c1 c2 c3 c4 e0 e1 e2 e3 e4
            have c0 := x0.cell 0 rfl; have c1 := x0.cell 1 rfl; have c2 := x0.cell 2 rfl; have c3 := x0.cell 3 rfl; have c4 := x0.cell 4 rfl; have e0 := z0.cell 0 rfl; have e1 := z0.cell 1 rfl; have e2 := z0.cell 2 rfl; have e3 := z0.cell 3 rfl; have e4 := z0.cell 4 rfl
            go_wp2_with fail
            refine (hfY _ _ _ _ _ _ _ _ _ hO).mono ?_
            rintro e Vn ⟨rfl, hb1⟩
            replace hb := hb.trans (hb1.mono hb.size)
            replace x0 := x0.below hb1
            replace z0 := z0.below hb1
            replace hO := hO.below hb1 (Nat.le_refl _)
            clear hb1 c0 c1 c2 c3 c4 e0 e1 e2 e3 e4
            have c0 := x0.cell 0 rfl; have c1 := x0.cell 1 rfl; have c2 := x0.cell 2 rfl; have c3 := x0.cell 3 rfl; have c4 := x0.cell 4 rfl; have e0 := z0.cell 0 rfl; have e1 := z0.cell 1 rfl; have e2 := z0.cell 2 rfl; have e3 := z0.cell 3 rfl; have e4 := z0.cell 4 rfl
            go_wp2_with fail
            refine (hwX _ _ _ _ _ _ _ _ _ (hgX _ hb)).mono ?_
            rintro e Vn ⟨rfl, hb1⟩
            replace hb := hb.trans (hb1.mono hb.size)
            replace x0 := x0.below hb1
            replace z0 := z0.below hb1
            replace hO := hO.below hb1 (Nat.le_refl _)
            clear hb1 c0 c1 c2 c3 c4 e0 e1 e2 e3 e4
            have c0 := x0.cell 0 rfl; have c1 := x0.cell 1 rfl; have c2 := x0.cell 2 rfl; have c3 := x0.cell 3 rfl; have c4 := x0.cell 4 rfl; have e0 := z0.cell 0 rfl; have e1 := z0.cell 1 rfl; have e2 := z0.cell 2 rfl; have e3 := z0.cell 3 rfl; have e4 := z0.cell 4 rfl
            go_wp2_with fail
            refine (hwY _ _ _ _ _ _ _ _ _ hO).mono ?_
            rintro e Vn ⟨rfl, hb1⟩
            replace hb := hb.trans (hb1.mono hb.size)
            replace x0 := x0.below hb1
            replace z0 := z0.below hb1
            replace hO := hO.below hb1 (Nat.le_refl _)
            clear hb1 c0 c1 c2 c3 c4 e0 e1 e2 e3 e4
            have c0 := x0.cell 0 rfl; have c1 := x0.cell 1 rfl; have c2 := x0.cell 2 rfl; have c3 := x0.cell 3 rfl; have c4 := x0.cell 4 rfl; have e0 := z0.cell 0 rfl; have e1 := z0.cell 1 rfl; have e2 := z0.cell 2 rfl; have e3 := z0.cell 3 rfl; have e4 := z0.cell 4 rfl
            clear hfX hfY hwX hwY hbeX hbeY hry hgX x0 z0 hO c0 c1 c2 c3 c4 e0 e1 e2 e3 e4
            go_wp2_with fail
            refine (hke _).mono ?_
            rintro e Vm ⟨rfl, rfl⟩
            go_wp2_with fail
            refine (hki _).mono ?_
            rintro e Vm ⟨rfl, rfl⟩
            go_wp2_with fail
            refine (hkj _).mono ?_
            rintro e Vm ⟨rfl, rfl⟩
            clear hke hki hkj
            rcases hfi with rfl | rfl
            · obtain ⟨rfl, hn0, hnm⟩ := hfij rfl
              go_wp2_with fail
              refine (hW _).mono ?_
              rintro e Vw ⟨rfl, hb1⟩
              replace hb := hb.trans (hb1.mono hb.size)
              go_wp2
              go_ret
              exact ⟨rfl, hb⟩
            · clear hfij
              go_wp2_with fail
              refine (hW _).mono ?_
              rintro e Vw ⟨rfl, hb1⟩
              replace hb := hb.trans (hb1.mono hb.size)
              go_wp2
              go_ret
              exact ⟨rfl, hb⟩
      · have b0' : yb < 0 := by omega
        obtain ⟨Y, hYd⟩ : ∃ Y : Sw, Y = { X with ks := X.ks.take km, ch := X.ch + yh, st := X.st.set t (o1 + yc) } := ⟨_, rfl⟩
        have hYY : MoreY X Y := by rw [hYd]; exact hYA
        have eqs : Y.bs.length = X.bs.length ∧ Y.st.length = X.st.length ∧ Y.er.length = X.er.length ∧ Y.ks.length = km ∧ Y.ch = X.ch + yh := by rw [hYd]; exact eq0
        obtain ⟨b1, b2, b3, b4, k1, k2, k3, k4, q1, q2, q3, q4, hO⟩ := hM0.swp (by rw [← hYd, hYY.m.bs]; have := HOK.out.nb3; omega) (by rw [← hYd]; exact hYY.s) (by rw [← hYd]; exact hYY.e) (by rw [← hYd]; exact hYY.k) (by rw [← hYd]; exact hYY.r1) (by rw [← hYd]; exact hYY.r2)
        injection q1 with r1 n1 r2
        injection q2 with r3 n2 r4
        injection q3 with r5 n3 r6
        injection q4 with r7 n4 r8
        subst r1 r2 r3 r4 r5 r6 r7 r8
        clear n1 n2 n3 n4
        rw [← hYd] at hO
        have z1 : Bx Vn g #[.slice oab Y.bs.length ocb, .slice oast Y.st.length ocs, .slice oae Y.er.length oce, .slice oak Y.ks.length ock, .int .i64 Y.ch] 26 := by rw [eqs.1, eqs.2.1, eqs.2.2.1, eqs.2.2.2.1, eqs.2.2.2.2]; exact z0
        clear hM0 hYA hYd eq0 eqs
        have d0 := y0.cell 0 rfl; have d1 := y0.cell 1 rfl; have d2 := y0.cell 2 rfl; have d3 := y0.cell 3 rfl; have d4 := y0.cell 4 rfl; have d5 := y0.cell 5 rfl; have e0 := z0.cell 0 rfl; have e1 := z0.cell 1 rfl; have e2 := z0.cell 2 rfl; have e3 := z0.cell 3 rfl; have e4 := z0.cell 4 rfl; have c0 := x0.cell 0 rfl; have c1 := x0.cell 1 rfl; have c2 := x0.cell 2 rfl; have c3 := x0.cell 3 rfl; have c4 := x0.cell 4 rfl
        go_upto_region 10 with fail
        clear d0 d1 d2 d3 d4 d5 e0 e1 e2 e3 e4 y0 z0
        have z0 := z1
        clear z1
        have e0 := z0.cell 0 rfl; have e1 := z0.cell 1 rfl; have e2 := z0.cell 2 rfl; have e3 := z0.cell 3 rfl; have e4 := z0.cell 4 rfl
        cases hrY : rdB Y
        · have hry := fun V h => ready_any oab oast oae oak ocb ocs oce ock Y V h
          rw [hrY] at hry
          go_wp2_with fail
          refine (hry _ hO).mono ?_
          rintro e Vn ⟨rfl, hb1⟩
          replace hb := hb.trans (hb1.mono hb.size)
          replace x0 := x0.below hb1
          replace z0 := z0.below hb1
          replace hO := hO.below hb1 (Nat.le_refl _)
          clear hb1 c0 c1 c2 c3 c4 e0 e1 e2 e3 e4
          have c0 := x0.cell 0 rfl; have c1 := x0.cell 1 rfl; have c2 := x0.cell 2 rfl; have c3 := x0.cell 3 rfl; have c4 := x0.cell 4 rfl; have e0 := z0.cell 0 rfl; have e1 := z0.cell 1 rfl; have e2 := z0.cell 2 rfl; have e3 := z0.cell 3 rfl; have e4 := z0.cell 4 rfl
          go_wp2_with fail
          refine (hW _).mono ?_
          rintro e Vw ⟨rfl, hb1⟩
          replace hb := hb.trans (hb1.mono hb.size)
          go_wp2
          go_ret
          exact ⟨rfl, hb⟩
        · have hry := fun V h => ready_any oab oast oae oak ocb ocs oce ock Y V h
          rw [hrY] at hry
          have hvY := (rdB_iff hrY).1
          obtain ⟨fa, fb, fe, hfab, hfe, hfX, hfY⟩ := fair_two hv hvY hYY.m
          obtain ⟨fm, fn, fi, fj, hfi, hfj, hfij, hwX, hwY⟩ := few_two hv hvY hYY.m goal g0 g9
          have hbeX := fun V h => Best_ok ab ast ae ak cb cs ce ck X V h hv
          have hbeY := fun V h => Best_ok oab oast oae oak ocb ocs oce ock Y V h hvY
          have hbxy := more_best (vB_iff hv) (vB_iff hvY) hYY.m
          have hke := isKnown_any fe
          rw [known_true hfe] at hke
          have hki := isKnown_any fi
          rw [known_true hfi] at hki
          have hkj := isKnown_any fj
          rw [known_true hfj] at hkj
          generalize earn X.vz (bestP X.vz) = bx at *
          generalize earn Y.vz (bestP Y.vz) = by1 at *
          clear hrY hYY hfe hfj hvY
          go_wp2_with fail
          refine (hry _ hO).mono ?_
          rintro e Vn ⟨rfl, hb1⟩
          replace hb := hb.trans (hb1.mono hb.size)
          replace x0 := x0.below hb1
          replace z0 := z0.below hb1
          replace hO := hO.below hb1 (Nat.le_refl _)
          clear hb1 c0 c1 c2 c3 c4 e0 e1 e2 e3 e4
          have c0 := x0.cell 0 rfl; have c1 := x0.cell 1 rfl; have c2 := x0.cell 2 rfl; have c3 := x0.cell 3 rfl; have c4 := x0.cell 4 rfl; have e0 := z0.cell 0 rfl; have e1 := z0.cell 1 rfl; have e2 := z0.cell 2 rfl; have e3 := z0.cell 3 rfl; have e4 := z0.cell 4 rfl
          go_wp2_with fail
          refine (hbeX _ (hgX _ hb)).mono ?_
          rintro e Vn ⟨rfl, hb1⟩
          replace hb := hb.trans (hb1.mono hb.size)
          replace x0 := x0.below hb1
          replace z0 := z0.below hb1
          replace hO := hO.below hb1 (Nat.le_refl _)
          clear hb1 c0 c1 c2 c3 c4 e0 e1 e2 e3 e4
          have c0 := x0.cell 0 rfl; have c1 := x0.cell 1 rfl; have c2 := x0.cell 2 rfl; have c3 := x0.cell 3 rfl; have c4 := x0.cell 4 rfl; have e0 := z0.cell 0 rfl; have e1 := z0.cell 1 rfl; have e2 := z0.cell 2 rfl; have e3 := z0.cell 3 rfl; have e4 := z0.cell 4 rfl
          go_wp2_with fail
          refine (hbeY _ hO).mono ?_
          rintro e Vn ⟨rfl, hb1⟩
          replace hb := hb.trans (hb1.mono hb.size)
          replace x0 := x0.below hb1
          replace z0 := z0.below hb1
          replace hO := hO.below hb1 (Nat.le_refl _)
          clear hb1 c0 c1 c2 c3 c4 e0 e1 e2 e3 e4
          have c0 := x0.cell 0 rfl; have c1 := x0.cell 1 rfl; have c2 := x0.cell 2 rfl; have c3 := x0.cell 3 rfl; have c4 := x0.cell 4 rfl; have e0 := z0.cell 0 rfl; have e1 := z0.cell 1 rfl; have e2 := z0.cell 2 rfl; have e3 := z0.cell 3 rfl; have e4 := z0.cell 4 rfl
          go_wp2_with fail
          refine (hfX _ _ _ _ _ _ _ _ _ (hgX _ hb)).mono ?_
          rintro e Vn ⟨rfl, hb1⟩
          replace hb := hb.trans (hb1.mono hb.size)
          replace x0 := x0.below hb1
          replace z0 := z0.below hb1
          replace hO := hO.below hb1 (Nat.le_refl _)
          clear hb1 c0 c1 c2 c3 c4 e0 e1 e2 e3 e4
          have c0 := x0.cell 0 rfl; have c1 := x0.cell 1 rfl; have c2 := x0.cell 2 rfl; have c3 := x0.cell 3 rfl; have c4 := x0.cell 4 rfl; have e0 := z0.cell 0 rfl; have e1 := z0.cell 1 rfl; have e2 := z0.cell 2 rfl; have e3 := z0.cell 3 rfl; have e4 := z0.cell 4 rfl
          go_wp2_with fail
          refine (hfY _ _ _ _ _ _ _ _ _ hO).mono ?_
          rintro e Vn ⟨rfl, hb1⟩
          replace hb := hb.trans (hb1.mono hb.size)
          replace x0 := x0.below hb1
          replace z0 := z0.below hb1
          replace hO := hO.below hb1 (Nat.le_refl _)
          clear hb1 c0 c1 c2 c3 c4 e0 e1 e2 e3 e4
          have c0 := x0.cell 0 rfl; have c1 := x0.cell 1 rfl; have c2 := x0.cell 2 rfl; have c3 := x0.cell 3 rfl; have c4 := x0.cell 4 rfl; have e0 := z0.cell 0 rfl; have e1 := z0.cell 1 rfl; have e2 := z0.cell 2 rfl; have e3 := z0.cell 3 rfl; have e4 := z0.cell 4 rfl
          go_wp2_with fail
          refine (hwX _ _ _ _ _ _ _ _ _ (hgX _ hb)).mono ?_
          rintro e Vn ⟨rfl, hb1⟩
          replace hb := hb.trans (hb1.mono hb.size)
          replace x0 := x0.below hb1
          replace z0 := z0.below hb1
          replace hO := hO.below hb1 (Nat.le_refl _)
          clear hb1 c0 c1 c2 c3 c4 e0 e1 e2 e3 e4
          have c0 := x0.cell 0 rfl; have c1 := x0.cell 1 rfl; have c2 := x0.cell 2 rfl; have c3 := x0.cell 3 rfl; have c4 := x0.cell 4 rfl; have e0 := z0.cell 0 rfl; have e1 := z0.cell 1 rfl; have e2 := z0.cell 2 rfl; have e3 := z0.cell 3 rfl; have e4 := z0.cell 4 rfl
          go_wp2_with fail
          refine (hwY _ _ _ _ _ _ _ _ _ hO).mono ?_
          rintro e Vn ⟨rfl, hb1⟩
          replace hb := hb.trans (hb1.mono hb.size)
          replace x0 := x0.below hb1
          replace z0 := z0.below hb1
          replace hO := hO.below hb1 (Nat.le_refl _)
          clear hb1 c0 c1 c2 c3 c4 e0 e1 e2 e3 e4
          have c0 := x0.cell 0 rfl; have c1 := x0.cell 1 rfl; have c2 := x0.cell 2 rfl; have c3 := x0.cell 3 rfl; have c4 := x0.cell 4 rfl; have e0 := z0.cell 0 rfl; have e1 := z0.cell 1 rfl; have e2 := z0.cell 2 rfl; have e3 := z0.cell 3 rfl; have e4 := z0.cell 4 rfl
          clear hfX hfY hwX hwY hbeX hbeY hry hgX x0 z0 hO c0 c1 c2 c3 c4 e0 e1 e2 e3 e4
          go_wp2_with fail
          refine (hke _).mono ?_
          rintro e Vm ⟨rfl, rfl⟩
          go_wp2_with fail
          refine (hki _).mono ?_
          rintro e Vm ⟨rfl, rfl⟩
          go_wp2_with fail
          refine (hkj _).mono ?_
          rintro e Vm ⟨rfl, rfl⟩
          clear hke hki hkj
          rcases hfi with rfl | rfl
          · obtain ⟨rfl, hn0, hnm⟩ := hfij rfl
            go_wp2_with fail
            refine (hW _).mono ?_
            rintro e Vw ⟨rfl, hb1⟩
            replace hb := hb.trans (hb1.mono hb.size)
            go_wp2
            go_ret
            exact ⟨rfl, hb⟩
          · clear hfij
            go_wp2_with fail
            refine (hW _).mono ?_
            rintro e Vw ⟨rfl, hb1⟩
            replace hb := hb.trans (hb1.mono hb.size)
            go_wp2
            go_ret
            exact ⟨rfl, hb⟩
    · obtain ⟨Y, hYd⟩ : ∃ Y : Sw, Y = { X with ks := X.ks.take km, ch := X.ch + yh } := ⟨_, rfl⟩
      have hYY : MoreY X Y := by rw [hYd]; exact hYA
      have eqs : Y.bs.length = X.bs.length ∧ Y.st.length = X.st.length ∧ Y.er.length = X.er.length ∧ Y.ks.length = km ∧ Y.ch = X.ch + yh := by rw [hYd]; exact eq0
      obtain ⟨b1, b2, b3, b4, k1, k2, k3, k4, q1, q2, q3, q4, hO⟩ := hM0.swp (by rw [← hYd, hYY.m.bs]; have := HOK.out.nb3; omega) (by rw [← hYd]; exact hYY.s) (by rw [← hYd]; exact hYY.e) (by rw [← hYd]; exact hYY.k) (by rw [← hYd]; exact hYY.r1) (by rw [← hYd]; exact hYY.r2)
      injection q1 with r1 n1 r2
      injection q2 with r3 n2 r4
      injection q3 with r5 n3 r6
      injection q4 with r7 n4 r8
      subst r1 r2 r3 r4 r5 r6 r7 r8
      clear n1 n2 n3 n4
      rw [← hYd] at hO
      have z1 : Bx Vn g #[.slice oab Y.bs.length ocb, .slice oast Y.st.length ocs, .slice oae Y.er.length oce, .slice oak Y.ks.length ock, .int .i64 Y.ch] 26 := by rw [eqs.1, eqs.2.1, eqs.2.2.1, eqs.2.2.2.1, eqs.2.2.2.2]; exact z0
      clear hM0 hYA hYd eq0 eqs
      have d0 := y0.cell 0 rfl; have d1 := y0.cell 1 rfl; have d2 := y0.cell 2 rfl; have d3 := y0.cell 3 rfl; have d4 := y0.cell 4 rfl; have d5 := y0.cell 5 rfl; have e0 := z0.cell 0 rfl; have e1 := z0.cell 1 rfl; have e2 := z0.cell 2 rfl; have e3 := z0.cell 3 rfl; have e4 := z0.cell 4 rfl; have c0 := x0.cell 0 rfl; have c1 := x0.cell 1 rfl; have c2 := x0.cell 2 rfl; have c3 := x0.cell 3 rfl; have c4 := x0.cell 4 rfl
      go_upto_region 10 with fail
      clear d0 d1 d2 d3 d4 d5 e0 e1 e2 e3 e4 y0 z0
      have z0 := z1
      clear z1
      have e0 := z0.cell 0 rfl; have e1 := z0.cell 1 rfl; have e2 := z0.cell 2 rfl; have e3 := z0.cell 3 rfl; have e4 := z0.cell 4 rfl
      cases hrY : rdB Y
      · have hry := fun V h => ready_any oab oast oae oak ocb ocs oce ock Y V h
        rw [hrY] at hry
        go_wp2_with fail
        refine (hry _ hO).mono ?_
        rintro e Vn ⟨rfl, hb1⟩
        replace hb := hb.trans (hb1.mono hb.size)
        replace x0 := x0.below hb1
        replace z0 := z0.below hb1
        replace hO := hO.below hb1 (Nat.le_refl _)
        clear hb1 c0 c1 c2 c3 c4 e0 e1 e2 e3 e4
        have c0 := x0.cell 0 rfl; have c1 := x0.cell 1 rfl; have c2 := x0.cell 2 rfl; have c3 := x0.cell 3 rfl; have c4 := x0.cell 4 rfl; have e0 := z0.cell 0 rfl; have e1 := z0.cell 1 rfl; have e2 := z0.cell 2 rfl; have e3 := z0.cell 3 rfl; have e4 := z0.cell 4 rfl
        go_wp2_with fail
        refine (hW _).mono ?_
        rintro e Vw ⟨rfl, hb1⟩
        replace hb := hb.trans (hb1.mono hb.size)
        go_wp2
        go_ret
        exact ⟨rfl, hb⟩
      · have hry := fun V h => ready_any oab oast oae oak ocb ocs oce ock Y V h
        rw [hrY] at hry
        have hvY := (rdB_iff hrY).1
        obtain ⟨fa, fb, fe, hfab, hfe, hfX, hfY⟩ := fair_two hv hvY hYY.m
        obtain ⟨fm, fn, fi, fj, hfi, hfj, hfij, hwX, hwY⟩ := few_two hv hvY hYY.m goal g0 g9
        have hbeX := fun V h => Best_ok ab ast ae ak cb cs ce ck X V h hv
        have hbeY := fun V h => Best_ok oab oast oae oak ocb ocs oce ock Y V h hvY
        have hbxy := more_best (vB_iff hv) (vB_iff hvY) hYY.m
        have hke := isKnown_any fe
        rw [known_true hfe] at hke
        have hki := isKnown_any fi
        rw [known_true hfi] at hki
        have hkj := isKnown_any fj
        rw [known_true hfj] at hkj
        generalize earn X.vz (bestP X.vz) = bx at *
        generalize earn Y.vz (bestP Y.vz) = by1 at *
        clear hrY hYY hfe hfj hvY
        go_wp2_with fail
        refine (hry _ hO).mono ?_
        rintro e Vn ⟨rfl, hb1⟩
        replace hb := hb.trans (hb1.mono hb.size)
        replace x0 := x0.below hb1
        replace z0 := z0.below hb1
        replace hO := hO.below hb1 (Nat.le_refl _)
        clear hb1 c0 c1 c2 c3 c4 e0 e1 e2 e3 e4
        have c0 := x0.cell 0 rfl; have c1 := x0.cell 1 rfl; have c2 := x0.cell 2 rfl; have c3 := x0.cell 3 rfl; have c4 := x0.cell 4 rfl; have e0 := z0.cell 0 rfl; have e1 := z0.cell 1 rfl; have e2 := z0.cell 2 rfl; have e3 := z0.cell 3 rfl; have e4 := z0.cell 4 rfl
        go_wp2_with fail
        refine (hbeX _ (hgX _ hb)).mono ?_
        rintro e Vn ⟨rfl, hb1⟩
        replace hb := hb.trans (hb1.mono hb.size)
        replace x0 := x0.below hb1
        replace z0 := z0.below hb1
        replace hO := hO.below hb1 (Nat.le_refl _)
        clear hb1 c0 c1 c2 c3 c4 e0 e1 e2 e3 e4
        have c0 := x0.cell 0 rfl; have c1 := x0.cell 1 rfl; have c2 := x0.cell 2 rfl; have c3 := x0.cell 3 rfl; have c4 := x0.cell 4 rfl; have e0 := z0.cell 0 rfl; have e1 := z0.cell 1 rfl; have e2 := z0.cell 2 rfl; have e3 := z0.cell 3 rfl; have e4 := z0.cell 4 rfl
        go_wp2_with fail
        refine (hbeY _ hO).mono ?_
        rintro e Vn ⟨rfl, hb1⟩
        replace hb := hb.trans (hb1.mono hb.size)
        replace x0 := x0.below hb1
        replace z0 := z0.below hb1
        replace hO := hO.below hb1 (Nat.le_refl _)
        clear hb1 c0 c1 c2 c3 c4 e0 e1 e2 e3 e4
        have c0 := x0.cell 0 rfl; have c1 := x0.cell 1 rfl; have c2 := x0.cell 2 rfl; have c3 := x0.cell 3 rfl; have c4 := x0.cell 4 rfl; have e0 := z0.cell 0 rfl; have e1 := z0.cell 1 rfl; have e2 := z0.cell 2 rfl; have e3 := z0.cell 3 rfl; have e4 := z0.cell 4 rfl
        go_wp2_with fail
        refine (hfX _ _ _ _ _ _ _ _ _ (hgX _ hb)).mono ?_
        rintro e Vn ⟨rfl, hb1⟩
        replace hb := hb.trans (hb1.mono hb.size)
        replace x0 := x0.below hb1
        replace z0 := z0.below hb1
        replace hO := hO.below hb1 (Nat.le_refl _)
        clear hb1 c0 c1 c2 c3 c4 e0 e1 e2 e3 e4
        have c0 := x0.cell 0 rfl; have c1 := x0.cell 1 rfl; have c2 := x0.cell 2 rfl; have c3 := x0.cell 3 rfl; have c4 := x0.cell 4 rfl; have e0 := z0.cell 0 rfl; have e1 := z0.cell 1 rfl; have e2 := z0.cell 2 rfl; have e3 := z0.cell 3 rfl; have e4 := z0.cell 4 rfl
        go_wp2_with fail
        refine (hfY _ _ _ _ _ _ _ _ _ hO).mono ?_
        rintro e Vn ⟨rfl, hb1⟩
        replace hb := hb.trans (hb1.mono hb.size)
        replace x0 := x0.below hb1
        replace z0 := z0.below hb1
        replace hO := hO.below hb1 (Nat.le_refl _)
        clear hb1 c0 c1 c2 c3 c4 e0 e1 e2 e3 e4
        have c0 := x0.cell 0 rfl; have c1 := x0.cell 1 rfl; have c2 := x0.cell 2 rfl; have c3 := x0.cell 3 rfl; have c4 := x0.cell 4 rfl; have e0 := z0.cell 0 rfl; have e1 := z0.cell 1 rfl; have e2 := z0.cell 2 rfl; have e3 := z0.cell 3 rfl; have e4 := z0.cell 4 rfl
        go_wp2_with fail
        refine (hwX _ _ _ _ _ _ _ _ _ (hgX _ hb)).mono ?_
        rintro e Vn ⟨rfl, hb1⟩
        replace hb := hb.trans (hb1.mono hb.size)
        replace x0 := x0.below hb1
        replace z0 := z0.below hb1
        replace hO := hO.below hb1 (Nat.le_refl _)
        clear hb1 c0 c1 c2 c3 c4 e0 e1 e2 e3 e4
        have c0 := x0.cell 0 rfl; have c1 := x0.cell 1 rfl; have c2 := x0.cell 2 rfl; have c3 := x0.cell 3 rfl; have c4 := x0.cell 4 rfl; have e0 := z0.cell 0 rfl; have e1 := z0.cell 1 rfl; have e2 := z0.cell 2 rfl; have e3 := z0.cell 3 rfl; have e4 := z0.cell 4 rfl
        go_wp2_with fail
        refine (hwY _ _ _ _ _ _ _ _ _ hO).mono ?_
        rintro e Vn ⟨rfl, hb1⟩
        replace hb := hb.trans (hb1.mono hb.size)
        replace x0 := x0.below hb1
        replace z0 := z0.below hb1
        replace hO := hO.below hb1 (Nat.le_refl _)
        clear hb1 c0 c1 c2 c3 c4 e0 e1 e2 e3 e4
        have c0 := x0.cell 0 rfl; have c1 := x0.cell 1 rfl; have c2 := x0.cell 2 rfl; have c3 := x0.cell 3 rfl; have c4 := x0.cell 4 rfl; have e0 := z0.cell 0 rfl; have e1 := z0.cell 1 rfl; have e2 := z0.cell 2 rfl; have e3 := z0.cell 3 rfl; have e4 := z0.cell 4 rfl
        clear hfX hfY hwX hwY hbeX hbeY hry hgX x0 z0 hO c0 c1 c2 c3 c4 e0 e1 e2 e3 e4
        go_wp2_with fail
        refine (hke _).mono ?_
        rintro e Vm ⟨rfl, rfl⟩
        go_wp2_with fail
        refine (hki _).mono ?_
        rintro e Vm ⟨rfl, rfl⟩
        go_wp2_with fail
        refine (hkj _).mono ?_
        rintro e Vm ⟨rfl, rfl⟩
        clear hke hki hkj
        rcases hfi with rfl | rfl
        · obtain ⟨rfl, hn0, hnm⟩ := hfij rfl
          go_wp2_with fail
          refine (hW _).mono ?_
          rintro e Vw ⟨rfl, hb1⟩
          replace hb := hb.trans (hb1.mono hb.size)
          go_wp2
          go_ret
          exact ⟨rfl, hb⟩
        · clear hfij
          go_wp2_with fail
          refine (hW _).mono ?_
          rintro e Vw ⟨rfl, hb1⟩
          replace hb := hb.trans (hb1.mono hb.size)
          go_wp2
          go_ret
          exact ⟨rfl, hb⟩
  · have t0' : yt < 0 := by omega
    obtain ⟨Y, hYd⟩ : ∃ Y : Sw, Y = { X with ks := X.ks.take km, ch := X.ch + yh } := ⟨_, rfl⟩
    have hYY : MoreY X Y := by rw [hYd]; exact hYA
    have eqs : Y.bs.length = X.bs.length ∧ Y.st.length = X.st.length ∧ Y.er.length = X.er.length ∧ Y.ks.length = km ∧ Y.ch = X.ch + yh := by rw [hYd]; exact eq0
    obtain ⟨b1, b2, b3, b4, k1, k2, k3, k4, q1, q2, q3, q4, hO⟩ := hM0.swp (by rw [← hYd, hYY.m.bs]; have := HOK.out.nb3; omega) (by rw [← hYd]; exact hYY.s) (by rw [← hYd]; exact hYY.e) (by rw [← hYd]; exact hYY.k) (by rw [← hYd]; exact hYY.r1) (by rw [← hYd]; exact hYY.r2)
    injection q1 with r1 n1 r2
    injection q2 with r3 n2 r4
    injection q3 with r5 n3 r6
    injection q4 with r7 n4 r8
    subst r1 r2 r3 r4 r5 r6 r7 r8
    clear n1 n2 n3 n4
    rw [← hYd] at hO
    have z1 : Bx Vn g #[.slice oab Y.bs.length ocb, .slice oast Y.st.length ocs, .slice oae Y.er.length oce, .slice oak Y.ks.length ock, .int .i64 Y.ch] 26 := by rw [eqs.1, eqs.2.1, eqs.2.2.1, eqs.2.2.2.1, eqs.2.2.2.2]; exact z0
    clear hM0 hYA hYd eq0 eqs
    have d0 := y0.cell 0 rfl; have d1 := y0.cell 1 rfl; have d2 := y0.cell 2 rfl; have d3 := y0.cell 3 rfl; have d4 := y0.cell 4 rfl; have d5 := y0.cell 5 rfl; have e0 := z0.cell 0 rfl; have e1 := z0.cell 1 rfl; have e2 := z0.cell 2 rfl; have e3 := z0.cell 3 rfl; have e4 := z0.cell 4 rfl; have c0 := x0.cell 0 rfl; have c1 := x0.cell 1 rfl; have c2 := x0.cell 2 rfl; have c3 := x0.cell 3 rfl; have c4 := x0.cell 4 rfl
    go_upto_region 10 with fail
    clear d0 d1 d2 d3 d4 d5 e0 e1 e2 e3 e4 y0 z0
    have z0 := z1
    clear z1
    have e0 := z0.cell 0 rfl; have e1 := z0.cell 1 rfl; have e2 := z0.cell 2 rfl; have e3 := z0.cell 3 rfl; have e4 := z0.cell 4 rfl
    cases hrY : rdB Y
    · have hry := fun V h => ready_any oab oast oae oak ocb ocs oce ock Y V h
      rw [hrY] at hry
      go_wp2_with fail
      refine (hry _ hO).mono ?_
      rintro e Vn ⟨rfl, hb1⟩
      replace hb := hb.trans (hb1.mono hb.size)
      replace x0 := x0.below hb1
      replace z0 := z0.below hb1
      replace hO := hO.below hb1 (Nat.le_refl _)
      clear hb1 c0 c1 c2 c3 c4 e0 e1 e2 e3 e4
      have c0 := x0.cell 0 rfl; have c1 := x0.cell 1 rfl; have c2 := x0.cell 2 rfl; have c3 := x0.cell 3 rfl; have c4 := x0.cell 4 rfl; have e0 := z0.cell 0 rfl; have e1 := z0.cell 1 rfl; have e2 := z0.cell 2 rfl; have e3 := z0.cell 3 rfl; have e4 := z0.cell 4 rfl
      go_wp2_with fail
      refine (hW _).mono ?_
      rintro e Vw ⟨rfl, hb1⟩
      replace hb := hb.trans (hb1.mono hb.size)
      go_wp2
      go_ret
      exact ⟨rfl, hb⟩
    · have hry := fun V h => ready_any oab oast oae oak ocb ocs oce ock Y V h
      rw [hrY] at hry
      have hvY := (rdB_iff hrY).1
      obtain ⟨fa, fb, fe, hfab, hfe, hfX, hfY⟩ := fair_two hv hvY hYY.m
      obtain ⟨fm, fn, fi, fj, hfi, hfj, hfij, hwX, hwY⟩ := few_two hv hvY hYY.m goal g0 g9
      have hbeX := fun V h => Best_ok ab ast ae ak cb cs ce ck X V h hv
      have hbeY := fun V h => Best_ok oab oast oae oak ocb ocs oce ock Y V h hvY
      have hbxy := more_best (vB_iff hv) (vB_iff hvY) hYY.m
      have hke := isKnown_any fe
      rw [known_true hfe] at hke
      have hki := isKnown_any fi
      rw [known_true hfi] at hki
      have hkj := isKnown_any fj
      rw [known_true hfj] at hkj
      generalize earn X.vz (bestP X.vz) = bx at *
      generalize earn Y.vz (bestP Y.vz) = by1 at *
      clear hrY hYY hfe hfj hvY
      go_wp2_with fail
      refine (hry _ hO).mono ?_
      rintro e Vn ⟨rfl, hb1⟩
      replace hb := hb.trans (hb1.mono hb.size)
      replace x0 := x0.below hb1
      replace z0 := z0.below hb1
      replace hO := hO.below hb1 (Nat.le_refl _)
      clear hb1 c0 c1 c2 c3 c4 e0 e1 e2 e3 e4
      have c0 := x0.cell 0 rfl; have c1 := x0.cell 1 rfl; have c2 := x0.cell 2 rfl; have c3 := x0.cell 3 rfl; have c4 := x0.cell 4 rfl; have e0 := z0.cell 0 rfl; have e1 := z0.cell 1 rfl; have e2 := z0.cell 2 rfl; have e3 := z0.cell 3 rfl; have e4 := z0.cell 4 rfl
      go_wp2_with fail
      refine (hbeX _ (hgX _ hb)).mono ?_
      rintro e Vn ⟨rfl, hb1⟩
      replace hb := hb.trans (hb1.mono hb.size)
      replace x0 := x0.below hb1
      replace z0 := z0.below hb1
      replace hO := hO.below hb1 (Nat.le_refl _)
      clear hb1 c0 c1 c2 c3 c4 e0 e1 e2 e3 e4
      have c0 := x0.cell 0 rfl; have c1 := x0.cell 1 rfl; have c2 := x0.cell 2 rfl; have c3 := x0.cell 3 rfl; have c4 := x0.cell 4 rfl; have e0 := z0.cell 0 rfl; have e1 := z0.cell 1 rfl; have e2 := z0.cell 2 rfl; have e3 := z0.cell 3 rfl; have e4 := z0.cell 4 rfl
      go_wp2_with fail
      refine (hbeY _ hO).mono ?_
      rintro e Vn ⟨rfl, hb1⟩
      replace hb := hb.trans (hb1.mono hb.size)
      replace x0 := x0.below hb1
      replace z0 := z0.below hb1
      replace hO := hO.below hb1 (Nat.le_refl _)
      clear hb1 c0 c1 c2 c3 c4 e0 e1 e2 e3 e4
      have c0 := x0.cell 0 rfl; have c1 := x0.cell 1 rfl; have c2 := x0.cell 2 rfl; have c3 := x0.cell 3 rfl; have c4 := x0.cell 4 rfl; have e0 := z0.cell 0 rfl; have e1 := z0.cell 1 rfl; have e2 := z0.cell 2 rfl; have e3 := z0.cell 3 rfl; have e4 := z0.cell 4 rfl
      go_wp2_with fail
      refine (hfX _ _ _ _ _ _ _ _ _ (hgX _ hb)).mono ?_
      rintro e Vn ⟨rfl, hb1⟩
      replace hb := hb.trans (hb1.mono hb.size)
      replace x0 := x0.below hb1
      replace z0 := z0.below hb1
      replace hO := hO.below hb1 (Nat.le_refl _)
      clear hb1 c0 c1 c2 c3 c4 e0 e1 e2 e3 e4
      have c0 := x0.cell 0 rfl; have c1 := x0.cell 1 rfl; have c2 := x0.cell 2 rfl; have c3 := x0.cell 3 rfl; have c4 := x0.cell 4 rfl; have e0 := z0.cell 0 rfl; have e1 := z0.cell 1 rfl; have e2 := z0.cell 2 rfl; have e3 := z0.cell 3 rfl; have e4 := z0.cell 4 rfl
      go_wp2_with fail
      refine (hfY _ _ _ _ _ _ _ _ _ hO).mono ?_
      rintro e Vn ⟨rfl, hb1⟩
      replace hb := hb.trans (hb1.mono hb.size)
      replace x0 := x0.below hb1
      replace z0 := z0.below hb1
      replace hO := hO.below hb1 (Nat.le_refl _)
      clear hb1 c0 c1 c2 c3 c4 e0 e1 e2 e3 e4
      have c0 := x0.cell 0 rfl; have c1 := x0.cell 1 rfl; have c2 := x0.cell 2 rfl; have c3 := x0.cell 3 rfl; have c4 := x0.cell 4 rfl; have e0 := z0.cell 0 rfl; have e1 := z0.cell 1 rfl; have e2 := z0.cell 2 rfl; have e3 := z0.cell 3 rfl; have e4 := z0.cell 4 rfl
      go_wp2_with fail
      refine (hwX _ _ _ _ _ _ _ _ _ (hgX _ hb)).mono ?_
      rintro e Vn ⟨rfl, hb1⟩
      replace hb := hb.trans (hb1.mono hb.size)
      replace x0 := x0.below hb1
      replace z0 := z0.below hb1
      replace hO := hO.below hb1 (Nat.le_refl _)
      clear hb1 c0 c1 c2 c3 c4 e0 e1 e2 e3 e4
      have c0 := x0.cell 0 rfl; have c1 := x0.cell 1 rfl; have c2 := x0.cell 2 rfl; have c3 := x0.cell 3 rfl; have c4 := x0.cell 4 rfl; have e0 := z0.cell 0 rfl; have e1 := z0.cell 1 rfl; have e2 := z0.cell 2 rfl; have e3 := z0.cell 3 rfl; have e4 := z0.cell 4 rfl
      go_wp2_with fail
      refine (hwY _ _ _ _ _ _ _ _ _ hO).mono ?_
      rintro e Vn ⟨rfl, hb1⟩
      replace hb := hb.trans (hb1.mono hb.size)
      replace x0 := x0.below hb1
      replace z0 := z0.below hb1
      replace hO := hO.below hb1 (Nat.le_refl _)
      clear hb1 c0 c1 c2 c3 c4 e0 e1 e2 e3 e4
      have c0 := x0.cell 0 rfl; have c1 := x0.cell 1 rfl; have c2 := x0.cell 2 rfl; have c3 := x0.cell 3 rfl; have c4 := x0.cell 4 rfl; have e0 := z0.cell 0 rfl; have e1 := z0.cell 1 rfl; have e2 := z0.cell 2 rfl; have e3 := z0.cell 3 rfl; have e4 := z0.cell 4 rfl
      clear hfX hfY hwX hwY hbeX hbeY hry hgX x0 z0 hO c0 c1 c2 c3 c4 e0 e1 e2 e3 e4
      go_wp2_with fail
      refine (hke _).mono ?_
      rintro e Vm ⟨rfl, rfl⟩
      go_wp2_with fail
      refine (hki _).mono ?_
      rintro e Vm ⟨rfl, rfl⟩
      go_wp2_with fail
      refine (hkj _).mono ?_
      rintro e Vm ⟨rfl, rfl⟩
      clear hke hki hkj
      rcases hfi with rfl | rfl
      · obtain ⟨rfl, hn0, hnm⟩ := hfij rfl
        go_wp2_with fail
        refine (hW _).mono ?_
        rintro e Vw ⟨rfl, hb1⟩
        replace hb := hb.trans (hb1.mono hb.size)
        go_wp2
        go_ret
        exact ⟨rfl, hb⟩
      · clear hfij
        go_wp2_with fail
        refine (hW _).mono ?_
        rintro e Vw ⟨rfl, hb1⟩
        replace hb := hb.trans (hb1.mono hb.size)
        go_wp2
        go_ret
        exact ⟨rfl, hb⟩
end Go.Proofs.Ytipdohpbilabiaa
