import Derived.Test.YteianfbdhakhpaaM4
import Derived.Test.YteianfbdhakhpaaUA
/-! The law of the later train. -/
namespace Go.Proofs.Yteianfbdhakhpaa
set_option linter.unusedSimpArgs false
set_option linter.unusedVariables false
open Go Go.RowKit

def mvL (b : Int) (k : Nat) (ts : List Int) : List Int := shL b (ts.take k) ++ ts.drop k
theorem mvL_zero (b : Int) (ts : List Int) : mvL b 0 ts = ts := by simp [mvL, shL]
theorem mvL_all (b : Int) (ts : List Int) {n : Nat} (h : n = ts.length) : mvL b n ts = shL b ts := by subst h; simp [mvL]
theorem mvL_at (b : Int) {ts : List Int} {k : Nat} {y : Int} (h : ts[k]? = some y) : (mvL b k ts)[k]? = some y := by
  have hl := (List.getElem?_eq_some_iff.1 h).1
  unfold mvL
  rw [List.getElem?_append_right (by simp [shL]; omega)]
  simp [shL, Nat.min_eq_left (Nat.le_of_lt hl), h]
theorem mvL_set (b : Int) {ts : List Int} {k : Nat} {y : Int} (h : ts[k]? = some y) : (mvL b k ts).set k (y + b) = mvL b (k + 1) ts := by
  have hl := (List.getElem?_eq_some_iff.1 h).1
  have hy := (List.getElem?_eq_some_iff.1 h).2
  have e : (shL b (ts.take k)).length = k := by simp [shL]; omega
  unfold mvL
  rw [List.set_append_right _ _ (by omega), e, Nat.sub_self, List.drop_eq_getElem_cons hl, List.set_cons_zero, List.take_add_one, h]
  simp [shL]
theorem askE_same {X Y : Pu} (hv : vB Y = vB X) (hr : ∀ m, rdL Y m = rdL X m) (hs : Y.sp = X.sp) (hsel : ∀ s, selB Y s = selB X s) (s : Int) : askE Y s = askE X s ∧ askLo Y s = askLo X s ∧ askHi Y s = askHi X s := by
  have e : askE Y s = askE X s := by unfold askE; rw [erX_same hv hr hs, hsel]
  refine ⟨e, ?_, ?_⟩
  · unfold askLo; rw [e, RS_same hv hr hs]
  · unfold askHi; rw [e, RS_same hv hr hs]
theorem soX_same {X Y : Pu} (hv : vB Y = vB X) (hr : ∀ m, rdL Y m = rdL X m) (hs : Y.sp = X.sp) (hl : Y.ts.length = X.ts.length) (f : Nat → Nat → Bool) : soX f Y = soX f X := by
  unfold soX; rw [erX_same hv hr hs, RS_same hv hr hs, hl]
set_option maxRecDepth 100000 in
set_option maxHeartbeats 12000000 in
theorem PulsesMoved_any (aT : Option Addr) (cT : Nat) (X : Pu) (by' s : Int) (w : World) (hX : Ints w aT X.ts) : Calls Try.prog 8 #[.agg #[.int .i64 X.l, .int .i64 X.n, .int .i64 X.pi, .int .i64 X.sl, .int .i64 X.ga, .int .i64 X.pa, .int .i64 X.sp, .slice aT X.ts.length cT], .int .i64 by', .int .i64 s] w fun e w' => e = .returned (.bool true) ∧ Below w.heap.size w w' := by
  obtain ⟨W, hW, hb, _, x0⟩ := boxes1 w #[.int .i64 X.l, .int .i64 X.n, .int .i64 X.pi, .int .i64 X.sl, .int .i64 X.ga, .int .i64 X.pa, .int .i64 X.sp, .slice aT X.ts.length cT] 24
  replace hX := hX.below hb (Nat.le_refl _)
  have hrd := fun V h => ready_any aT cT X V h
  have hfe := fun V h => Fewest_any aT cT X V h
  have hma := fun V h => Many_any aT cT X V h
  have hre := fun V h => Read_any aT cT X V h
  have has := fun V h => Asked_any aT cT X s V h
  have hrl := fun V h => Real_any aT cT X V h
  have hcp := fun V h h1 => CopyO_any aT cT X V h h1
  have hwk := fun V => works_any V
  have hlen' : (shL by' X.ts).length = X.ts.length := by simp [shL]
  obtain ⟨Y, hY⟩ : ∃ Y, Y = X.wt (shL by' X.ts) := ⟨_, rfl⟩
  have hYc : Y.l = X.l ∧ Y.n = X.n ∧ Y.pi = X.pi ∧ Y.sl = X.sl ∧ Y.ga = X.ga ∧ Y.pa = X.pa ∧ Y.sp = X.sp ∧ Y.ts = shL by' X.ts := by subst hY; exact ⟨rfl, rfl, rfl, rfl, rfl, rfl, rfl, rfl⟩
  have hYr : ∀ m, rdL Y m = rdL X m := fun m => by subst hY; exact rdL_sh X by' m
  have hYs : ∀ s, selB Y s = selB X s := fun s => by unfold selB; rw [hYc.1, hYc.2.1]
  have hrdY := fun aQ cQ V h => ready_any aQ cQ Y V h
  have hfeY := fun aQ cQ V h => Fewest_any aQ cQ Y V h
  have hmaY := fun aQ cQ V h => Many_any aQ cQ Y V h
  have hreY := fun aQ cQ V h => Read_any aQ cQ Y V h
  have hasY := fun aQ cQ V h => Asked_any aQ cQ Y s V h
  have hrlY := fun aQ cQ V h => Real_any aQ cQ Y V h
  have HRD := hid (show rdyB X = true → _ from rdyB_ok)
  have HRNG := hid (show rdyB X = true → ∀ x ∈ X.ts, 0 ≤ x ∧ x ≤ 99999 from fun h => (timesB_rng (vB_ok (rdyB_ok h).1).2.2).2)
  have HS := hid (show rdyB X = true → rdyB Y = true → fewN Y = fewN X ∧ fewE Y = fewE X ∧ manN Y = manN X ∧ erX Y true = erX X true ∧ rdE Y true = rdE X true ∧ rdLi Y true = rdLi X true ∧ askE Y s = askE X s ∧ askLo Y s = askLo X s ∧ askHi Y s = askHi X s ∧ soX reB Y = soX reB X from fun h1 h2 => by
    have hv : vB Y = vB X := by rw [(rdyB_ok h1).1, (rdyB_ok h2).1]
    have hs := hYc.2.2.2.2.2.2.1
    have hk := askE_same hv hYr hs hYs s
    exact ⟨fewN_same hv hYr hs, fewE_same hv hYr hs, manN_same hv hYr hs, erX_same hv hYr hs true, rdE_same hv hYr hs true, rdLi_same hv hYr hs true, hk.1, hk.2.1, hk.2.2, soX_same hv hYr hs (by rw [hYc.2.2.2.2.2.2.2, hlen']) reB⟩)
  unfold CpO at hcp
  unfold ReP at hre hrl hreY hrlY
  obtain ⟨y1, y2, y3, y4, y5, y6, y7, y8⟩ := hYc
  rw [y1, y2, y3, y4, y5, y6, y7, y8, hlen'] at hrdY hfeY hmaY hreY hasY hrlY
  clear y1 y2 y3 y4 y5 y6 y7 y8 hYr hYs hY
  generalize rdyB X = rd at *
  generalize rdyB Y = rdY at *
  generalize fewN X = FN at *
  generalize fewN Y = FNY at *
  generalize fewE X = FE at *
  generalize fewE Y = FEY at *
  generalize manN X = MN at *
  generalize manN Y = MNY at *
  generalize erX X true = ER at *
  generalize erX Y true = ERY at *
  generalize rdE X true = RE at *
  generalize rdE Y true = REY at *
  generalize rdLi X true = RL at *
  generalize rdLi Y true = RLY at *
  generalize askE X s = AE at *
  generalize askE Y s = AEY at *
  generalize askLo X s = AL at *
  generalize askLo Y s = ALY at *
  generalize askHi X s = AH at *
  generalize askHi Y s = AHY at *
  generalize soX reB X = SO at *
  generalize soX reB Y = SOY at *
  clear Y
  have HTL := hid (show shL by' X.ts = _ from rfl)
  generalize hnn : X.ts.length = n at *
  have HNN := hid hnn.symm
  clear hnn
  obtain ⟨TS, hTS⟩ : ∃ TS, TS = shL by' X.ts := ⟨_, rfl⟩
  rw [← hTS] at hrdY hfeY hmaY hreY hasY hrlY
  have HTS := hid hTS
  clear hTS hlen' HTL
  generalize hts : X.ts = ts at *
  clear hts
  go_enter Try.func8, Try.ntmps8
  have c0 := x0.cell 0 rfl; have c1 := x0.cell 1 rfl; have c2 := x0.cell 2 rfl; have c3 := x0.cell 3 rfl; have c4 := x0.cell 4 rfl; have c5 := x0.cell 5 rfl; have c6 := x0.cell 6 rfl; have c7 := x0.cell 7 rfl
  go_wp2_with fail
  refine (hrd _ hX).mono ?_
  rintro e Vc1 ⟨rfl, hb1⟩
  clear c0 c1 c2 c3 c4 c5 c6 c7
  replace x0 := x0.below hb1
  replace hX := hX.below hb1 (Nat.le_refl _)
  replace hb := hb.trans (hb1.mono hb.size)
  clear hb1 hrd hW
  have c0 := x0.cell 0 rfl; have c1 := x0.cell 1 rfl; have c2 := x0.cell 2 rfl; have c3 := x0.cell 3 rfl; have c4 := x0.cell 4 rfl; have c5 := x0.cell 5 rfl; have c6 := x0.cell 6 rfl; have c7 := x0.cell 7 rfl
  cases rd with
  | false =>
    go_wp2_with fail
    refine (hwk _).mono ?_
    rintro e Vw ⟨rfl, hbw9⟩
    clear c0 c1 c2 c3 c4 c5 c6 c7
    replace hb := hb.trans (hbw9.mono hb.size)
    go_wp2
    go_ret
    exact ⟨rfl, hb⟩
  | true =>
    have HL14 := hid (HRD.out rfl).2
    replace HRNG := hid (HRNG.out rfl)
    clear HRD
    by_cases hb0 : by' < 0
    · skip
      go_wp2_with fail
      refine (hwk _).mono ?_
      rintro e Vw ⟨rfl, hbw9⟩
      clear c0 c1 c2 c3 c4 c5 c6 c7
      replace hb := hb.trans (hbw9.mono hb.size)
      go_wp2
      go_ret
      exact ⟨rfl, hb⟩
    by_cases hb9 : by' > 99999
    · skip
      go_wp2_with fail
      refine (hwk _).mono ?_
      rintro e Vw ⟨rfl, hbw9⟩
      clear c0 c1 c2 c3 c4 c5 c6 c7
      replace hb := hb.trans (hbw9.mono hb.size)
      go_wp2
      go_ret
      exact ⟨rfl, hb⟩
    have hbr : 0 ≤ by' ∧ by' ≤ 99999 := by omega
    have H0 := hid (And.intro hX x0)
    obtain ⟨B0, hB0⟩ : ∃ B0, B0 = Vc1.heap.size := ⟨_, rfl⟩
    have hwB : w.heap.size ≤ B0 := by rw [hB0]; exact hb.size
    go_wp2_with fail
    refine (hcp _ hX (by have := HL14.out; omega)).mono ?_
    rintro e Vq ⟨hb1, aQ, cQ, rfl, hQ⟩
    rw [← hB0] at hb1 hQ
    have HB0 := hid hB0
    have hbq := hb.trans (hb1.mono hwB)
    have hsz := hb1.size
    rw [← hB0] at hsz
    have hba := below_one (w := Vq) (.cells #[.int .i64 X.l, .int .i64 X.n, .int .i64 X.pi, .int .i64 X.sl, .int .i64 X.ga, .int .i64 X.pa, .int .i64 X.sp, .slice aQ n cQ] 24)
    have hoff := hid (show ∀ g, (Value.slice aQ n cQ).ownBlock = some g → g < Vq.heap.size from fun g hg => own_ltI hQ g hg)
    have HXa := hid (And.intro (hb1.trans (hba.mono hsz)) (And.intro (own_below2 hQ hba) (And.intro (Bx.new Vq #[.int .i64 X.l, .int .i64 X.n, .int .i64 X.pi, .int .i64 X.sl, .int .i64 X.ga, .int .i64 X.pa, .int .i64 X.sp, .slice aQ n cQ] 24) (And.intro (hbq.trans (hba.mono hbq.size)) (And.intro hoff hsz)))))
    clear hB0 hb1 hQ hbq hba hb hX x0 hcp c0 c1 c2 c3 c4 c5 c6 c7 hsz hoff
    go_upto_region 4 with fail
    obtain ⟨hv, hQ, x7, hb, hoff, hsz⟩ := HXa.out
    clear HXa
    generalize Vq.heap.size = s7 at *
    generalize World.alloc _ _ = V7 at *
    go_wp2
    go_loopw [8] (fun v8 wr => ∃ k : Nat, k ≤ n ∧ v8 = .int .i64 (k : Int) ∧ wr.ownsRow B0 3 1 (.slice aQ n cQ) n ((mvL by' k ts).map (Value.int .i64)) ∧ Bx wr s7 #[.int .i64 X.l, .int .i64 X.n, .int .i64 X.pi, .int .i64 X.sl, .int .i64 X.ga, .int .i64 X.pa, .int .i64 X.sp, .slice aQ n cQ] 24 ∧ Below B0 Vc1 wr ∧ Below w.heap.size w wr) (fun v8 _ => n - (intOf v8).toNat)
    case atStart => exact ⟨0, Nat.zero_le _, rfl, by rw [mvL_zero]; exact hQ, x7, hv, hb⟩
    case round =>
      clear hQ x7 hv hb
      obtain ⟨k, hk, rfl, hQ, x7, hv, hb⟩ := hrel
      by_cases hlt : k < n
      · obtain ⟨gq, cap, hf⟩ : ∃ g cap, (Value.slice aQ n cQ) = .slice (some ⟨g, 0, none⟩) n cap := Go.Joins.ownsRow_form hQ (by omega)
        simp only [Value.slice.injEq, true_and] at hf
        obtain ⟨rfl, rfl⟩ := hf
        obtain ⟨y, hy⟩ : ∃ y, ts[k]? = some y := ⟨_, List.getElem?_eq_getElem (by rw [← HNN.out]; exact hlt)⟩
        have hyr := HRNG.out y (List.mem_of_getElem? hy)
        have hn14 := HL14.out
        have hkI : (k : Int) < n := by omega
        have hk0 : (0 : Int) ≤ (k : Int) := by omega
        obtain ⟨z, hz⟩ : ∃ z, z = y + by' := ⟨_, rfl⟩
        have ewz : IntKind.i64.wrap (y + by') = z := by rw [hz]; exact IntWalk.i64_in _ (by omega)
        have hcell : wr.cell? ⟨gq, k, none⟩ = some (.int .i64 y) := by
          rw [World.ownsRow.cellAt hQ k (by omega)]
          rw [List.getElem?_map, mvL_at by' hy]; rfl
        have hfree := own_free62 hQ k
        have hgne : gq ≠ s7 := by have := hoff.out gq rfl; omega
        have hset : (wr.setCell ⟨gq, k, none⟩ (.int .i64 z)).ownsRow B0 3 1 (.slice (some ⟨gq, 0, none⟩) n cQ) n ((mvL by' (k + 1) ts).map (Value.int .i64)) := by
          have := own_setR (j := k) (v := .int .i64 z) hQ
          rw [← List.map_set, hz, mvL_set by' hy] at this
          rw [hz]; exact this
        have hge := own_ge2 hQ gq rfl
        have hx7 := x7.other (a := ⟨gq, k, none⟩) (fun e => hgne e.symm) (.int .i64 z)
        have hvn := hv.setCell (p := ⟨gq, k, none⟩) hge (.int .i64 z)
        have hbn := hb.setCell (p := ⟨gq, k, none⟩) (show w.heap.size ≤ gq by omega) (.int .i64 z)
        have HN := hid (And.intro hset (And.intro hx7 (And.intro hvn hbn)))
        have d0 := x7.cell 0 rfl; have d1 := x7.cell 1 rfl; have d2 := x7.cell 2 rfl; have d3 := x7.cell 3 rfl; have d4 := x7.cell 4 rfl; have d5 := x7.cell 5 rfl; have d6 := x7.cell 6 rfl; have d7 := x7.cell 7 rfl
        clear hset hx7 hvn hbn hQ x7 hv hb hy hz hyr
        go_wp2
        go_roundw
        case rel => exact ⟨k + 1, by omega, by go_num, HN.out⟩
        case measure => simp [intOf]; omega
      · have hkn : k = n := by omega
        have hkI : ¬ (k : Int) < n := by omega
        rw [hkn, mvL_all by' ts HNN.out, ← HTS.out] at hQ
        have hQz := ((own_nw hQ (by rw [HTS.out]; simp [shL]; exact HNN.out) (by rw [HTS.out]; simp [shL]; have := HL14.out; have := HNN.out; omega) (fun x hx => by rw [HTS.out] at hx; obtain ⟨y, hy, rfl⟩ := List.mem_map.1 hx; have := HRNG.out y hy; omega)).1).i
        have hX := H0.out.1.below hv (by rw [HB0.out]; exact Nat.le_refl _)
        have x0 := H0.out.2.below (by rw [← HB0.out]; exact hv)
        clear hkn hv hQ H0 HRNG
        have d0 := x7.cell 0 rfl; have d1 := x7.cell 1 rfl; have d2 := x7.cell 2 rfl; have d3 := x7.cell 3 rfl; have d4 := x7.cell 4 rfl; have d5 := x7.cell 5 rfl; have d6 := x7.cell 6 rfl; have d7 := x7.cell 7 rfl
        go_wp2_with fail
        refine (hrdY aQ cQ _ hQz).mono ?_
        rintro e Vc5 ⟨rfl, hb1⟩
        clear d0 d1 d2 d3 d4 d5 d6 d7
        replace x7 := x7.below hb1
        replace x0 := x0.below hb1
        replace hX := hX.below hb1 (Nat.le_refl _)
        replace hQz := hQz.below hb1 (Nat.le_refl _)
        replace hb := hb.trans (hb1.mono hb.size)
        clear hb1 hrdY
        have d0 := x7.cell 0 rfl; have d1 := x7.cell 1 rfl; have d2 := x7.cell 2 rfl; have d3 := x7.cell 3 rfl; have d4 := x7.cell 4 rfl; have d5 := x7.cell 5 rfl; have d6 := x7.cell 6 rfl; have d7 := x7.cell 7 rfl
        have c0 := x0.cell 0 rfl; have c1 := x0.cell 1 rfl; have c2 := x0.cell 2 rfl; have c3 := x0.cell 3 rfl; have c4 := x0.cell 4 rfl; have c5 := x0.cell 5 rfl; have c6 := x0.cell 6 rfl; have c7 := x0.cell 7 rfl
        cases rdY with
        | false =>
          go_wp2_with fail
          refine (hwk _).mono ?_
          rintro e Vw ⟨rfl, hbw9⟩
          clear c0 c1 c2 c3 c4 c5 c6 c7
          clear d0 d1 d2 d3 d4 d5 d6 d7
          replace hb := hb.trans (hbw9.mono hb.size)
          go_wp2
          go_ret
          exact ⟨rfl, hb⟩
        | true =>
          have hS := HS.out
          (try simp only [forall_const] at hS)
          obtain ⟨e1, e2, e3, e4, e5, e6, e7, e8, e9, e10⟩ := hS
          subst e1 e2 e3 e4 e5 e6 e7 e8 e9 e10
          clear HS
          go_wp2_with fail
          refine (hfe _ hX).mono ?_
          rintro e Vc7 ⟨rfl, hb1⟩
          clear c0 c1 c2 c3 c4 c5 c6 c7
          clear d0 d1 d2 d3 d4 d5 d6 d7
          replace x7 := x7.below hb1
          replace x0 := x0.below hb1
          replace hX := hX.below hb1 (Nat.le_refl _)
          replace hQz := hQz.below hb1 (Nat.le_refl _)
          replace hb := hb.trans (hb1.mono hb.size)
          clear hb1 hfe
          have d0 := x7.cell 0 rfl; have d1 := x7.cell 1 rfl; have d2 := x7.cell 2 rfl; have d3 := x7.cell 3 rfl; have d4 := x7.cell 4 rfl; have d5 := x7.cell 5 rfl; have d6 := x7.cell 6 rfl; have d7 := x7.cell 7 rfl
          have c0 := x0.cell 0 rfl; have c1 := x0.cell 1 rfl; have c2 := x0.cell 2 rfl; have c3 := x0.cell 3 rfl; have c4 := x0.cell 4 rfl; have c5 := x0.cell 5 rfl; have c6 := x0.cell 6 rfl; have c7 := x0.cell 7 rfl
          go_wp2_with fail
          refine (hfeY aQ cQ _ hQz).mono ?_
          rintro e Vc8 ⟨rfl, hb1⟩
          clear c0 c1 c2 c3 c4 c5 c6 c7
          clear d0 d1 d2 d3 d4 d5 d6 d7
          replace x7 := x7.below hb1
          replace x0 := x0.below hb1
          replace hX := hX.below hb1 (Nat.le_refl _)
          replace hQz := hQz.below hb1 (Nat.le_refl _)
          replace hb := hb.trans (hb1.mono hb.size)
          clear hb1 hfeY
          have d0 := x7.cell 0 rfl; have d1 := x7.cell 1 rfl; have d2 := x7.cell 2 rfl; have d3 := x7.cell 3 rfl; have d4 := x7.cell 4 rfl; have d5 := x7.cell 5 rfl; have d6 := x7.cell 6 rfl; have d7 := x7.cell 7 rfl
          have c0 := x0.cell 0 rfl; have c1 := x0.cell 1 rfl; have c2 := x0.cell 2 rfl; have c3 := x0.cell 3 rfl; have c4 := x0.cell 4 rfl; have c5 := x0.cell 5 rfl; have c6 := x0.cell 6 rfl; have c7 := x0.cell 7 rfl
          go_wp2_with fail
          refine (hma _ hX).mono ?_
          rintro e Vc9 ⟨rfl, hb1⟩
          clear c0 c1 c2 c3 c4 c5 c6 c7
          clear d0 d1 d2 d3 d4 d5 d6 d7
          replace x7 := x7.below hb1
          replace x0 := x0.below hb1
          replace hX := hX.below hb1 (Nat.le_refl _)
          replace hQz := hQz.below hb1 (Nat.le_refl _)
          replace hb := hb.trans (hb1.mono hb.size)
          clear hb1 hma
          have d0 := x7.cell 0 rfl; have d1 := x7.cell 1 rfl; have d2 := x7.cell 2 rfl; have d3 := x7.cell 3 rfl; have d4 := x7.cell 4 rfl; have d5 := x7.cell 5 rfl; have d6 := x7.cell 6 rfl; have d7 := x7.cell 7 rfl
          have c0 := x0.cell 0 rfl; have c1 := x0.cell 1 rfl; have c2 := x0.cell 2 rfl; have c3 := x0.cell 3 rfl; have c4 := x0.cell 4 rfl; have c5 := x0.cell 5 rfl; have c6 := x0.cell 6 rfl; have c7 := x0.cell 7 rfl
          go_wp2_with fail
          refine (hmaY aQ cQ _ hQz).mono ?_
          rintro e Vc10 ⟨rfl, hb1⟩
          clear c0 c1 c2 c3 c4 c5 c6 c7
          clear d0 d1 d2 d3 d4 d5 d6 d7
          replace x7 := x7.below hb1
          replace x0 := x0.below hb1
          replace hX := hX.below hb1 (Nat.le_refl _)
          replace hQz := hQz.below hb1 (Nat.le_refl _)
          replace hb := hb.trans (hb1.mono hb.size)
          clear hb1 hmaY
          have d0 := x7.cell 0 rfl; have d1 := x7.cell 1 rfl; have d2 := x7.cell 2 rfl; have d3 := x7.cell 3 rfl; have d4 := x7.cell 4 rfl; have d5 := x7.cell 5 rfl; have d6 := x7.cell 6 rfl; have d7 := x7.cell 7 rfl
          have c0 := x0.cell 0 rfl; have c1 := x0.cell 1 rfl; have c2 := x0.cell 2 rfl; have c3 := x0.cell 3 rfl; have c4 := x0.cell 4 rfl; have c5 := x0.cell 5 rfl; have c6 := x0.cell 6 rfl; have c7 := x0.cell 7 rfl
          have n1 : ((FNY : Int) != (FNY : Int)) = false := by simp
          have n2 : (FEY != FEY) = false := by simp
          have n3 : ((MNY : Int) != (MNY : Int)) = false := by simp
          have n4 : (ERY != ERY) = false := by simp
          go_wp2_with fail
          refine (hre _ hX).mono ?_
          rintro e Vc11 ⟨hb1, a1, k1, rfl, z1⟩
          clear c0 c1 c2 c3 c4 c5 c6 c7
          clear d0 d1 d2 d3 d4 d5 d6 d7
          replace x7 := x7.below hb1
          replace x0 := x0.below hb1
          replace hX := hX.below hb1 (Nat.le_refl _)
          replace hQz := hQz.below hb1 (Nat.le_refl _)
          replace hb := hb.trans (hb1.mono hb.size)
          clear hb1 hre
          have d0 := x7.cell 0 rfl; have d1 := x7.cell 1 rfl; have d2 := x7.cell 2 rfl; have d3 := x7.cell 3 rfl; have d4 := x7.cell 4 rfl; have d5 := x7.cell 5 rfl; have d6 := x7.cell 6 rfl; have d7 := x7.cell 7 rfl
          have c0 := x0.cell 0 rfl; have c1 := x0.cell 1 rfl; have c2 := x0.cell 2 rfl; have c3 := x0.cell 3 rfl; have c4 := x0.cell 4 rfl; have c5 := x0.cell 5 rfl; have c6 := x0.cell 6 rfl; have c7 := x0.cell 7 rfl
          go_wp2_with fail
          refine (hreY aQ cQ _ hQz).mono ?_
          rintro e Vc12 ⟨hb1, a2, k2, rfl, z2⟩
          clear c0 c1 c2 c3 c4 c5 c6 c7
          clear d0 d1 d2 d3 d4 d5 d6 d7
          replace x7 := x7.below hb1
          replace x0 := x0.below hb1
          replace hX := hX.below hb1 (Nat.le_refl _)
          replace hQz := hQz.below hb1 (Nat.le_refl _)
          replace z1 := z1.below hb1
          replace hb := hb.trans (hb1.mono hb.size)
          clear hb1 hreY
          have d0 := x7.cell 0 rfl; have d1 := x7.cell 1 rfl; have d2 := x7.cell 2 rfl; have d3 := x7.cell 3 rfl; have d4 := x7.cell 4 rfl; have d5 := x7.cell 5 rfl; have d6 := x7.cell 6 rfl; have d7 := x7.cell 7 rfl
          have c0 := x0.cell 0 rfl; have c1 := x0.cell 1 rfl; have c2 := x0.cell 2 rfl; have c3 := x0.cell 3 rfl; have c4 := x0.cell 4 rfl; have c5 := x0.cell 5 rfl; have c6 := x0.cell 6 rfl; have c7 := x0.cell 7 rfl
          go_wp2_with fail
          refine (has _ hX).mono ?_
          rintro e Vc13 ⟨rfl, hb1⟩
          clear c0 c1 c2 c3 c4 c5 c6 c7
          clear d0 d1 d2 d3 d4 d5 d6 d7
          replace x7 := x7.below hb1
          replace x0 := x0.below hb1
          replace hX := hX.below hb1 (Nat.le_refl _)
          replace hQz := hQz.below hb1 (Nat.le_refl _)
          replace z1 := z1.below hb1
          replace z2 := z2.below hb1
          replace hb := hb.trans (hb1.mono hb.size)
          clear hb1 has
          have d0 := x7.cell 0 rfl; have d1 := x7.cell 1 rfl; have d2 := x7.cell 2 rfl; have d3 := x7.cell 3 rfl; have d4 := x7.cell 4 rfl; have d5 := x7.cell 5 rfl; have d6 := x7.cell 6 rfl; have d7 := x7.cell 7 rfl
          have c0 := x0.cell 0 rfl; have c1 := x0.cell 1 rfl; have c2 := x0.cell 2 rfl; have c3 := x0.cell 3 rfl; have c4 := x0.cell 4 rfl; have c5 := x0.cell 5 rfl; have c6 := x0.cell 6 rfl; have c7 := x0.cell 7 rfl
          have hba := below_one (w := Vc13) (.cells #[.int .i64 (ALY : Int), .int .i64 (AHY : Int)] 39)
          have HXa := hid (And.intro (x7.below hba) (And.intro (x0.below hba) (And.intro (hX.below hba (Nat.le_refl _)) (And.intro (hQz.below hba (Nat.le_refl _)) (And.intro (z1.below hba) (And.intro (z2.below hba) (And.intro (hb.trans (hba.mono hb.size)) (Bx.new Vc13 #[.int .i64 (ALY : Int), .int .i64 (AHY : Int)] 39))))))))
          clear hba hb x7 x0 hX hQz z1 z2
          go_upto_region 19 with fail
          clear c0 c1 c2 c3 c4 c5 c6 c7
          clear d0 d1 d2 d3 d4 d5 d6 d7
          obtain ⟨x7, x0, hX, hQz, z1, z2, hb, x19⟩ := HXa.out
          clear HXa
          generalize Vc13.heap.size = sa_x19 at *
          generalize World.alloc _ _ = Va_x19 at *
          have c0 := x0.cell 0 rfl; have c1 := x0.cell 1 rfl; have c2 := x0.cell 2 rfl; have c3 := x0.cell 3 rfl; have c4 := x0.cell 4 rfl; have c5 := x0.cell 5 rfl; have c6 := x0.cell 6 rfl; have c7 := x0.cell 7 rfl
          have d0 := x7.cell 0 rfl; have d1 := x7.cell 1 rfl; have d2 := x7.cell 2 rfl; have d3 := x7.cell 3 rfl; have d4 := x7.cell 4 rfl; have d5 := x7.cell 5 rfl; have d6 := x7.cell 6 rfl; have d7 := x7.cell 7 rfl
          go_wp2_with fail
          refine (hasY aQ cQ _ hQz).mono ?_
          rintro e Vc15 ⟨rfl, hb1⟩
          clear c0 c1 c2 c3 c4 c5 c6 c7
          clear d0 d1 d2 d3 d4 d5 d6 d7
          replace x7 := x7.below hb1
          replace x0 := x0.below hb1
          replace x19 := x19.below hb1
          replace hX := hX.below hb1 (Nat.le_refl _)
          replace hQz := hQz.below hb1 (Nat.le_refl _)
          replace z1 := z1.below hb1
          replace z2 := z2.below hb1
          replace hb := hb.trans (hb1.mono hb.size)
          clear hb1 hasY
          have d0 := x7.cell 0 rfl; have d1 := x7.cell 1 rfl; have d2 := x7.cell 2 rfl; have d3 := x7.cell 3 rfl; have d4 := x7.cell 4 rfl; have d5 := x7.cell 5 rfl; have d6 := x7.cell 6 rfl; have d7 := x7.cell 7 rfl
          have c0 := x0.cell 0 rfl; have c1 := x0.cell 1 rfl; have c2 := x0.cell 2 rfl; have c3 := x0.cell 3 rfl; have c4 := x0.cell 4 rfl; have c5 := x0.cell 5 rfl; have c6 := x0.cell 6 rfl; have c7 := x0.cell 7 rfl
          have hba := below_one (w := Vc15) (.cells #[.int .i64 (ALY : Int), .int .i64 (AHY : Int)] 39)
          have HXa := hid (And.intro (x7.below hba) (And.intro (x0.below hba) (And.intro (x19.below hba) (And.intro (hX.below hba (Nat.le_refl _)) (And.intro (hQz.below hba (Nat.le_refl _)) (And.intro (z1.below hba) (And.intro (z2.below hba) (And.intro (hb.trans (hba.mono hb.size)) (Bx.new Vc15 #[.int .i64 (ALY : Int), .int .i64 (AHY : Int)] 39)))))))))
          clear hba hb x7 x0 x19 hX hQz z1 z2
          go_upto_region 20 with fail
          clear c0 c1 c2 c3 c4 c5 c6 c7
          clear d0 d1 d2 d3 d4 d5 d6 d7
          obtain ⟨x7, x0, x19, hX, hQz, z1, z2, hb, x20⟩ := HXa.out
          clear HXa
          generalize Vc15.heap.size = sa_x20 at *
          generalize World.alloc _ _ = Va_x20 at *
          have c0 := x0.cell 0 rfl; have c1 := x0.cell 1 rfl; have c2 := x0.cell 2 rfl; have c3 := x0.cell 3 rfl; have c4 := x0.cell 4 rfl; have c5 := x0.cell 5 rfl; have c6 := x0.cell 6 rfl; have c7 := x0.cell 7 rfl
          have d0 := x7.cell 0 rfl; have d1 := x7.cell 1 rfl; have d2 := x7.cell 2 rfl; have d3 := x7.cell 3 rfl; have d4 := x7.cell 4 rfl; have d5 := x7.cell 5 rfl; have d6 := x7.cell 6 rfl; have d7 := x7.cell 7 rfl
          go_wp2_with fail
          refine (hrl _ hX).mono ?_
          rintro e Vc17 ⟨hb1, a3, k3, rfl, z3⟩
          clear c0 c1 c2 c3 c4 c5 c6 c7
          clear d0 d1 d2 d3 d4 d5 d6 d7
          replace x7 := x7.below hb1
          replace x0 := x0.below hb1
          replace x19 := x19.below hb1
          replace x20 := x20.below hb1
          replace hX := hX.below hb1 (Nat.le_refl _)
          replace hQz := hQz.below hb1 (Nat.le_refl _)
          replace z1 := z1.below hb1
          replace z2 := z2.below hb1
          replace hb := hb.trans (hb1.mono hb.size)
          clear hb1 hrl
          have d0 := x7.cell 0 rfl; have d1 := x7.cell 1 rfl; have d2 := x7.cell 2 rfl; have d3 := x7.cell 3 rfl; have d4 := x7.cell 4 rfl; have d5 := x7.cell 5 rfl; have d6 := x7.cell 6 rfl; have d7 := x7.cell 7 rfl
          have c0 := x0.cell 0 rfl; have c1 := x0.cell 1 rfl; have c2 := x0.cell 2 rfl; have c3 := x0.cell 3 rfl; have c4 := x0.cell 4 rfl; have c5 := x0.cell 5 rfl; have c6 := x0.cell 6 rfl; have c7 := x0.cell 7 rfl
          go_wp2_with fail
          refine (hrlY aQ cQ _ hQz).mono ?_
          rintro e Vc18 ⟨hb1, a4, k4, rfl, z4⟩
          clear c0 c1 c2 c3 c4 c5 c6 c7
          clear d0 d1 d2 d3 d4 d5 d6 d7
          replace x7 := x7.below hb1
          replace x0 := x0.below hb1
          replace x19 := x19.below hb1
          replace x20 := x20.below hb1
          replace hX := hX.below hb1 (Nat.le_refl _)
          replace hQz := hQz.below hb1 (Nat.le_refl _)
          replace z1 := z1.below hb1
          replace z2 := z2.below hb1
          replace z3 := z3.below hb1
          replace hb := hb.trans (hb1.mono hb.size)
          clear hb1 hrlY
          have d0 := x7.cell 0 rfl; have d1 := x7.cell 1 rfl; have d2 := x7.cell 2 rfl; have d3 := x7.cell 3 rfl; have d4 := x7.cell 4 rfl; have d5 := x7.cell 5 rfl; have d6 := x7.cell 6 rfl; have d7 := x7.cell 7 rfl
          have c0 := x0.cell 0 rfl; have c1 := x0.cell 1 rfl; have c2 := x0.cell 2 rfl; have c3 := x0.cell 3 rfl; have c4 := x0.cell 4 rfl; have c5 := x0.cell 5 rfl; have c6 := x0.cell 6 rfl; have c7 := x0.cell 7 rfl
          clear c0 c1 c2 c3 c4 c5 c6 c7
          clear d0 d1 d2 d3 d4 d5 d6 d7
          clear x0 x7 hX hQz
          have p0 := x19.cell 0 rfl; have p1 := x19.cell 1 rfl
          have q0 := x20.cell 0 rfl; have q1 := x20.cell 1 rfl
          have hsp := fun V => span_eql (ALY : Int) (AHY : Int) (ALY : Int) (AHY : Int) V
          have hs1 := SameInts_any a1 a2 k1 k2 RLY RLY _ z1.i z2.i
          rw [decide_eq_true (rfl : RLY = RLY)] at hs1
          have hs2 := fun V h1 h2 => SameInts_any a3 a4 k3 k4 SOY SOY V h1 h2
          rw [decide_eq_true (rfl : SOY = SOY)] at hs2
          rw [decide_eq_true (⟨rfl, rfl⟩ : (ALY : Int) = (ALY : Int) ∧ (AHY : Int) = (AHY : Int))] at hsp
          have m1 : (REY == REY) = true := by simp
          have m2 : (AEY == AEY) = true := by simp
          have m3 : (ERY == ERY) = true := by simp
          go_wp2_with fail
          refine (hs1).mono ?_
          rintro e Vc19 ⟨rfl, hb1⟩
          clear q0 q1
          clear p0 p1
          replace x19 := x19.below hb1
          replace x20 := x20.below hb1
          replace z1 := z1.below hb1
          replace z2 := z2.below hb1
          replace z3 := z3.below hb1
          replace z4 := z4.below hb1
          replace hb := hb.trans (hb1.mono hb.size)
          clear hb1 hs1
          have p0 := x19.cell 0 rfl; have p1 := x19.cell 1 rfl
          have q0 := x20.cell 0 rfl; have q1 := x20.cell 1 rfl
          go_wp2_with fail
          refine (hs2 _ z3.i z4.i).mono ?_
          rintro e Vc20 ⟨rfl, hb1⟩
          clear p0 p1
          clear q0 q1
          replace x19 := x19.below hb1
          replace x20 := x20.below hb1
          replace z1 := z1.below hb1
          replace z2 := z2.below hb1
          replace z3 := z3.below hb1
          replace z4 := z4.below hb1
          replace hb := hb.trans (hb1.mono hb.size)
          clear hb1 hs2
          have p0 := x19.cell 0 rfl; have p1 := x19.cell 1 rfl
          have q0 := x20.cell 0 rfl; have q1 := x20.cell 1 rfl
          go_wp2_with fail
          refine (hwk _).mono ?_
          rintro e Vw ⟨rfl, hbw9⟩
          clear p0 p1
          clear q0 q1
          replace hb := hb.trans (hbw9.mono hb.size)
          go_wp2
          go_ret
          exact ⟨rfl, hb⟩
end Go.Proofs.Yteianfbdhakhpaa
