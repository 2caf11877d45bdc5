import Derived.Test.YtakodllejndfeaaT24
import Derived.Test.YtakodllejndfeaaT11
/-! The reference's Paid, Left and Lost. -/
namespace Go.Proofs.Ytakodllejndfeaa
set_option linter.unusedSimpArgs false
set_option linter.unusedVariables false
open Go Go.RowKit


set_option maxRecDepth 100000 in
set_option maxHeartbeats 4000000 in
theorem refPaid_any (p : Int) (aS aO : Option Addr) (cS cO : Nat) (S : List Sd) (O : List Int) (w : World) (hX : Ry w aS aO p S O) : Calls Try.prog 39 #[.agg #[.int .i64 p, .slice aS S.length cS, .slice aO O.length cO]] w fun e w' => ∃ v, e = .returned (.tuple #[v, .int .i64 (askE p S O true)]) ∧ w'.ownsRow w.heap.size 3 1 v (stR paidV p S O).length ((stR paidV p S O).map (Value.int .i64)) ∧ Below w.heap.size w w' := by
  obtain ⟨W, hW, hb, _, x0⟩ := boxes1 w #[.int .i64 p, .slice aS S.length cS, .slice aO O.length cO] 25
  have hR := hX.below hb (Nat.le_refl _)
  have hsh := refShares_any p aS aO cS cO S O W hR
  have hbs := hb.size
  have hol := hX.ol
  by_cases hE : askE p S O true = 0
  · have hV := vB_ok (askE_0 hE).1
    have hL := shR_len hE
    have hra := shR_at p S O
    have hOW := hV.ow
    have hn0 : 0 < O.length := by
      have hQ := qok_of hV (askE_0 hE).2.2 hV.p0 hV.p9
      rcases Nat.eq_zero_or_pos O.length with h | h
      · have := hQ.sum
        rw [h] at this
        have h2 := hQ.a0
        simp [sumR] at this; omega
      · exact h
    rw [stR_ok hE, stL_len]
    rw [hE, hL] at hsh
    rw [hE]
    have hO := hR.ow
    have hn6 := hV.n6
    generalize shR p S O = L at *
    obtain ⟨n, hn⟩ : ∃ n, n = O.length := ⟨_, rfl⟩
    rw [← hn] at hsh hL hn0 hn6 x0 hW ⊢
    have HN := hid hn; have HOW := hid hOW
    have hnI : (n : Int) ≤ 6 := by omega
    clear hn hOW hE hV hX hR hol
    have c0 := x0.cell 0 rfl; have c1 := x0.cell 1 rfl; have c2 := x0.cell 2 rfl
    go_enter Try.func39, Try.ntmps39
    go_wp2_with fail
    refine hsh.mono ?_
    rintro e W1 ⟨v, rfl, ho, hb1⟩
    obtain ⟨r, cr, rfl⟩ := Go.Joins.ownsRow_form ho hn0
    have hge := own_ge2 ho r (by simp [Value.ownBlock])
    rw [← stK_zero paidV L O n hL] at ho
    have y0 := x0.below hb1
    clear hsh c0 c1 c2 hW
    have c0 := y0.cell 0 rfl; have c1 := y0.cell 1 rfl; have c2 := y0.cell 2 rfl
    go_wp2
    clear c0 c1 c2 y0
    go_loopw [6] (fun u6 wr => ∃ k : Nat, k ≤ n ∧ u6 = .int .i64 (k : Int) ∧ wr.ownsRow W.heap.size 3 1 (.slice (some ⟨r, 0, none⟩) n cr) n ((stK paidV L O n k).map (Value.int .i64)) ∧ Below W.heap.size W wr) (fun u6 _ => n - (intOf u6).toNat)
    case atStart => exact ⟨0, Nat.zero_le _, rfl, ho, hb1⟩
    case round =>
      clear ho hb1
      obtain ⟨k, hk, rfl, ho, hb1⟩ := hrel
      have y0 := x0.below hb1
      by_cases hlt : k < n
      · obtain ⟨b, off, o, rfl, hbl, hc, hx1, hx2, hg, _⟩ := (hO.below hb1 (Nat.le_refl _)).at (k := k) (by rw [← HN.out]; exact hlt)
        have hkI : (k : Int) < n := by omega
        have hk0 : (0 : Int) ≤ (k : Int) := by omega
        have hoo := HOW.out o (List.mem_of_getElem? hg.out)
        have hgo : O.getD k 0 = o := getD_of hg.out
        have hgk := stK_get paidV L O hlt
        have hset := stK_set paidV L O hlt
        have hrk := hra k
        rw [hgo] at hset
        obtain ⟨s, hs⟩ : ∃ s, s = L.getD k 0 := ⟨_, rfl⟩
        rw [← hs] at hgk hset hrk
        have hmx : max 0 (s - o) = paidV s o := by unfold paidV; split <;> omega
        have hmx' : max (s - o) 0 = paidV s o := by rw [Int.max_comm]; exact hmx
        have hrr := paidV_rng s o hrk hoo
        obtain ⟨t, ht⟩ : ∃ t, t = paidV s o := ⟨_, rfl⟩
        rw [← ht] at hset hmx hmx' hrr
        have ew : IntKind.i64.wrap (s - o) = s - o := IntWalk.i64_in _ (by omega)
        have q0 := own_cell ho k (v := .int .i64 s) (by rw [List.getElem?_map, hgk]; rfl)
        have HSET := hid hset; have HGK := hid hgk
        have e0 := Ext.cell q0; have e1 := Ext.cell hc; have e2 := y0.ext 2 rfl
        clear hset hgk ht hs hgo hg
        have c0 := y0.cell 0 rfl; have c1 := y0.cell 1 rfl; have c2 := y0.cell 2 rfl
        go_upto_region 5 with fail
        clear c0 c1 c2
        refine wp_region_ext_tail 13 (by kernel_rfl) (by kernel_rfl) ?_
        simp only [List.take_succ_cons, List.take_zero, List.drop_succ_cons, List.drop_zero]
        repeat (quiet_step (fail))
        refine wpQuiet_nil ?_
        intro _ hw'
        obtain ⟨tt, rfl⟩ := hw'
        have ho2 := own_below2 ho tt.below
        have hb2 := hb1.trans (tt.below.mono hb1.size)
        generalize tt.w = wc at *
        clear e0 e1 e2 ho hb1 q0 hc
        have q0 := own_cell ho2 k (v := .int .i64 s) (by rw [List.getElem?_map, HGK.out]; rfl)
        have fr := own_free ho2 k
        have z := own_set ho2 (j := k) (v := .int .i64 t) (by omega)
        rw [← List.map_set, HSET.out] at z
        have zb := hb2.setCell (p := ⟨r, k, none⟩) (by show W.heap.size ≤ r; omega) (.int .i64 t)
        have HZ := hid (And.intro z zb)
        clear z zb ho2 hb2 y0
        go_wp2
        go_roundw
        case rel => exact ⟨k + 1, by omega, by simp, HZ.out⟩
        case measure => simp [intOf]; omega
      · have hkn : k = n := by omega
        have hkI : ¬ (k : Int) < n := by omega
        rw [hkn, stK_end] at ho
        have HZ := hid (And.intro (own_base ho (show w.heap.size ≤ W.heap.size by omega)) (hb.trans (hb1.mono hb.size)))
        clear ho hb1 hkn y0
        go_wp2
        go_ret2
        exact ⟨_, rfl, HZ.out.1, HZ.out.2⟩
  · rw [stR_bad hE]
    rw [shR_bad hE] at hsh
    generalize askE p S O true = E at *
    have c0 := x0.cell 0 rfl; have c1 := x0.cell 1 rfl; have c2 := x0.cell 2 rfl
    go_enter Try.func39, Try.ntmps39
    go_wp2_with fail
    refine hsh.mono ?_
    rintro e W1 ⟨v, rfl, ho, hb1⟩
    have hv : v = .slice none 0 0 ∨ ∃ g c, v = .slice (some ⟨g, 0, none⟩) 0 c := by
      rcases Go.Joins.ownsRow_forms ho with ⟨h, _⟩ | ⟨g, c, h⟩
      · exact .inl h
      · exact .inr ⟨g, c, h⟩
    obtain ⟨va, vc, rfl⟩ := own_slice2 ho
    replace hb := hb.trans (hb1.mono hb.size)
    have HO := hid (own_base ho (show w.heap.size ≤ W.heap.size by omega))
    clear ho hb1 hsh c0 c1 c2 x0 hW hX hR hv
    go_wp2
    go_loopw [6] (fun u6 wr => u6 = .int .i64 0 ∧ wr = W1) (fun _ _ => 0)
    case atStart => exact ⟨rfl, rfl⟩
    case round =>
      obtain ⟨rfl, rfl⟩ := hrel
      go_wp2
      go_ret2
      exact ⟨_, rfl, HO.out, hb⟩


set_option maxRecDepth 100000 in
set_option maxHeartbeats 4000000 in
theorem refLeft_any (p : Int) (aS aO : Option Addr) (cS cO : Nat) (S : List Sd) (O : List Int) (w : World) (hX : Ry w aS aO p S O) : Calls Try.prog 40 #[.agg #[.int .i64 p, .slice aS S.length cS, .slice aO O.length cO]] w fun e w' => ∃ v, e = .returned (.tuple #[v, .int .i64 (askE p S O true)]) ∧ w'.ownsRow w.heap.size 3 1 v (stR leftO p S O).length ((stR leftO p S O).map (Value.int .i64)) ∧ Below w.heap.size w w' := by
  obtain ⟨W, hW, hb, _, x0⟩ := boxes1 w #[.int .i64 p, .slice aS S.length cS, .slice aO O.length cO] 25
  have hR := hX.below hb (Nat.le_refl _)
  have hsh := refShares_any p aS aO cS cO S O W hR
  have hbs := hb.size
  have hol := hX.ol
  by_cases hE : askE p S O true = 0
  · have hV := vB_ok (askE_0 hE).1
    have hL := shR_len hE
    have hra := shR_at p S O
    have hOW := hV.ow
    have hn0 : 0 < O.length := by
      have hQ := qok_of hV (askE_0 hE).2.2 hV.p0 hV.p9
      rcases Nat.eq_zero_or_pos O.length with h | h
      · have := hQ.sum
        rw [h] at this
        have h2 := hQ.a0
        simp [sumR] at this; omega
      · exact h
    rw [stR_ok hE, stL_len]
    rw [hE, hL] at hsh
    rw [hE]
    have hO := hR.ow
    have hn6 := hV.n6
    generalize shR p S O = L at *
    obtain ⟨n, hn⟩ : ∃ n, n = O.length := ⟨_, rfl⟩
    rw [← hn] at hsh hL hn0 hn6 x0 hW ⊢
    have HN := hid hn; have HOW := hid hOW
    have hnI : (n : Int) ≤ 6 := by omega
    clear hn hOW hE hV hX hR hol
    have c0 := x0.cell 0 rfl; have c1 := x0.cell 1 rfl; have c2 := x0.cell 2 rfl
    go_enter Try.func40, Try.ntmps40
    go_wp2_with fail
    refine hsh.mono ?_
    rintro e W1 ⟨v, rfl, ho, hb1⟩
    obtain ⟨r, cr, rfl⟩ := Go.Joins.ownsRow_form ho hn0
    have hge := own_ge2 ho r (by simp [Value.ownBlock])
    rw [← stK_zero leftO L O n hL] at ho
    have y0 := x0.below hb1
    clear hsh c0 c1 c2 hW
    have c0 := y0.cell 0 rfl; have c1 := y0.cell 1 rfl; have c2 := y0.cell 2 rfl
    go_wp2
    clear c0 c1 c2 y0
    go_loopw [6] (fun u6 wr => ∃ k : Nat, k ≤ n ∧ u6 = .int .i64 (k : Int) ∧ wr.ownsRow W.heap.size 3 1 (.slice (some ⟨r, 0, none⟩) n cr) n ((stK leftO L O n k).map (Value.int .i64)) ∧ Below W.heap.size W wr) (fun u6 _ => n - (intOf u6).toNat)
    case atStart => exact ⟨0, Nat.zero_le _, rfl, ho, hb1⟩
    case round =>
      clear ho hb1
      obtain ⟨k, hk, rfl, ho, hb1⟩ := hrel
      have y0 := x0.below hb1
      by_cases hlt : k < n
      · obtain ⟨b, off, o, rfl, hbl, hc, hx1, hx2, hg, _⟩ := (hO.below hb1 (Nat.le_refl _)).at (k := k) (by rw [← HN.out]; exact hlt)
        have hkI : (k : Int) < n := by omega
        have hk0 : (0 : Int) ≤ (k : Int) := by omega
        have hoo := HOW.out o (List.mem_of_getElem? hg.out)
        have hgo : O.getD k 0 = o := getD_of hg.out
        have hgk := stK_get leftO L O hlt
        have hset := stK_set leftO L O hlt
        have hrk := hra k
        rw [hgo] at hset
        obtain ⟨s, hs⟩ : ∃ s, s = L.getD k 0 := ⟨_, rfl⟩
        rw [← hs] at hgk hset hrk
        have hmx : max 0 (o - s) = leftO s o := by unfold leftO; split <;> omega
        have hmx' : max (o - s) 0 = leftO s o := by rw [Int.max_comm]; exact hmx
        have hrr := leftO_rng s o hrk hoo
        obtain ⟨t, ht⟩ : ∃ t, t = leftO s o := ⟨_, rfl⟩
        rw [← ht] at hset hmx hmx' hrr
        have ew : IntKind.i64.wrap (o - s) = o - s := IntWalk.i64_in _ (by omega)
        have q0 := own_cell ho k (v := .int .i64 s) (by rw [List.getElem?_map, hgk]; rfl)
        have HSET := hid hset; have HGK := hid hgk
        have e0 := Ext.cell q0; have e1 := Ext.cell hc; have e2 := y0.ext 2 rfl
        clear hset hgk ht hs hgo hg
        have c0 := y0.cell 0 rfl; have c1 := y0.cell 1 rfl; have c2 := y0.cell 2 rfl
        go_upto_region 5 with fail
        clear c0 c1 c2
        refine wp_region_ext_tail 13 (by kernel_rfl) (by kernel_rfl) ?_
        simp only [List.take_succ_cons, List.take_zero, List.drop_succ_cons, List.drop_zero]
        repeat (quiet_step (fail))
        refine wpQuiet_nil ?_
        intro _ hw'
        obtain ⟨tt, rfl⟩ := hw'
        have ho2 := own_below2 ho tt.below
        have hb2 := hb1.trans (tt.below.mono hb1.size)
        generalize tt.w = wc at *
        clear e0 e1 e2 ho hb1 q0 hc
        have q0 := own_cell ho2 k (v := .int .i64 s) (by rw [List.getElem?_map, HGK.out]; rfl)
        have fr := own_free ho2 k
        have z := own_set ho2 (j := k) (v := .int .i64 t) (by omega)
        rw [← List.map_set, HSET.out] at z
        have zb := hb2.setCell (p := ⟨r, k, none⟩) (by show W.heap.size ≤ r; omega) (.int .i64 t)
        have HZ := hid (And.intro z zb)
        clear z zb ho2 hb2 y0
        go_wp2
        go_roundw
        case rel => exact ⟨k + 1, by omega, by simp, HZ.out⟩
        case measure => simp [intOf]; omega
      · have hkn : k = n := by omega
        have hkI : ¬ (k : Int) < n := by omega
        rw [hkn, stK_end] at ho
        have HZ := hid (And.intro (own_base ho (show w.heap.size ≤ W.heap.size by omega)) (hb.trans (hb1.mono hb.size)))
        clear ho hb1 hkn y0
        go_wp2
        go_ret2
        exact ⟨_, rfl, HZ.out.1, HZ.out.2⟩
  · rw [stR_bad hE]
    rw [shR_bad hE] at hsh
    generalize askE p S O true = E at *
    have c0 := x0.cell 0 rfl; have c1 := x0.cell 1 rfl; have c2 := x0.cell 2 rfl
    go_enter Try.func40, Try.ntmps40
    go_wp2_with fail
    refine hsh.mono ?_
    rintro e W1 ⟨v, rfl, ho, hb1⟩
    have hv : v = .slice none 0 0 ∨ ∃ g c, v = .slice (some ⟨g, 0, none⟩) 0 c := by
      rcases Go.Joins.ownsRow_forms ho with ⟨h, _⟩ | ⟨g, c, h⟩
      · exact .inl h
      · exact .inr ⟨g, c, h⟩
    obtain ⟨va, vc, rfl⟩ := own_slice2 ho
    replace hb := hb.trans (hb1.mono hb.size)
    have HO := hid (own_base ho (show w.heap.size ≤ W.heap.size by omega))
    clear ho hb1 hsh c0 c1 c2 x0 hW hX hR hv
    go_wp2
    go_loopw [6] (fun u6 wr => u6 = .int .i64 0 ∧ wr = W1) (fun _ _ => 0)
    case atStart => exact ⟨rfl, rfl⟩
    case round =>
      obtain ⟨rfl, rfl⟩ := hrel
      go_wp2
      go_ret2
      exact ⟨_, rfl, HO.out, hb⟩

end Go.Proofs.Ytakodllejndfeaa
