import Derived.Test.YteianfbdhakhpaaV8
/-! The specification's Real, Sparks. -/
namespace Go.Proofs.Yteianfbdhakhpaa
set_option linter.unusedSimpArgs false
set_option linter.unusedVariables false
open Go Go.RowKit
theorem erX_ok {X : Pu} (h : erX X true = 0) : vB X = true ∧ RS X ≠ [] ∧ (RS X).length ≤ 15625 := by
  unfold erX chkE erO at h
  cases hv : vB X with
  | false => rw [hv] at h; simp at h
  | true =>
    refine ⟨rfl, fun hn => ?_, rdL_len X _ (timesB_rng (vB_ok hv).2.2).1 (by have := (vB_ok hv).2.1; omega)⟩
    rw [hv, hn] at h
    simp at h
set_option maxRecDepth 100000 in
set_option maxHeartbeats 4000000 in
theorem rReal_any (aT : Option Addr) (cT : Nat) (X : Pu) (w : World) (hX : Ints w aT X.ts) : Calls Try.prog 33 #[.agg #[.int .i64 X.l, .int .i64 X.n, .int .i64 X.pi, .int .i64 X.sl, .int .i64 X.ga, .int .i64 X.pa, .int .i64 X.sp, .slice aT X.ts.length cT]] w (ReP (erX X true) (soX reB X) w) := by
  obtain ⟨i0, hi0, iz0, iz1, iz2⟩ := info_parts info3i
  obtain ⟨W, hW, hb, _, x0⟩ := boxes1 w #[.int .i64 X.l, .int .i64 X.n, .int .i64 X.pi, .int .i64 X.sl, .int .i64 X.ga, .int .i64 X.pa, .int .i64 X.sp, .slice aT X.ts.length cT] 24
  replace hX := hX.below hb (Nat.le_refl _)
  have hkn := fun V h => known_any aT cT X true V h
  have HOK := hid (show erX X true = 0 → _ from fun h => erX_ok h)
  have HSO := hid (show soX reB X = if erX X true = 0 then soL reB (RS X) X.ts.length else [] from rfl)
  have HCK := hid (show ∀ k : Nat, ofN (k : Int) (RS X) = cntK (RS X) k from fun k => ofN_cnt rd_pair)
  have HC1 := hid (show ∀ (k : Int), ∀ r ∈ RS X, cntF (eqB k) r.1 ≤ 1 from fun k r hr => by rw [cnt_pair k r.1 (rd_pair r hr)]; split <;> omega)
  have HT24 := hid (show vB X = true → X.ts.length ≤ 24 from fun hv => (timesB_rng (vB_ok hv).2.2).1)
  unfold KnP at hkn
  generalize RS X = rs at *
  generalize soX reB X = SO at *
  generalize erX X true = E at *
  generalize X.ts.length = n at *
  have c0 := x0.cell 0 rfl; have c1 := x0.cell 1 rfl; have c2 := x0.cell 2 rfl; have c3 := x0.cell 3 rfl; have c4 := x0.cell 4 rfl; have c5 := x0.cell 5 rfl; have c6 := x0.cell 6 rfl; have c7 := x0.cell 7 rfl
  go_enter Try.func33, Try.ntmps33
  go_wp2_with fail
  refine (hkn _ hX).mono ?_
  rintro e V ⟨hb1, a, c, rfl, hr⟩
  have HX0 := hid (x0.below hb1)
  have HB := hid (hb.trans (hb1.mono hb.size))
  clear hb1 hb x0 c0 c1 c2 c3 c4 c5 c6 c7 hkn hW hX
  by_cases hE : E = 0
  rotate_left
  · have hE2 : (E != 0) = true := by rw [bne_iff_ne]; exact hE
    have HS := hid (show SO = [] by rw [HSO.out, if_neg hE])
    simp only [if_neg hE, List.length_nil]
    clear hE hr
    go_wp2
    go_ret2
    exact ⟨HB.out, none, 0, by rw [HS.out]; rfl, by rw [HS.out]; exact Iz.none_ _ _⟩
  · subst hE
    rw [if_pos rfl] at hr
    simp only [if_true]
    obtain ⟨hv, _, hn15⟩ := HOK.out rfl
    have h24 := HT24.out hv
    have HS := hid (show SO = soL reB rs n from HSO.out)
    obtain ⟨N, hN⟩ : ∃ N, N = rs.length := ⟨_, rfl⟩
    have HN := hid hN
    have HR := hid hr
    have hof := fun k V h => often_any W.heap.size a c rs (k : Int) V (h : Rds W.heap.size V a rs) hn15 (HC1.out k)
    rw [← hN] at hof ⊢
    rw [← hN] at hn15
    clear hN hr hv HOK HSO HT24 HC1
    go_wp2
    go_loopw [6, 7] (fun v6 v7 wr => ∃ (k p : Nat) (a1 : Option Addr) (c1 : Nat) (L : List Int), k ≤ n ∧ v7 = .int .i64 (k : Int) ∧ v6 = .slice a1 p c1 ∧ p ≤ k ∧ Hid (L = soL reB rs k ∧ p = L.length ∧ ∀ x ∈ L, -9223372036854775808 ≤ x ∧ x ≤ 9223372036854775807) ∧ wr.ownsRow V.heap.size 3 1 (.slice a1 p c1) p (L.map (Value.int .i64)) ∧ Below V.heap.size V wr) (fun _ v7 _ => n - (intOf v7).toNat)
    case atStart => exact ⟨0, 0, none, 0, [], Nat.zero_le _, rfl, rfl, Nat.le_refl _, hid ⟨rfl, rfl, fun _ h => nomatch h⟩, World.ownsRow_nil _ _ _ _, Below.refl _ _⟩
    case round =>
      obtain ⟨k, p, a1, e1, L, hk, rfl, rfl, hpk, HL, hown, hb⟩ := hrel
      have c7 := (HX0.out.below hb).cell 7 rfl
      by_cases hlt : k < n
      · have hkI : (k : Int) < n := by omega
        have hof1 := hof k _ (HR.out.below hb)
        rw [HCK.out] at hof1
        have HST := hid (soL_succ reB rs k)
        obtain ⟨q, hq⟩ : ∃ q, q = cntK rs k := ⟨_, rfl⟩
        have hqN : q ≤ N := by rw [hq, HN.out]; exact List.length_filter_le _ _
        have HQ := hid hq
        rw [← hq] at hof1
        clear hq hof
        go_wp2_with fail
        refine hof1.mono ?_
        rintro e V1 ⟨rfl, hb1⟩
        replace hown := own_below2 hown hb1
        replace hb := hb.trans (hb1.mono hb.size)
        clear hb1 hof1 c7
        by_cases hte : q = 0
        · have ht1 : ((q : Int) == 0) = true := by simp [hte]
          have HL2 := hid (show L ++ [(k : Int)] = soL reB rs (k + 1) ∧ p + 1 = (L ++ [(k : Int)]).length ∧ ∀ x ∈ L ++ [(k : Int)], -9223372036854775808 ≤ x ∧ x ≤ 9223372036854775807 from ⟨by
            rw [HST.out, if_pos (by rw [← HQ.out, ← HN.out]; exact decide_eq_true hte), HL.out.1], by rw [List.length_append, HL.out.2.1]; rfl, fun x hx => by
            rcases List.mem_append.1 hx with hx | hx
            · exact HL.out.2.2 x hx
            · rw [List.mem_singleton.1 hx]; omega⟩)
          have hw0 := hb.size
          clear hte
          go_wp2_with (at_builtin; go_loud (refine wpList_append_own _ rfl _ _ 22 rfl V.heap.size 3 i0 (.int .i64 0) 1 8 under22 hi0 iz0 iz1 iz2 rfl (by decide) (.slice a1 p e1) p _ rfl (hown.alloc _) ⟨V1.heap.size, 0, none⟩ 1 1 [.int .i64 (k : Int)] rfl rfl (cell_one_new _ _ _) (ints_oneCell .i64 [(k : Int)]) (by unfold maxLen; omega) (by omega) (by simp; omega) ?_); intro v9 W9 hrow9 hg9 _)
          obtain ⟨a9, c9, rfl⟩ := own_slice2 hrow9
          have hba := below_one (w := V1) (.cells #[.int .i64 (k : Int)] 3)
          have hb3 : Below V.heap.size V W9 := (hb.trans (hba.mono hb.size)).grown hg9 (by have := hb.size; simp; omega) (own_ge hown)
          have hrow10 : W9.ownsRow V.heap.size 3 1 (.slice a9 (p + 1) c9) (p + 1) ((L ++ [(k : Int)]).map (Value.int .i64)) := by simpa using hrow9
          clear hown hg9 hrow9 hb hba
          go_wp2
          go_roundw
          case rel => exact ⟨k + 1, p + 1, a9, c9, L ++ [(k : Int)], by omega, by go_num, rfl, by omega, HL2, hrow10, hb3⟩
          case measure => simp [intOf]; omega
        · have ht1 : ((q : Int) == 0) = false := by simp; omega
          have HL2 := hid (show L = soL reB rs (k + 1) ∧ p = L.length ∧ ∀ x ∈ L, -9223372036854775808 ≤ x ∧ x ≤ 9223372036854775807 from ⟨by
            rw [HST.out, if_neg (by rw [← HQ.out, ← HN.out]; exact fun h => hte (of_decide_eq_true h)), HL.out.1], HL.out.2⟩)
          clear hte
          go_wp2
          go_roundw
          case rel => exact ⟨k + 1, p, a1, e1, L, by omega, by go_num, rfl, by omega, HL2, hown, hb⟩
          case measure => simp [intOf]; omega
      · obtain rfl : k = n := by omega
        have hSL : SO = L := by rw [HS.out, HL.out.1]
        subst hSL
        have hz := own_nw hown HL.out.2.1 (by have := HL.out.2.1; omega) HL.out.2.2
        have HZ := hid (show ReP 0 SO w (.returned (.tuple #[.slice a1 p e1, .int .i64 0])) wr from ⟨HB.out.trans (hb.mono HB.out.size), a1, e1, by rw [HL.out.2.1], hz.1.mono HB.out.size⟩)
        clear hown hz HL hof
        go_wp2
        go_ret2
        exact HZ.out
set_option maxRecDepth 100000 in
set_option maxHeartbeats 4000000 in
theorem rSparks_any (aT : Option Addr) (cT : Nat) (X : Pu) (w : World) (hX : Ints w aT X.ts) : Calls Try.prog 35 #[.agg #[.int .i64 X.l, .int .i64 X.n, .int .i64 X.pi, .int .i64 X.sl, .int .i64 X.ga, .int .i64 X.pa, .int .i64 X.sp, .slice aT X.ts.length cT]] w (ReP (erX X true) (soX spB X) w) := by
  obtain ⟨i0, hi0, iz0, iz1, iz2⟩ := info_parts info3i
  obtain ⟨W, hW, hb, _, x0⟩ := boxes1 w #[.int .i64 X.l, .int .i64 X.n, .int .i64 X.pi, .int .i64 X.sl, .int .i64 X.ga, .int .i64 X.pa, .int .i64 X.sp, .slice aT X.ts.length cT] 24
  replace hX := hX.below hb (Nat.le_refl _)
  have hkn := fun V h => known_any aT cT X true V h
  have HOK := hid (show erX X true = 0 → _ from fun h => erX_ok h)
  have HSO := hid (show soX spB X = if erX X true = 0 then soL spB (RS X) X.ts.length else [] from rfl)
  have HCK := hid (show ∀ k : Nat, ofN (k : Int) (RS X) = cntK (RS X) k from fun k => ofN_cnt rd_pair)
  have HC1 := hid (show ∀ (k : Int), ∀ r ∈ RS X, cntF (eqB k) r.1 ≤ 1 from fun k r hr => by rw [cnt_pair k r.1 (rd_pair r hr)]; split <;> omega)
  have HT24 := hid (show vB X = true → X.ts.length ≤ 24 from fun hv => (timesB_rng (vB_ok hv).2.2).1)
  unfold KnP at hkn
  generalize RS X = rs at *
  generalize soX spB X = SO at *
  generalize erX X true = E at *
  generalize X.ts.length = n at *
  have c0 := x0.cell 0 rfl; have c1 := x0.cell 1 rfl; have c2 := x0.cell 2 rfl; have c3 := x0.cell 3 rfl; have c4 := x0.cell 4 rfl; have c5 := x0.cell 5 rfl; have c6 := x0.cell 6 rfl; have c7 := x0.cell 7 rfl
  go_enter Try.func35, Try.ntmps35
  go_wp2_with fail
  refine (hkn _ hX).mono ?_
  rintro e V ⟨hb1, a, c, rfl, hr⟩
  have HX0 := hid (x0.below hb1)
  have HB := hid (hb.trans (hb1.mono hb.size))
  clear hb1 hb x0 c0 c1 c2 c3 c4 c5 c6 c7 hkn hW hX
  by_cases hE : E = 0
  rotate_left
  · have hE2 : (E != 0) = true := by rw [bne_iff_ne]; exact hE
    have HS := hid (show SO = [] by rw [HSO.out, if_neg hE])
    simp only [if_neg hE, List.length_nil]
    clear hE hr
    go_wp2
    go_ret2
    exact ⟨HB.out, none, 0, by rw [HS.out]; rfl, by rw [HS.out]; exact Iz.none_ _ _⟩
  · subst hE
    rw [if_pos rfl] at hr
    simp only [if_true]
    obtain ⟨hv, _, hn15⟩ := HOK.out rfl
    have h24 := HT24.out hv
    have HS := hid (show SO = soL spB rs n from HSO.out)
    obtain ⟨N, hN⟩ : ∃ N, N = rs.length := ⟨_, rfl⟩
    have HN := hid hN
    have HR := hid hr
    have hof := fun k V h => often_any W.heap.size a c rs (k : Int) V (h : Rds W.heap.size V a rs) hn15 (HC1.out k)
    rw [← hN] at hof ⊢
    rw [← hN] at hn15
    clear hN hr hv HOK HSO HT24 HC1
    go_wp2
    go_loopw [6, 7] (fun v6 v7 wr => ∃ (k p : Nat) (a1 : Option Addr) (c1 : Nat) (L : List Int), k ≤ n ∧ v7 = .int .i64 (k : Int) ∧ v6 = .slice a1 p c1 ∧ p ≤ k ∧ Hid (L = soL spB rs k ∧ p = L.length ∧ ∀ x ∈ L, -9223372036854775808 ≤ x ∧ x ≤ 9223372036854775807) ∧ wr.ownsRow V.heap.size 3 1 (.slice a1 p c1) p (L.map (Value.int .i64)) ∧ Below V.heap.size V wr) (fun _ v7 _ => n - (intOf v7).toNat)
    case atStart => exact ⟨0, 0, none, 0, [], Nat.zero_le _, rfl, rfl, Nat.le_refl _, hid ⟨rfl, rfl, fun _ h => nomatch h⟩, World.ownsRow_nil _ _ _ _, Below.refl _ _⟩
    case round =>
      obtain ⟨k, p, a1, e1, L, hk, rfl, rfl, hpk, HL, hown, hb⟩ := hrel
      have c7 := (HX0.out.below hb).cell 7 rfl
      by_cases hlt : k < n
      · have hkI : (k : Int) < n := by omega
        have hof1 := hof k _ (HR.out.below hb)
        rw [HCK.out] at hof1
        have HST := hid (soL_succ spB rs k)
        obtain ⟨q, hq⟩ : ∃ q, q = cntK rs k := ⟨_, rfl⟩
        have hqN : q ≤ N := by rw [hq, HN.out]; exact List.length_filter_le _ _
        have HQ := hid hq
        rw [← hq] at hof1
        clear hq hof
        go_wp2_with fail
        refine hof1.mono ?_
        rintro e V1 ⟨rfl, hb1⟩
        replace hown := own_below2 hown hb1
        replace hb := hb.trans (hb1.mono hb.size)
        clear hb1 hof1 c7
        by_cases hte : q = N
        · have ht1 : ((q : Int) == (N : Int)) = true := by simp [hte]
          have HL2 := hid (show L ++ [(k : Int)] = soL spB rs (k + 1) ∧ p + 1 = (L ++ [(k : Int)]).length ∧ ∀ x ∈ L ++ [(k : Int)], -9223372036854775808 ≤ x ∧ x ≤ 9223372036854775807 from ⟨by
            rw [HST.out, if_pos (by rw [← HQ.out, ← HN.out]; exact decide_eq_true hte), HL.out.1], by rw [List.length_append, HL.out.2.1]; rfl, fun x hx => by
            rcases List.mem_append.1 hx with hx | hx
            · exact HL.out.2.2 x hx
            · rw [List.mem_singleton.1 hx]; omega⟩)
          have hw0 := hb.size
          clear hte
          go_wp2_with (at_builtin; go_loud (refine wpList_append_own _ rfl _ _ 22 rfl V.heap.size 3 i0 (.int .i64 0) 1 8 under22 hi0 iz0 iz1 iz2 rfl (by decide) (.slice a1 p e1) p _ rfl (hown.alloc _) ⟨V1.heap.size, 0, none⟩ 1 1 [.int .i64 (k : Int)] rfl rfl (cell_one_new _ _ _) (ints_oneCell .i64 [(k : Int)]) (by unfold maxLen; omega) (by omega) (by simp; omega) ?_); intro v9 W9 hrow9 hg9 _)
          obtain ⟨a9, c9, rfl⟩ := own_slice2 hrow9
          have hba := below_one (w := V1) (.cells #[.int .i64 (k : Int)] 3)
          have hb3 : Below V.heap.size V W9 := (hb.trans (hba.mono hb.size)).grown hg9 (by have := hb.size; simp; omega) (own_ge hown)
          have hrow10 : W9.ownsRow V.heap.size 3 1 (.slice a9 (p + 1) c9) (p + 1) ((L ++ [(k : Int)]).map (Value.int .i64)) := by simpa using hrow9
          clear hown hg9 hrow9 hb hba
          go_wp2
          go_roundw
          case rel => exact ⟨k + 1, p + 1, a9, c9, L ++ [(k : Int)], by omega, by go_num, rfl, by omega, HL2, hrow10, hb3⟩
          case measure => simp [intOf]; omega
        · have ht1 : ((q : Int) == (N : Int)) = false := by simp; omega
          have HL2 := hid (show L = soL spB rs (k + 1) ∧ p = L.length ∧ ∀ x ∈ L, -9223372036854775808 ≤ x ∧ x ≤ 9223372036854775807 from ⟨by
            rw [HST.out, if_neg (by rw [← HQ.out, ← HN.out]; exact fun h => hte (of_decide_eq_true h)), HL.out.1], HL.out.2⟩)
          clear hte
          go_wp2
          go_roundw
          case rel => exact ⟨k + 1, p, a1, e1, L, by omega, by go_num, rfl, by omega, HL2, hown, hb⟩
          case measure => simp [intOf]; omega
      · obtain rfl : k = n := by omega
        have hSL : SO = L := by rw [HS.out, HL.out.1]
        subst hSL
        have hz := own_nw hown HL.out.2.1 (by have := HL.out.2.1; omega) HL.out.2.2
        have HZ := hid (show ReP 0 SO w (.returned (.tuple #[.slice a1 p e1, .int .i64 0])) wr from ⟨HB.out.trans (hb.mono HB.out.size), a1, e1, by rw [HL.out.2.1], hz.1.mono HB.out.size⟩)
        clear hown hz HL hof
        go_wp2
        go_ret2
        exact HZ.out
end Go.Proofs.Yteianfbdhakhpaa
