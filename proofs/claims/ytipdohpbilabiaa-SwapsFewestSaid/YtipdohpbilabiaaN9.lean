import Derived.Test.YtipdohpbilabiaaN8
/-! Equal lists, keeps and visits are found to be equal. -/
namespace Go.Proofs.Ytipdohpbilabiaa
set_option linter.unusedSimpArgs false
set_option linter.unusedVariables false
open Go Go.RowKit

set_option maxRecDepth 100000 in
set_option maxHeartbeats 2000000 in
theorem SameInts_eq (a b : Option Addr) (c d : Nat) (l : List Int) (w : World) (ha : Ints w a l) (hb : Ints w b l) : Calls Try.prog 23 #[.slice a l.length c, .slice b l.length d] w fun e w' => e = .returned (.bool true) ∧ Below w.heap.size w w' := by
  have hlen : l.length ≤ 9223372036854775807 := ha.len
  obtain ⟨n, hn⟩ : ∃ n, n = l.length := ⟨_, rfl⟩
  rw [← hn] at hlen ⊢
  have HN := hid hn
  clear hn
  go_enter Try.func23, Try.ntmps23
  go_wp2
  go_loopw [5] (fun v5 wr => ∃ k : Nat, k ≤ n ∧ v5 = .int .i64 (k : Int) ∧ Below w.heap.size w wr) (fun v5 _ => n - (intOf v5).toNat)
  case atStart => exact ⟨0, Nat.zero_le _, rfl, Below.refl _ _⟩
  case round =>
    obtain ⟨k, hk, rfl, hbw⟩ := hrel
    by_cases hlt : k < n
    · have hkl : k < l.length := by rw [← HN.out]; exact hlt
      obtain ⟨b1, o1, x, rfl, _, hc, hx1, hx2, hg, _⟩ := (ha.below hbw (Nat.le_refl _)).at (k := k) hkl
      obtain ⟨b2, o2, y, rfl, _, hd, _, _, hg2, _⟩ := (hb.below hbw (Nat.le_refl _)).at (k := k) hkl
      have e : x = y := by have h1 := hg.out; have h2 := hg2.out; rw [h1] at h2; exact Option.some.inj h2
      subst e
      have f1 := fun t => Ext.cell hc t
      have f2 := fun t => Ext.cell hd t
      have hne : (x != x) = false := by simp
      clear hg hg2 hc hd
      have hkI : (k : Int) < n := by omega
      have hk0 : (0 : Int) ≤ (k : Int) := by omega
      go_upto_region 6 with fail
      refine wp_region_ext_lit (by kernel_rfl) (by kernel_rfl) ?_
      repeat (quiet_step (first | fail))
      refine wpQuiet_nil ?_
      intro _ hw'
      obtain ⟨t, rfl⟩ := hw'
      have hb14 := hbw.trans (t.below.mono hbw.size)
      go_wp2
      go_roundw
      case rel => exact ⟨k + 1, by omega, by simp, hb14⟩
      case measure => simp [intOf]; omega
    · obtain rfl : k = n := by omega
      go_wp2
      go_ret
      exact ⟨rfl, hbw⟩

set_option maxRecDepth 100000 in
set_option maxHeartbeats 2000000 in
theorem SameLists_eq (a b : Option Addr) (c d : Nat) (l : List (List Int)) (w : World) (ha : Lss w a l) (hb : Lss w b l) : Calls Try.prog 25 #[.slice a l.length c, .slice b l.length d] w fun e w' => e = .returned (.bool true) ∧ Below w.heap.size w w' := by
  have hlen : l.length ≤ 9223372036854775807 := ha.1
  obtain ⟨n, hn⟩ : ∃ n, n = l.length := ⟨_, rfl⟩
  rw [← hn] at hlen ⊢
  have HN := hid hn
  clear hn
  go_enter Try.func25, Try.ntmps25
  go_wp2
  go_loopw [5] (fun v5 wr => ∃ k : Nat, k ≤ n ∧ v5 = .int .i64 (k : Int) ∧ Below w.heap.size w wr) (fun v5 _ => n - (intOf v5).toNat)
  case atStart => exact ⟨0, Nat.zero_le _, rfl, Below.refl _ _⟩
  case round =>
    obtain ⟨k, hk, rfl, hbw⟩ := hrel
    by_cases hlt : k < n
    · have hkl : k < l.length := by rw [← HN.out]; exact hlt
      obtain ⟨b1, o1, a1, c1, rfl, _, hc, hI1⟩ := (ha.below hbw (Nat.le_refl _)).at (k := k) hkl
      obtain ⟨b2, o2, a2, c2, rfl, _, hd, hI2⟩ := (hb.below hbw (Nat.le_refl _)).at (k := k) hkl
      have hsa := fun (t : Ext wr) => SameInts_eq a1 a2 c1 c2 (l.getD k []) t.w (hI1.below t.below (Nat.le_refl _)) (hI2.below t.below (Nat.le_refl _))
      obtain ⟨L, hL⟩ : ∃ L, L = l.getD k [] := ⟨_, rfl⟩
      rw [← hL] at hsa hc hd
      have f1 := fun t => Ext.cell hc t
      have f2 := fun t => Ext.cell hd t
      clear hI1 hI2 hc hd hL
      have hkI : (k : Int) < n := by omega
      have hk0 : (0 : Int) ≤ (k : Int) := by omega
      go_upto_region 6 with fail
      refine wp_region_ext_lit (by kernel_rfl) (by kernel_rfl) ?_
      repeat (quiet_step (first | (go_at_call 23; exact quiet_ext (hsa _))))
      refine wpQuiet_nil ?_
      intro _ hw'
      obtain ⟨t, rfl⟩ := hw'
      have hb14 := hbw.trans (t.below.mono hbw.size)
      go_wp2
      go_roundw
      case rel => exact ⟨k + 1, by omega, by simp, hb14⟩
      case measure => simp [intOf]; omega
    · obtain rfl : k = n := by omega
      go_wp2
      go_ret
      exact ⟨rfl, hbw⟩

set_option maxRecDepth 100000 in
set_option maxHeartbeats 2000000 in
theorem SameKeeps_eq (a b : Option Addr) (c d : Nat) (l : List (Int × Int)) (w : World) (ha : Prs w a l) (hb : Prs w b l) : Calls Try.prog 34 #[.slice a l.length c, .slice b l.length d] w fun e w' => e = .returned (.bool true) ∧ Below w.heap.size w w' := by
  have hlen : l.length ≤ 9223372036854775807 := by have := ha.1; omega
  obtain ⟨n, hn⟩ : ∃ n, n = l.length := ⟨_, rfl⟩
  rw [← hn] at hlen ⊢
  have HN := hid hn
  clear hn
  go_enter Try.func34, Try.ntmps34
  go_wp2
  go_loopw [5] (fun v5 wr => ∃ k : Nat, k ≤ n ∧ v5 = .int .i64 (k : Int) ∧ Below w.heap.size w wr) (fun v5 _ => n - (intOf v5).toNat)
  case atStart => exact ⟨0, Nat.zero_le _, rfl, Below.refl _ _⟩
  case round =>
    obtain ⟨k, hk, rfl, hbw⟩ := hrel
    by_cases hlt : k < n
    · have hkl : k < l.length := by rw [← HN.out]; exact hlt
      obtain ⟨b1, o1, x, y, rfl, _, hc, hd, _, _, hg, _⟩ := (ha.below hbw (Nat.le_refl _)).at (k := k) hkl
      obtain ⟨b2, o2, x', y', rfl, _, hc', hd', _, _, hg2, _⟩ := (hb.below hbw (Nat.le_refl _)).at (k := k) hkl
      have e : (x, y) = (x', y') := by have h1 := hg.out; have h2 := hg2.out; rw [h1] at h2; exact Option.some.inj h2
      cases e
      have f1 := fun t => Ext.cell hc t
      have f2 := fun t => Ext.cell hd t
      have f3 := fun t => Ext.cell hc' t
      have f4 := fun t => Ext.cell hd' t
      clear hg hg2 hc hd hc' hd'
      have hkI : (k : Int) < n := by omega
      have hk0 : (0 : Int) ≤ (k : Int) := by omega
      go_upto_region 6 with fail
      refine wp_region_ext_lit (by kernel_rfl) (by kernel_rfl) ?_
      repeat (quiet_step (first | fail))
      refine wpQuiet_nil ?_
      intro _ hw'
      obtain ⟨t, rfl⟩ := hw'
      have hb14 := hbw.trans (t.below.mono hbw.size)
      go_wp2
      go_roundw
      case rel => exact ⟨k + 1, by omega, by simp, hb14⟩
      case measure => simp [intOf]; omega
    · obtain rfl : k = n := by omega
      go_wp2
      go_ret
      exact ⟨rfl, hbw⟩

set_option maxRecDepth 100000 in
set_option maxHeartbeats 3000000 in
theorem same_eq (ab ast ae ak bb bst be bk : Option Addr) (cb cs ce ck db ds de dk : Nat) (X : Sw) (w : World) (hX : Swp w ab ast ae ak X) (hY : Swp w bb bst be bk X) : Calls Try.prog 24 #[.agg #[.slice ab X.bs.length cb, .slice ast X.st.length cs, .slice ae X.er.length ce, .slice ak X.ks.length ck, .int .i64 X.ch], .agg #[.slice bb X.bs.length db, .slice bst X.st.length ds, .slice be X.er.length de, .slice bk X.ks.length dk, .int .i64 X.ch]] w fun e w' => e = .returned (.bool true) ∧ Below w.heap.size w w' := by
  obtain ⟨W, hW, hb, _, x0, y0⟩ := boxes2 w #[.slice ab X.bs.length cb, .slice ast X.st.length cs, .slice ae X.er.length ce, .slice ak X.ks.length ck, .int .i64 X.ch] 26 #[.slice bb X.bs.length db, .slice bst X.st.length ds, .slice be X.er.length de, .slice bk X.ks.length dk, .int .i64 X.ch] 26
  have hx := fun V (h : Below w.heap.size w V) => hX.below h (Nat.le_refl _)
  have hy := fun V (h : Below w.heap.size w V) => hY.below h (Nat.le_refl _)
  have h1 := fun V h => SameLists_eq ab bb cb db X.bs V (hx V h).1 (hy V h).1
  have h2 := fun V h => SameInts_eq ast bst cs ds X.st V (hx V h).2.1 (hy V h).2.1
  have h3 := fun V h => SameLists_eq ae be ce de X.er V (hx V h).2.2.1 (hy V h).2.2.1
  have h4 := fun V h => SameKeeps_eq ak bk ck dk X.ks V (hx V h).2.2.2 (hy V h).2.2.2
  have c0 := x0.cell 0 rfl; have c1 := x0.cell 1 rfl; have c2 := x0.cell 2 rfl; have c3 := x0.cell 3 rfl; have c4 := x0.cell 4 rfl; have d0 := y0.cell 0 rfl; have d1 := y0.cell 1 rfl; have d2 := y0.cell 2 rfl; have d3 := y0.cell 3 rfl; have d4 := y0.cell 4 rfl
  clear hX hY hx hy
  go_enter Try.func24, Try.ntmps24
  go_wp2_with fail
  refine (h1 _ hb).mono ?_
  rintro e Vn ⟨rfl, hb1⟩
  replace hb := hb.trans (hb1.mono hb.size)
  replace x0 := x0.below hb1
  replace y0 := y0.below hb1
  clear hb1 c0 c1 c2 c3 c4 d0 d1 d2 d3 d4
  have c0 := x0.cell 0 rfl; have c1 := x0.cell 1 rfl; have c2 := x0.cell 2 rfl; have c3 := x0.cell 3 rfl; have c4 := x0.cell 4 rfl; have d0 := y0.cell 0 rfl; have d1 := y0.cell 1 rfl; have d2 := y0.cell 2 rfl; have d3 := y0.cell 3 rfl; have d4 := y0.cell 4 rfl
  go_wp2_with fail
  refine (h2 _ hb).mono ?_
  rintro e Vn ⟨rfl, hb1⟩
  replace hb := hb.trans (hb1.mono hb.size)
  replace x0 := x0.below hb1
  replace y0 := y0.below hb1
  clear hb1 c0 c1 c2 c3 c4 d0 d1 d2 d3 d4
  have c0 := x0.cell 0 rfl; have c1 := x0.cell 1 rfl; have c2 := x0.cell 2 rfl; have c3 := x0.cell 3 rfl; have c4 := x0.cell 4 rfl; have d0 := y0.cell 0 rfl; have d1 := y0.cell 1 rfl; have d2 := y0.cell 2 rfl; have d3 := y0.cell 3 rfl; have d4 := y0.cell 4 rfl
  go_wp2_with fail
  refine (h3 _ hb).mono ?_
  rintro e Vn ⟨rfl, hb1⟩
  replace hb := hb.trans (hb1.mono hb.size)
  replace x0 := x0.below hb1
  replace y0 := y0.below hb1
  clear hb1 c0 c1 c2 c3 c4 d0 d1 d2 d3 d4
  have c0 := x0.cell 0 rfl; have c1 := x0.cell 1 rfl; have c2 := x0.cell 2 rfl; have c3 := x0.cell 3 rfl; have c4 := x0.cell 4 rfl; have d0 := y0.cell 0 rfl; have d1 := y0.cell 1 rfl; have d2 := y0.cell 2 rfl; have d3 := y0.cell 3 rfl; have d4 := y0.cell 4 rfl
  go_wp2_with fail
  refine (h4 _ hb).mono ?_
  rintro e Vn ⟨rfl, hb1⟩
  replace hb := hb.trans (hb1.mono hb.size)
  replace x0 := x0.below hb1
  replace y0 := y0.below hb1
  clear hb1 c0 c1 c2 c3 c4 d0 d1 d2 d3 d4
  have c0 := x0.cell 0 rfl; have c1 := x0.cell 1 rfl; have c2 := x0.cell 2 rfl; have c3 := x0.cell 3 rfl; have c4 := x0.cell 4 rfl; have d0 := y0.cell 0 rfl; have d1 := y0.cell 1 rfl; have d2 := y0.cell 2 rfl; have d3 := y0.cell 3 rfl; have d4 := y0.cell 4 rfl
  
  go_wp2
  go_ret
  exact ⟨rfl, hb⟩
end Go.Proofs.Ytipdohpbilabiaa
