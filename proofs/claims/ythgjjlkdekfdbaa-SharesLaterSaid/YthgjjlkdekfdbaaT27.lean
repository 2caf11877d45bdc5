import Derived.Test.YthgjjlkdekfdbaaT26
import Derived.Test.YthgjjlkdekfdbaaT10
/-! The reference's Enough and Repaid. -/
namespace Go.Proofs.Ythgjjlkdekfdbaa
set_option linter.unusedSimpArgs false
set_option linter.unusedVariables false
open Go Go.RowKit


set_option maxRecDepth 100000 in
set_option maxHeartbeats 2000000 in
theorem refRepaid_bad (ac : Option Addr) (cc : Nat) (cs : List Cl) (L : Int) (t : Int) (w : World) (hX : Clz w ac cs) (r : Int) (hr : r = askE cs L (cenB t)) (h0 : r ≠ 0) : Calls Try.prog 35 #[.agg #[.slice ac cs.length cc, .int .i64 L], .int .i64 t] w fun e w' => e = .returned (.tuple #[.int .i64 0, .int .i64 r]) ∧ Below w.heap.size w w' := by
  obtain ⟨W, hW, hb, hs, x0⟩ := boxes1 w #[.slice ac cs.length cc, .int .i64 L] 24
  have hX1 := hX.below hb (Nat.le_refl _)
  have h1 := fun (q : Ext W) => (IsCents_any t q.w).mono (fun e w' h => And.intro h.1 (Below.of_eq (B := q.w.heap.size) h.2))
  have h2 := fun (q : Ext W) => ask_any ac cc cs L (cenB t) q.w (hX1.below q.below (Nat.le_refl _))
  rw [← hr] at h2
  generalize cenB t = o at *
  have c0 := x0.ext 0 rfl; have c1 := x0.ext 1 rfl
  clear hr hX hX1 x0 hs
  go_enter Try.func35, Try.ntmps35
  go_upto_region 1 with fail
  clear hW
  refine wp_region_ext_lit (by kernel_rfl) (by kernel_rfl) ?_
  repeat (quiet_step (first | (go_at_call 39; exact quiet_ext (h1 _)) | (go_at_call 53; exact quiet_ext (h2 _))))
  refine wpQuiet_nil ?_
  intro _ hw'
  obtain ⟨tt, rfl⟩ := hw'
  have hbt := tt.below
  clear c0 c1 h1 h2
  go_wp2
  go_ret2
  exact ⟨rfl, hb.trans (hbt.mono hb.size)⟩

set_option maxRecDepth 100000 in
set_option maxHeartbeats 2000000 in
theorem refEnough_bad (ac : Option Addr) (cc : Nat) (cs : List Cl) (L : Int) (t : Int) (w : World) (hX : Clz w ac cs) (r : Int) (hr : r = askE cs L (cenB t)) (h0 : r ≠ 0) : Calls Try.prog 37 #[.agg #[.slice ac cs.length cc, .int .i64 L], .int .i64 t] w fun e w' => e = .returned (.tuple #[.int .i64 0, .int .i64 r]) ∧ Below w.heap.size w w' := by
  obtain ⟨W, hW, hb, hs, x0⟩ := boxes1 w #[.slice ac cs.length cc, .int .i64 L] 24
  have hX1 := hX.below hb (Nat.le_refl _)
  have h1 := fun (q : Ext W) => (IsCents_any t q.w).mono (fun e w' h => And.intro h.1 (Below.of_eq (B := q.w.heap.size) h.2))
  have h2 := fun (q : Ext W) => ask_any ac cc cs L (cenB t) q.w (hX1.below q.below (Nat.le_refl _))
  rw [← hr] at h2
  generalize cenB t = o at *
  have c0 := x0.ext 0 rfl; have c1 := x0.ext 1 rfl
  clear hr hX hX1 x0 hs
  go_enter Try.func37, Try.ntmps37
  go_upto_region 1 with fail
  clear hW
  refine wp_region_ext_lit (by kernel_rfl) (by kernel_rfl) ?_
  repeat (quiet_step (first | (go_at_call 39; exact quiet_ext (h1 _)) | (go_at_call 53; exact quiet_ext (h2 _))))
  refine wpQuiet_nil ?_
  intro _ hw'
  obtain ⟨tt, rfl⟩ := hw'
  have hbt := tt.below
  clear c0 c1 h1 h2
  go_wp2
  go_ret2
  exact ⟨rfl, hb.trans (hbt.mono hb.size)⟩


set_option maxRecDepth 100000 in
set_option maxHeartbeats 4000000 in
theorem refEnough_ok (ac : Option Addr) (cc : Nat) (cs : List Cl) (L : Int) (g : Int) (w : World) (hX : Clz w ac cs) (h : shB cs L = true) (hg : cenB g = true) (R : Int × Int) (hR : R = enR L cs g) : Calls Try.prog 37 #[.agg #[.slice ac cs.length cc, .int .i64 L], .int .i64 g] w fun e w' => e = .returned (.tuple #[.int .i64 R.1, .int .i64 R.2]) ∧ Below w.heap.size w w' := by
  obtain ⟨W, hW, hb, hs, x0⟩ := boxes1 w #[.slice ac cs.length cc, .int .i64 L] 24
  have hX1 := hX.below hb (Nat.le_refl _)
  have h1 := fun (q : Ext W) => (IsCents_any g q.w).mono (fun e w' h => And.intro h.1 (Below.of_eq (B := q.w.heap.size) h.2))
  have h2 := fun (q : Ext W) => ask_any ac cc cs L (cenB g) q.w (hX1.below q.below (Nat.le_refl _))
  have ha : askE cs L (cenB g) = 0 := by unfold askE; rw [h, hg]; rfl
  rw [ha] at h2
  have hok : ∀ k : Nat, k < 10000 → Ok cs L (k : Int) := fun k hk => Ok.of h (by rw [cenB_iff]; omega)
  have hn5 : cs.length ≤ 40 := by have := (shB_ok h).1; omega
  generalize cenB g = o at *
  have hsome := fun k hk hp hlt => first_some (p := enP L cs g) (n := 10000) (k := k) hk hp hlt
  have hnone := fun hh => first_none (p := enP L cs g) (n := 10000) hh
  have hR' : R = firstR (firstA (enP L cs g) 10000) := hR
  rw [← hR'] at hsome hnone
  have hset1 : ∀ (k : Nat) (V : World), k < 10000 → Clz V ac cs → ∃ u : Wk, enP L cs g k = decide (g ≤ u.ow) ∧ Calls Try.prog 54 #[.agg #[.slice ac cs.length cc, .int .i64 L], .int .i64 (k : Int), .int .i64 0] V fun e w' => ∃ (a : Option Addr) (c : Nat), e = .returned (.tuple #[.slice a cs.length c, .agg #[.int .i64 u.op, .int .i64 u.ow, .int .i64 u.rp]]) ∧ Below V.heap.size V w' := fun k V hk hh => ⟨_, rfl, (Gone0_any ac cc cs L k (hok k hk) hn5 V hh _ rfl).mono fun e w' ⟨a, c, h1, _, h3⟩ => ⟨a, c, h1, h3⟩⟩
  generalize enP L cs g = p at *
  have c0 := x0.ext 0 rfl; have c1 := x0.ext 1 rfl
  have hX0 := hX
  clear hR hR' hX h hg hs ha hok hn5
  go_enter Try.func37, Try.ntmps37
  go_upto_region 1 with fail
  clear hW
  refine wp_region_ext_lit (by kernel_rfl) (by kernel_rfl) ?_
  repeat (quiet_step (first | (go_at_call 39; exact quiet_ext (h1 _)) | (go_at_call 53; exact quiet_ext (h2 _))))
  refine wpQuiet_nil ?_
  intro _ hw'
  obtain ⟨tt, rfl⟩ := hw'
  have hbt := tt.below
  clear c0 c1 h1 h2
  replace x0 := x0.below hbt
  replace hb := hb.trans (hbt.mono hb.size)
  clear hbt hX1
  generalize tt.w = V2 at *
  go_wp2
  go_loopw [7, 8, 9] (fun v7 v8 v9 wr => ∃ k : Nat, k ≤ 10000 ∧ v7 = .int .i64 (k : Int) ∧ Hid (∀ j, j < k → p j = false) ∧ Bx wr w.heap.size #[.slice ac cs.length cc, .int .i64 L] 24 ∧ Below w.heap.size w wr) (fun v7 _ _ _ => 10000 - (intOf v7).toNat)
  case atStart => exact ⟨0, Nat.zero_le _, rfl, hid (fun j hj => by omega), x0, hb⟩
  case round =>
    clear x0 hb
    obtain ⟨k, hk, rfl, HP, x0, hb⟩ := hrel
    by_cases hlt : k < 10000
    · have hkI : (k : Int) ≤ 9999 := by omega
      obtain ⟨u, hu, hst⟩ := hset1 k wr hlt (hX0.below hb (Nat.le_refl _))
      have c0 := x0.cell 0 rfl; have c1 := x0.cell 1 rfl
      by_cases hz : g ≤ u.ow
      · have hpt : p k = true := by rw [hu]; simpa using hz
        have HR := hid (hsome k hlt hpt HP.out)
        clear hpt hu hsome hnone HP hset1
        go_wp2_with fail
        refine hst.mono ?_
        rintro e V1 ⟨a9, c9, rfl, hb1⟩
        replace hb := hb.trans (hb1.mono hb.size)
        clear c0 c1 x0 hb1 hst
        have hba := below_one (w := V1) (.cells #[.int .i64 u.op, .int .i64 u.ow, .int .i64 u.rp] 33)
        have HXa := hid (And.intro (hb.trans (hba.mono hb.size)) (Bx.new V1 #[.int .i64 u.op, .int .i64 u.ow, .int .i64 u.rp] 33))
        clear hba hb
        go_upto_region 8 with fail
        obtain ⟨hb, x2⟩ := HXa.out
        clear HXa
        generalize V1.heap.size = s3 at *
        generalize World.alloc _ _ = V4 at *
        have d0 := x2.cell 0 rfl; have d1 := x2.cell 1 rfl; have d2 := x2.cell 2 rfl
        go_wp2
        go_ret2
        exact ⟨by rw [HR.out]; rfl, hb⟩
      · have hpf : p k = false := by rw [hu]; simpa using hz
        have HP2 := hid (show ∀ j, j < k + 1 → p j = false from fun j hj => by
          rcases Nat.lt_succ_iff_lt_or_eq.1 hj with h | h
          · exact HP.out j h
          · rw [h]; exact hpf)
        have hzI : u.ow < g := by omega
        clear hpf hu hsome hnone HP hset1
        go_wp2_with fail
        refine hst.mono ?_
        rintro e V1 ⟨a9, c9, rfl, hb1⟩
        replace hb := hb.trans (hb1.mono hb.size)
        replace x0 := x0.below hb1
        clear c0 c1 hb1 hst
        have hba := below_one (w := V1) (.cells #[.int .i64 u.op, .int .i64 u.ow, .int .i64 u.rp] 33)
        have HXa := hid (And.intro (hb.trans (hba.mono hb.size)) (And.intro (x0.below hba) (Bx.new V1 #[.int .i64 u.op, .int .i64 u.ow, .int .i64 u.rp] 33)))
        clear hba hb x0
        go_upto_region 8 with fail
        obtain ⟨hb, x0, x2⟩ := HXa.out
        clear HXa
        generalize V1.heap.size = s3 at *
        generalize World.alloc _ _ = V4 at *
        have d0 := x2.cell 0 rfl; have d1 := x2.cell 1 rfl; have d2 := x2.cell 2 rfl
        go_wp2
        go_roundw
        case rel => exact ⟨k + 1, by omega, by simp, HP2, x0, hb⟩
        case measure => simp [intOf]; omega
    · have hk1 : k = 10000 := by omega
      have HR := hid (hnone (by rw [← hk1]; exact HP.out))
      have hkI : ¬ (k : Int) ≤ 9999 := by omega
      clear hsome hnone HP hset1 hk1
      go_wp2
      go_ret2
      exact ⟨by rw [HR.out]; rfl, hb⟩

set_option maxRecDepth 100000 in
set_option maxHeartbeats 4000000 in
theorem refRepaid_ok (ac : Option Addr) (cc : Nat) (cs : List Cl) (L : Int) (t : Int) (w : World) (hX : Clz w ac cs) (h : shB cs L = true) (ht : cenB t = true) (R : Int × Int) (hR : R = repR L cs t) : Calls Try.prog 35 #[.agg #[.slice ac cs.length cc, .int .i64 L], .int .i64 t] w fun e w' => e = .returned (.tuple #[.int .i64 R.1, .int .i64 R.2]) ∧ Below w.heap.size w w' := by
  obtain ⟨W, hW, hb, hs, x0⟩ := boxes1 w #[.slice ac cs.length cc, .int .i64 L] 24
  have hX1 := hX.below hb (Nat.le_refl _)
  have h1 := fun (q : Ext W) => (IsCents_any t q.w).mono (fun e w' h => And.intro h.1 (Below.of_eq (B := q.w.heap.size) h.2))
  have h2 := fun (q : Ext W) => ask_any ac cc cs L (cenB t) q.w (hX1.below q.below (Nat.le_refl _))
  have h3 := fun (V : World) hh => Copy_any ac cc cs L V hh
  have ha : askE cs L (cenB t) = 0 := by unfold askE; rw [h, ht]; rfl
  have ho := Ok.of h ht
  have hn5 : cs.length ≤ 40 := by have := (shB_ok h).1; omega
  rw [ha] at h2
  generalize cenB t = o at *
  have hsome := fun k hk hp hlt => first_some (p := repP L cs t) (n := 1001) (k := k) hk hp hlt
  have hnone := fun hh => first_none (p := repP L cs t) (n := 1001) hh
  have hR' : R = firstR (firstA (repP L cs t) 1001) := hR
  rw [← hR'] at hsome hnone
  have hL0 : loanK L cs t 0 = L := rfl
  have hp0 : ∀ k, repP L cs t k = (loanK L cs t k == 0) := fun _ => rfl
  have hset1 : ∀ (a5 : Option Addr) (c5 k : Nat) (V : World), Clz V a5 cs → ∃ u : Wk, u.owed = loanK L cs t (k + 1) ∧ IntKind.i64.wrap (loanK L cs t k - u.rp) = u.owed ∧ Calls Try.prog 54 #[.agg #[.slice a5 cs.length c5, .int .i64 (loanK L cs t k)], .int .i64 t, .int .i64 0] V fun e w' => ∃ (a : Option Addr) (c : Nat), e = .returned (.tuple #[.slice a cs.length c, .agg #[.int .i64 u.op, .int .i64 u.ow, .int .i64 u.rp]]) ∧ Below V.heap.size V w' := fun a5 c5 k V hh => by
    have hk := loanK_ok ho k
    have hf := hk.fin
    have e1 := hf.loan; have e2 := hf.owed; have e3 := hk.L
    refine ⟨_, rfl, ?_, (Gone0_any a5 c5 cs (loanK L cs t k) t hk hn5 V hh _ rfl).mono fun e w' ⟨a, c, h1, _, h3⟩ => ⟨a, c, h1, h3⟩⟩
    rw [IntWalk.i64_in _ (by have := hf.rp; omega)]
    omega
  generalize repP L cs t = p at *
  generalize loanK L cs t = lo at *
  have c0 := x0.ext 0 rfl; have c1 := x0.ext 1 rfl
  clear hR hR' hX h ht hs ha ho
  obtain ⟨n, hn⟩ : ∃ n, n = cs.length := ⟨_, rfl⟩
  rw [← hn] at x0 h2 h3 hset1 hW hn5 c0 ⊢
  clear hn
  go_enter Try.func35, Try.ntmps35
  go_upto_region 1 with fail
  clear hW
  refine wp_region_ext_lit (by kernel_rfl) (by kernel_rfl) ?_
  repeat (quiet_step (first | (go_at_call 39; exact quiet_ext (h1 _)) | (go_at_call 53; exact quiet_ext (h2 _))))
  refine wpQuiet_nil ?_
  intro _ hw'
  obtain ⟨tt, rfl⟩ := hw'
  have hbt := tt.below
  clear c0 c1 h1 h2
  replace x0 := x0.below hbt
  replace hX1 := hX1.below hbt (Nat.le_refl _)
  replace hb := hb.trans (hbt.mono hb.size)
  clear hbt
  generalize tt.w = V2 at *
  have c0 := x0.cell 0 rfl; have c1 := x0.cell 1 rfl
  go_wp2_with fail
  refine (h3 _ hX1).mono ?_
  rintro e V3 ⟨a5, c5, rfl, hC, _, hb1⟩
  replace hb := hb.trans (hb1.mono hb.size)
  clear c0 c1 x0 hb1 h3 hX1
  rw [← hL0]
  clear hL0
  have hba := below_one (w := V3) (.cells #[.slice a5 n c5, .int .i64 (lo 0)] 24)
  have hC0 : ∀ V, Below V3.heap.size V3 V → Clz V a5 cs := fun V hv => hC.below hv (Nat.le_refl _)
  have HXa := hid (And.intro (hb.trans (hba.mono hb.size)) (And.intro hba (And.intro (Bx.new V3 #[.slice a5 n c5, .int .i64 (lo 0)] 24) (And.intro hb.size hC0))))
  clear hba hb hC hC0
  go_upto_region 6 with fail
  obtain ⟨hb, hb3, x0, hs3, hC0⟩ := HXa.out
  clear HXa
  generalize V3.heap.size = s3 at *
  generalize World.alloc _ _ = V4 at *
  go_loopw [8, 9, 10] (fun v8 v9 v10 wr => ∃ k : Nat, k ≤ 1001 ∧ v8 = .int .i64 (k : Int) ∧ Hid (∀ j, j < k → p j = false) ∧ Bx wr s3 #[.slice a5 n c5, .int .i64 (lo k)] 24 ∧ Below s3 V3 wr ∧ Below w.heap.size w wr) (fun v8 _ _ _ => 1001 - (intOf v8).toNat)
  case atStart => exact ⟨0, Nat.zero_le _, rfl, hid (fun j hj => by omega), x0, hb3, hb⟩
  case round =>
    clear x0 hb hb3
    obtain ⟨k, hk, rfl, HP, x0, hb3, hb⟩ := hrel
    by_cases hlt : k < 1001
    · have hkI : (k : Int) ≤ 1000 := by omega
      have hpk := hp0 k
      have c0 := x0.cell 0 rfl; have c1 := x0.cell 1 rfl
      by_cases hz : lo k = 0
      · have hpt : p k = true := by rw [hpk, hz]; rfl
        have HR := hid (hsome k hlt hpt HP.out)
        rw [hz] at c1 x0
        clear hpt hpk hsome hnone HP hset1
        go_wp2
        go_ret2
        exact ⟨by rw [HR.out]; rfl, hb⟩
      · have hpf : p k = false := by rw [hpk]; simpa using hz
        have HP2 := hid (show ∀ j, j < k + 1 → p j = false from fun j hj => by
          rcases Nat.lt_succ_iff_lt_or_eq.1 hj with h | h
          · exact HP.out j h
          · rw [h]; exact hpf)
        have hzI : (lo k == 0) = false := by simpa using hz
        obtain ⟨u, hu, hw1, hst⟩ := hset1 a5 c5 k wr (hC0 wr hb3)
        have HU := hid hu
        clear hpf hpk hsome hnone HP hset1 hp0 hu
        obtain ⟨m, hm⟩ : ∃ m, m = lo k := ⟨_, rfl⟩
        rw [← hm] at c1 x0 hzI hz hst hw1
        clear hm
        go_wp2_with fail
        refine hst.mono ?_
        rintro e V1 ⟨a9, c9, rfl, hb1⟩
        have y0 := x0.below hb1
        have y3 := hb.trans (hb1.mono hb.size)
        have y4 := hb3.trans (hb1.mono (by have := x0.lt; omega))
        clear c0 c1 x0 hb hb1 hst hb3
        have hba := below_one (w := V1) (.cells #[.int .i64 u.op, .int .i64 u.ow, .int .i64 u.rp] 33)
        have HXa := hid (And.intro (y3.trans (hba.mono y3.size)) (And.intro (y0.below hba) (And.intro (y4.trans (hba.mono (by have := y0.lt; omega))) (Bx.new V1 #[.int .i64 u.op, .int .i64 u.ow, .int .i64 u.rp] 33))))
        clear hba y0 y3 y4
        go_upto_region 11 with fail
        obtain ⟨y3, y0, y4, x2⟩ := HXa.out
        clear HXa
        generalize V1.heap.size = s6 at *
        generalize World.alloc _ _ = V6 at *
        have d0 := x2.cell 0 rfl; have d1 := x2.cell 1 rfl; have d2 := x2.cell 2 rfl
        have c0 := y0.cell 0 rfl; have c1 := y0.cell 1 rfl
        have f0 := y0.free 0; have f1 := y0.free 1
        have z0 := y0.put2_1 (.int .i64 u.owed)
        have z3 := y3.setCell (p := ⟨s3, 1, none⟩) hs3 (.int .i64 u.owed)
        have z4 := y4.setCell (p := ⟨s3, 1, none⟩) (Nat.le_refl _) (.int .i64 u.owed)
        have HZ := hid (And.intro z0 (And.intro z4 z3))
        clear z0 z3 z4 y0 y3 y4 x2
        go_wp2
        obtain ⟨z0, z4, z3⟩ := HZ.out
        go_roundw
        case rel => exact ⟨k + 1, by omega, by simp, HP2, by rw [← HU.out]; exact z0, z4, z3⟩
        case measure => simp [intOf]; omega
    · have hk1 : k = 1001 := by omega
      have HR := hid (hnone (by rw [← hk1]; exact HP.out))
      have hkI : ¬ (k : Int) ≤ 1000 := by omega
      clear hsome hnone HP hset1 hp0 hk1
      go_wp2
      go_ret2
      exact ⟨by rw [HR.out]; rfl, hb⟩
end Go.Proofs.Ythgjjlkdekfdbaa
