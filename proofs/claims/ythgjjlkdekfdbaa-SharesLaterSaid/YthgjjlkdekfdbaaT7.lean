import Derived.Test.YthgjjlkdekfdbaaT6
/-! A week is begun, gone on and ended. -/
namespace Go.Proofs.Ythgjjlkdekfdbaa
set_option linter.unusedSimpArgs false
set_option linter.unusedVariables false
open Go Go.RowKit

theorem rules_ex (x : Cl) (hx : x.ok) : ∃ n : Nat, ∀ W : World, (Instr.index 89 (.agg #[.nilFunc, .int .i64 0, .func (.func 74) #[] #[], .int .i64 0, .func (.func 75) #[] #[], .int .i64 1, .func (.func 76) #[] #[], .int .i64 2, .func (.func 77) #[] #[], .int .i64 2, .func (.func 78) #[] #[], .int .i64 2]) (.int .i64 x.k)).run Try.prog W = .ok (.agg #[.func (.func n) #[] #[], .int .i64 (partyOf x.k)]) W := by
  have h := hx.1
  generalize x.k = k at *
  obtain rfl | rfl | rfl | rfl | rfl : k = 1 ∨ k = 2 ∨ k = 3 ∨ k = 4 ∨ k = 5 := by omega
  · exact ⟨_, fun W => rules_at1 W⟩
  · exact ⟨_, fun W => rules_at2 W⟩
  · exact ⟨_, fun W => rules_at3 W⟩
  · exact ⟨_, fun W => rules_at4 W⟩
  · exact ⟨_, fun W => rules_at5 W⟩
theorem party_or (k : Int) : partyOf k = 0 ∨ partyOf k = 1 ∨ partyOf k = 2 := by
  unfold partyOf
  split
  · exact .inl rfl
  split
  · exact .inr (.inl rfl)
  · exact .inr (.inr rfl)

set_option maxRecDepth 100000 in
set_option maxHeartbeats 2000000 in
theorem begin_any (ac : Option Addr) (cc n : Nat) (L t : Int) (w : World) : Calls Try.prog 55 #[.agg #[.slice ac n cc, .int .i64 L], .int .i64 t] w fun e w' => e = .returned (.agg #[.int .i64 0, .int .i64 0, .int .i64 0, .int .i64 t, .int .i64 L]) ∧ Below w.heap.size w w' := by
  obtain ⟨W, hW, hb, _, x0, x1⟩ := boxes2 w #[.slice ac n cc, .int .i64 L] 24 #[.int .i64 0, .int .i64 0, .int .i64 0, .int .i64 0, .int .i64 0] 70
  have c0 := x0.cell 0 rfl; have c1 := x0.cell 1 rfl
  have d0 := x1.cell 0 rfl; have d1 := x1.cell 1 rfl; have d2 := x1.cell 2 rfl; have d3 := x1.cell 3 rfl; have d4 := x1.cell 4 rfl
  have f0 := x1.free 0; have f1 := x1.free 1; have f2 := x1.free 2; have f3 := x1.free 3; have f4 := x1.free 4
  have y1 := x1.set5 (.int .i64 0) (.int .i64 0) (.int .i64 0) (.int .i64 t) (.int .i64 L)
  have hb' := below_put5 hb (b := w.heap.size + 1) (by omega) (.int .i64 0) (.int .i64 0) (.int .i64 0) (.int .i64 t) (.int .i64 L)
  have HX := hid (And.intro y1 hb')
  clear y1 hb' x0 x1 hb
  go_enter Try.func55, Try.ntmps55
  go_wp2_with fail
  obtain ⟨y1, hb⟩ := HX.out
  clear HX
  generalize World.setCell _ _ _ = VV at *
  have k0 := y1.cell 0 rfl; have k1 := y1.cell 1 rfl; have k2 := y1.cell 2 rfl; have k3 := y1.cell 3 rfl; have k4 := y1.cell 4 rfl
  refine bodyPost_ret (v := .agg #[.int .i64 0, .int .i64 0, .int .i64 0, .int .i64 t, .int .i64 L]) ?_ rfl ⟨rfl, hb⟩
  simp [results, Try.results55, go_sem, k0, k1, k2, k3, k4]

set_option maxRecDepth 100000 in
set_option maxHeartbeats 2000000 in
theorem end_any (u : Wk) (hu : Wb u) (w : World) (r : Wk) (hr : r = endW u) : Calls Try.prog 58 #[.agg #[.int .i64 u.op, .int .i64 u.ow, .int .i64 u.rp, .int .i64 u.rest, .int .i64 u.owed]] w fun e w' => e = .returned (.agg #[.int .i64 r.op, .int .i64 r.ow, .int .i64 r.rp, .int .i64 r.rest, .int .i64 r.owed]) ∧ Below w.heap.size w w' := by
  obtain ⟨W, hW, hb, hs, x0, x1⟩ := boxes2 w #[.int .i64 u.op, .int .i64 u.ow, .int .i64 u.rp, .int .i64 u.rest, .int .i64 u.owed] 70 #[.int .i64 0, .int .i64 0, .int .i64 0, .int .i64 0, .int .i64 0] 70
  have hp := pay_any u u.rest 0 (.inl rfl) hu hu.rest W r (by rw [hr]; simp [endW, payW])
  have c0 := x0.cell 0 rfl; have c1 := x0.cell 1 rfl; have c2 := x0.cell 2 rfl; have c3 := x0.cell 3 rfl; have c4 := x0.cell 4 rfl
  clear hr hu
  go_enter Try.func58, Try.ntmps58
  go_wp2_with fail
  refine hp.mono ?_
  rintro e W1 ⟨rfl, hb1⟩
  replace x1 := x1.below hb1
  replace hb := hb.trans (hb1.mono (by omega))
  clear c0 c1 c2 c3 c4 x0 hp hW
  have d0 := x1.cell 0 rfl; have d1 := x1.cell 1 rfl; have d2 := x1.cell 2 rfl; have d3 := x1.cell 3 rfl; have d4 := x1.cell 4 rfl
  have f0 := x1.free 0; have f1 := x1.free 1; have f2 := x1.free 2; have f3 := x1.free 3; have f4 := x1.free 4
  have y1 := x1.set5 (.int .i64 r.op) (.int .i64 r.ow) (.int .i64 r.rp) (.int .i64 r.rest) (.int .i64 r.owed)
  have hb' := below_put5 hb (b := w.heap.size + 1) (by omega) (.int .i64 r.op) (.int .i64 r.ow) (.int .i64 r.rp) (.int .i64 r.rest) (.int .i64 r.owed)
  have HX := hid (And.intro y1 hb')
  clear y1 hb' x1 hb hb1
  go_wp2_with fail
  obtain ⟨y1, hb⟩ := HX.out
  clear HX
  generalize World.setCell _ _ _ = VV at *
  have k0 := y1.cell 0 rfl; have k1 := y1.cell 1 rfl; have k2 := y1.cell 2 rfl; have k3 := y1.cell 3 rfl; have k4 := y1.cell 4 rfl
  refine bodyPost_ret (v := .agg #[.int .i64 r.op, .int .i64 r.ow, .int .i64 r.rp, .int .i64 r.rest, .int .i64 r.owed]) ?_ rfl ⟨rfl, hb⟩
  simp [results, Try.results58, go_sem, k0, k1, k2, k3, k4]

set_option maxRecDepth 100000 in
set_option maxHeartbeats 4000000 in
theorem behind_any (T L : Int) (hT : T ≤ 1000000) (hL : L ≤ 1000000) (u : Wk) (hu : Inv T L u) (ac : Option Addr) (cc : Nat) (cs : List Cl) (hok : ∀ x ∈ cs, x.ok) (w : World) (hX : Clz w ac cs) (r : Wk) (hr : r = behindW u cs) : Calls Try.prog 57 #[.agg #[.int .i64 u.op, .int .i64 u.ow, .int .i64 u.rp, .int .i64 u.rest, .int .i64 u.owed], .slice ac cs.length cc] w fun e w' => e = .returned (.agg #[.int .i64 r.op, .int .i64 r.ow, .int .i64 r.rp, .int .i64 r.rest, .int .i64 r.owed]) ∧ Below w.heap.size w w' := by
  obtain ⟨W, hW, hb, hs, x0, x1⟩ := boxes2 w #[.int .i64 u.op, .int .i64 u.ow, .int .i64 u.rp, .int .i64 u.rest, .int .i64 u.owed] 70 #[.int .i64 0, .int .i64 0, .int .i64 0, .int .i64 0, .int .i64 0] 70
  have hlen := hX.len
  have HR := hid hr
  clear hr
  obtain ⟨n, hn⟩ : ∃ n, n = cs.length := ⟨_, rfl⟩
  rw [← hn] at hlen ⊢
  have HLN := hid hn
  clear hn hs
  go_enter Try.func57, Try.ntmps57
  go_wp2
  clear hW
  go_loopw [6, 9] (fun v6 v9 wr => ∃ (k : Nat) (v : Wk), k ≤ n ∧ v9 = .int .i64 (k : Int) ∧ Hid (v = behindW u (cs.take k)) ∧ Bx wr w.heap.size #[.int .i64 v.op, .int .i64 v.ow, .int .i64 v.rp, .int .i64 v.rest, .int .i64 v.owed] 70 ∧ Bx wr (w.heap.size + 1) #[.int .i64 0, .int .i64 0, .int .i64 0, .int .i64 0, .int .i64 0] 70 ∧ Below w.heap.size w wr) (fun _ v9 _ => n - (intOf v9).toNat)
  case atStart => exact ⟨0, u, Nat.zero_le _, rfl, hid rfl, x0, x1, hb⟩
  case round =>
    clear x0 x1 hb
    obtain ⟨k, v, hk, rfl, HV, x0, x1, hb⟩ := hrel
    by_cases hlt : k < n
    · obtain ⟨b, off, x, rfl, hbl, ⟨q0, q1, q2, q3⟩, _, hmem, _, _, htk⟩ := (hX.below hb (Nat.le_refl _)).at (k := k) (by rw [← HLN.out]; exact hlt)
      have hkI : (k : Int) < n := by omega
      have hk0 : (0 : Int) ≤ (k : Int) := by omega
      have hxo := hok x hmem
      have hvi : Inv T L v := by rw [HV.out]; exact hu.behind (fun y hy => hok y (List.mem_of_mem_take hy))
      have hvb := hvi.wb hT hL
      obtain ⟨g1, g2, g3⟩ := gives_rng hxo hvi
      obtain ⟨s, hs⟩ : ∃ s, s = stepW v x := ⟨_, rfl⟩
      have HS := hid (show s = behindW u (cs.take (k + 1)) by rw [htk.out, behind_snoc, ← HV.out, hs])
      have hgi := fun (V : World) => gives_any v x hvb hxo V
      have hru := fun (V : World) => rules_any V
      have hpa := fun (V : World) => pay_any v (givesW v x) (partyOf x.k) (party_or _) hvb ⟨g1, by have := hvb.rest; omega⟩ V s hs
      obtain ⟨nf, hix⟩ := rules_ex x hxo
      have hf1 := fun V => (rule_f nf (partyOf x.k) V).2
      unfold rulesA at hru
      obtain ⟨g, hg⟩ : ∃ g, g = givesW v x := ⟨_, rfl⟩
      obtain ⟨t, ht⟩ : ∃ t, t = partyOf x.k := ⟨_, rfl⟩
      rw [← hg] at hgi hpa
      rw [← ht] at hix hf1 hpa
      clear hs hg ht hvb hvi g1 g2 g3 hxo hmem htk
      have y0 := x0.alloc (.cells #[.int .i64 x.k, .int .i64 x.c, .int .i64 x.p, .int .i64 x.m] 56)
      have y1 := x1.alloc (.cells #[.int .i64 x.k, .int .i64 x.c, .int .i64 x.p, .int .i64 x.m] 56)
      have y2 := Bx.new wr #[.int .i64 x.k, .int .i64 x.c, .int .i64 x.p, .int .i64 x.m] 56
      have hb2 := hb.trans ((below_one (w := wr) (.cells #[.int .i64 x.k, .int .i64 x.c, .int .i64 x.p, .int .i64 x.m] 56)).mono hb.size)
      have hsz := hb.size
      have hszr := Bx.lt x1
      have HY := hid (And.intro y0 (And.intro y1 (And.intro y2 hb2)))
      clear y0 y1 y2 hb2
      go_upto_region 4 with fail
      obtain ⟨y0, y1, y2, hb2⟩ := HY.out
      clear q0 q1 q2 q3 HY x0 x1 hb
      obtain ⟨gb, hgb⟩ : ∃ gb, gb = wr.heap.size := ⟨_, rfl⟩
      rw [← hgb] at y2 hszr ⊢
      clear hgb hsz
      generalize World.alloc _ _ = V1 at *
      have c0 := y0.ext 0 rfl; have c1 := y0.ext 1 rfl; have c2 := y0.ext 2 rfl; have c3 := y0.ext 3 rfl; have c4 := y0.ext 4 rfl
      have d0 := y2.ext 0 rfl; have d1 := y2.ext 1 rfl; have d2 := y2.ext 2 rfl; have d3 := y2.ext 3 rfl
      refine wp_region_ext_tail 10 (by kernel_rfl) (by kernel_rfl) ?_
      repeat (quiet_step (first | (go_at_call 60; exact quiet_ext (hgi _)) | (go_at_call 70; exact quiet_ext (hru _)) | (go_at_call 56; exact quiet_ext (hpa _))))
      refine wpQuiet_nil ?_
      intro _ hw'
      obtain ⟨tt, rfl⟩ := hw'
      have hbt := tt.below
      clear c0 c1 c2 c3 c4 d0 d1 d2 d3 hgi hru hpa hix hf1
      replace y0 := y0.below hbt
      replace y1 := y1.below hbt
      replace hb2 := hb2.trans (hbt.mono hb2.size)
      clear hbt y2
      generalize tt.w = V2 at *
      have c0 := y0.cell 0 rfl; have c1 := y0.cell 1 rfl; have c2 := y0.cell 2 rfl; have c3 := y0.cell 3 rfl; have c4 := y0.cell 4 rfl
      have f0 := y0.free 0; have f1 := y0.free 1; have f2 := y0.free 2; have f3 := y0.free 3; have f4 := y0.free 4
      have z0 := y0.set5 (.int .i64 s.op) (.int .i64 s.ow) (.int .i64 s.rp) (.int .i64 s.rest) (.int .i64 s.owed)
      have z1 := y1.oth5 (b := w.heap.size) (by omega) (.int .i64 s.op) (.int .i64 s.ow) (.int .i64 s.rp) (.int .i64 s.rest) (.int .i64 s.owed)
      have hb3 := below_put5 hb2 (b := w.heap.size) (Nat.le_refl _) (.int .i64 s.op) (.int .i64 s.ow) (.int .i64 s.rp) (.int .i64 s.rest) (.int .i64 s.owed)
      have HZ := hid (And.intro z0 (And.intro z1 hb3))
      clear z0 z1 hb3 y0 y1 hb2
      go_wp2_with fail
      obtain ⟨z0, z1, hb3⟩ := HZ.out
      go_roundw
      case rel => exact ⟨k + 1, s, by omega, by simp, HS, z0, z1, hb3⟩
      case measure => simp [intOf]; omega
    · have hkn : k = n := by omega
      have hrv : v = r := by
        rw [HR.out, HV.out, hkn, HLN.out, List.take_length]
      subst hrv
      have hkI : ¬ (k : Int) < n := by omega
      have hsz := hb.size
      have c0 := x0.cell 0 rfl; have c1 := x0.cell 1 rfl; have c2 := x0.cell 2 rfl; have c3 := x0.cell 3 rfl; have c4 := x0.cell 4 rfl
      have d0 := x1.cell 0 rfl; have d1 := x1.cell 1 rfl; have d2 := x1.cell 2 rfl; have d3 := x1.cell 3 rfl; have d4 := x1.cell 4 rfl
      have f0 := x1.free 0; have f1 := x1.free 1; have f2 := x1.free 2; have f3 := x1.free 3; have f4 := x1.free 4
      have y1 := x1.set5 (.int .i64 v.op) (.int .i64 v.ow) (.int .i64 v.rp) (.int .i64 v.rest) (.int .i64 v.owed)
      have hb' := below_put5 hb (b := w.heap.size + 1) (by omega) (.int .i64 v.op) (.int .i64 v.ow) (.int .i64 v.rp) (.int .i64 v.rest) (.int .i64 v.owed)
      have HX := hid (And.intro y1 hb')
      clear y1 hb' x1 hb hkn
      go_wp2_with fail
      obtain ⟨y1, hb⟩ := HX.out
      clear HX
      generalize World.setCell _ _ _ = VV at *
      have k0 := y1.cell 0 rfl; have k1 := y1.cell 1 rfl; have k2 := y1.cell 2 rfl; have k3 := y1.cell 3 rfl; have k4 := y1.cell 4 rfl
      refine bodyPost_ret (v := .agg #[.int .i64 v.op, .int .i64 v.ow, .int .i64 v.rp, .int .i64 v.rest, .int .i64 v.owed]) ?_ rfl ⟨rfl, hb⟩
      simp [results, Try.results57, go_sem, k0, k1, k2, k3, k4]
end Go.Proofs.Ythgjjlkdekfdbaa
