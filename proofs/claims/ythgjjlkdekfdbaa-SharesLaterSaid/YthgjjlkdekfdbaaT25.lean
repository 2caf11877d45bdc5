import Derived.Test.YthgjjlkdekfdbaaT24
import Derived.Test.YthgjjlkdekfdbaaT20
/-! The reference's Week, Gift, Gives and Without. -/
namespace Go.Proofs.Ythgjjlkdekfdbaa
set_option linter.unusedSimpArgs false
set_option linter.unusedVariables false
open Go Go.RowKit

theorem pay_none {L t : Int} (ht : 0 ≤ t) : payOw (beginW L t) (min 0 t) = beginW L t := by
  rw [show min 0 t = 0 by omega]
  simp [payOw, beginW]
theorem Gone0_any (ac : Option Addr) (cc : Nat) (cs : List Cl) (L : Int) (t : Int) (ho : Ok cs L t) (hn5 : cs.length ≤ 40) (w : World) (hX : Clz w ac cs) (u : Wk) (hu : u = settledW L cs t) : Calls Try.prog 54 #[.agg #[.slice ac cs.length cc, .int .i64 L], .int .i64 t, .int .i64 0] w fun e w' => ∃ (a : Option Addr) (c : Nat), e = .returned (.tuple #[.slice a cs.length c, .agg #[.int .i64 u.op, .int .i64 u.ow, .int .i64 u.rp]]) ∧ Ints w' a (goneL (beginW L t) cs) ∧ Below w.heap.size w w' := by
  have := Gone_any ac cc cs L t 0 ho (by omega) hn5 w hX _ rfl u (by rw [pay_none ho.t.1]; exact hu)
  rw [pay_none ho.t.1] at this
  exact this

set_option maxRecDepth 100000 in
set_option maxHeartbeats 2000000 in
theorem refWeek_bad (ac : Option Addr) (cc : Nat) (cs : List Cl) (L : Int) (t : Int) (w : World) (hX : Clz w ac cs) (r : Int) (hr : r = askE cs L (cenB t)) (h0 : r ≠ 0) : Calls Try.prog 20 #[.agg #[.slice ac cs.length cc, .int .i64 L], .int .i64 t] w fun e w' => e = .returned (.tuple #[.agg #[.int .i64 0, .int .i64 0, .int .i64 0], .int .i64 r]) ∧ Below w.heap.size w w' := by
  obtain ⟨W, hW, hb, hs, x0, x1⟩ := boxes2 w #[.slice ac cs.length cc, .int .i64 L] 24 #[.int .i64 0, .int .i64 0, .int .i64 0] 33
  have hX1 := hX.below hb (Nat.le_refl _)
  have h1 := fun (q : Ext W) => (IsCents_any t q.w).mono (fun e w' h => And.intro h.1 (Below.of_eq (B := q.w.heap.size) h.2))
  have h2 := fun (q : Ext W) => ask_any ac cc cs L (cenB t) q.w (hX1.below q.below (Nat.le_refl _))
  rw [← hr] at h2
  generalize cenB t = o at *
  have c0 := x0.ext 0 rfl; have c1 := x0.ext 1 rfl
  clear hr hX hX1 x0 hs
  go_enter Try.func20, Try.ntmps20
  go_upto_region 1 with fail
  clear hW
  refine wp_region_ext_lit (by kernel_rfl) (by kernel_rfl) ?_
  repeat (quiet_step (first | (go_at_call 39; exact quiet_ext (h1 _)) | (go_at_call 53; exact quiet_ext (h2 _))))
  refine wpQuiet_nil ?_
  intro _ hw'
  obtain ⟨tt, rfl⟩ := hw'
  have hbt := tt.below
  clear c0 c1 h1 h2
  replace x1 := x1.below hbt
  replace hb := hb.trans (hbt.mono hb.size)
  clear hbt
  generalize tt.w = V2 at *
  have c0 := x1.cell 0 rfl; have c1 := x1.cell 1 rfl; have c2 := x1.cell 2 rfl
  have f0 := x1.free 0; have f1 := x1.free 1; have f2 := x1.free 2
  have z1 := x1.set3 (.int .i64 0) (.int .i64 0) (.int .i64 0)
  have hb3 := below_put3 hb (b := w.heap.size + 1) (by omega) (.int .i64 0) (.int .i64 0) (.int .i64 0)
  have HZ := hid (And.intro z1 hb3)
  clear z1 hb3 x1 hb
  go_wp2_with fail
  obtain ⟨z1, hb3⟩ := HZ.out
  clear HZ
  generalize World.setCell _ _ _ = VV at *
  have k0 := z1.cell 0 rfl; have k1 := z1.cell 1 rfl; have k2 := z1.cell 2 rfl
  refine bodyPost_ret (v := .tuple #[.agg #[.int .i64 0, .int .i64 0, .int .i64 0], .int .i64 r]) ?_ rfl ⟨rfl, hb3⟩
  simp [results, Try.results20, go_sem, k0, k1, k2]
set_option maxRecDepth 100000 in
set_option maxHeartbeats 2000000 in
theorem refWeek_ok (ac : Option Addr) (cc : Nat) (cs : List Cl) (L : Int) (t : Int) (w : World) (hX : Clz w ac cs) (h : shB cs L = true) (ht : cenB t = true) (u : Wk) (hu : u = settledW L cs t) : Calls Try.prog 20 #[.agg #[.slice ac cs.length cc, .int .i64 L], .int .i64 t] w fun e w' => e = .returned (.tuple #[.agg #[.int .i64 u.op, .int .i64 u.ow, .int .i64 u.rp], .int .i64 0]) ∧ Below w.heap.size w w' := by
  obtain ⟨W, hW, hb, hs, x0, x1⟩ := boxes2 w #[.slice ac cs.length cc, .int .i64 L] 24 #[.int .i64 0, .int .i64 0, .int .i64 0] 33
  have hX1 := hX.below hb (Nat.le_refl _)
  have h1 := fun (q : Ext W) => (IsCents_any t q.w).mono (fun e w' h => And.intro h.1 (Below.of_eq (B := q.w.heap.size) h.2))
  have h2 := fun (q : Ext W) => ask_any ac cc cs L (cenB t) q.w (hX1.below q.below (Nat.le_refl _))
  have h3 := fun (V : World) hh => Gone0_any ac cc cs L t (Ok.of h ht) (by have := (shB_ok h).1; omega) V hh u hu
  have ha : askE cs L (cenB t) = 0 := by unfold askE; rw [h, ht]; rfl
  rw [ha] at h2
  generalize cenB t = o at *
  have c0 := x0.ext 0 rfl; have c1 := x0.ext 1 rfl
  clear hu hX h ht hs ha
  go_enter Try.func20, Try.ntmps20
  go_upto_region 1 with fail
  clear hW
  refine wp_region_ext_lit (by kernel_rfl) (by kernel_rfl) ?_
  repeat (quiet_step (first | (go_at_call 39; exact quiet_ext (h1 _)) | (go_at_call 53; exact quiet_ext (h2 _))))
  refine wpQuiet_nil ?_
  intro _ hw'
  obtain ⟨tt, rfl⟩ := hw'
  have hbt := tt.below
  clear c0 c1 h1 h2
  replace x1 := x1.below hbt
  replace x0 := x0.below hbt
  replace hb := hb.trans (hbt.mono hb.size)
  have h4 := h3 _ (hX1.below hbt (Nat.le_refl _))
  clear hbt h3 hX1
  generalize tt.w = V2 at *
  have c0 := x0.cell 0 rfl; have c1 := x0.cell 1 rfl
  go_wp2_with fail
  refine h4.mono ?_
  rintro e V3 ⟨a9, c9, rfl, _, hb1⟩
  replace x1 := x1.below hb1
  replace hb := hb.trans (hb1.mono hb.size)
  clear hb1 h4 c0 c1 x0
  have hba := below_one (w := V3) (.cells #[.int .i64 u.op, .int .i64 u.ow, .int .i64 u.rp] 33)
  have HXa := hid (And.intro (x1.below hba) (And.intro (hb.trans (hba.mono hb.size)) (Bx.new V3 #[.int .i64 u.op, .int .i64 u.ow, .int .i64 u.rp] 33)))
  clear hba hb x1
  go_upto_region 5 with fail
  obtain ⟨x1, hb, x2⟩ := HXa.out
  clear HXa
  generalize V3.heap.size = s3 at *
  generalize World.alloc _ _ = V4 at *
  have c0 := x1.cell 0 rfl; have c1 := x1.cell 1 rfl; have c2 := x1.cell 2 rfl
  have f0 := x1.free 0; have f1 := x1.free 1; have f2 := x1.free 2
  have d0 := x2.cell 0 rfl; have d1 := x2.cell 1 rfl; have d2 := x2.cell 2 rfl
  have z1 := x1.set3 (.int .i64 u.op) (.int .i64 u.ow) (.int .i64 u.rp)
  have hb3 := below_put3 hb (b := w.heap.size + 1) (by omega) (.int .i64 u.op) (.int .i64 u.ow) (.int .i64 u.rp)
  have HZ := hid (And.intro z1 hb3)
  clear z1 hb3 x1 hb x2
  go_wp2_with fail
  obtain ⟨z1, hb3⟩ := HZ.out
  clear HZ
  generalize World.setCell _ _ _ = VV at *
  have k0 := z1.cell 0 rfl; have k1 := z1.cell 1 rfl; have k2 := z1.cell 2 rfl
  refine bodyPost_ret (v := .tuple #[.agg #[.int .i64 u.op, .int .i64 u.ow, .int .i64 u.rp], .int .i64 0]) ?_ rfl ⟨rfl, hb3⟩
  simp [results, Try.results20, go_sem, k0, k1, k2]
set_option maxRecDepth 100000 in
set_option maxHeartbeats 6000000 in
theorem refGift_bad (ac : Option Addr) (cc : Nat) (cs : List Cl) (L : Int) (t g : Int) (w : World) (hX : Clz w ac cs) (r : Int) (hr : r = askE cs L (cenB t && cenB g)) (h0 : r ≠ 0) : Calls Try.prog 22 #[.agg #[.slice ac cs.length cc, .int .i64 L], .int .i64 t, .int .i64 g] w fun e w' => e = .returned (.tuple #[.agg #[.int .i64 0, .int .i64 0, .int .i64 0], .int .i64 r]) ∧ Below w.heap.size w w' := by
  obtain ⟨W, hW, hb, hs, x0, x1⟩ := boxes2 w #[.slice ac cs.length cc, .int .i64 L] 24 #[.int .i64 0, .int .i64 0, .int .i64 0] 33
  have hX1 := hX.below hb (Nat.le_refl _)
  have h1 := fun (V : World) => (IsCents_any t V).mono (fun e w' h => And.intro h.1 (Below.of_eq (B := V.heap.size) h.2))
  have h2 := fun (V : World) => (IsCents_any g V).mono (fun e w' h => And.intro h.1 (Below.of_eq (B := V.heap.size) h.2))
  have h3 := fun (V : World) (hh : Below W.heap.size W V) => ask_any ac cc cs L (cenB t && cenB g) V (hX1.below hh (Nat.le_refl _))
  rw [← hr] at h3
  obtain ⟨a, ha⟩ : ∃ a, a = cenB t := ⟨_, rfl⟩
  obtain ⟨b, hbb⟩ : ∃ b, b = cenB g := ⟨_, rfl⟩
  rw [← ha] at h1 h3; rw [← hbb] at h2 h3
  have HA := hid ha; have HB := hid hbb; have HR := hid hr
  clear ha hbb hr
  clear hX
  go_enter Try.func22, Try.ntmps22
  go_upto_region 1 with fail
  clear hW
  go_cut [8] (fun s8 wx => s8 = .int .i64 r ∧ Bx wx w.heap.size #[.slice ac cs.length cc, .int .i64 L] 24 ∧ Bx wx (w.heap.size + 1) #[.int .i64 0, .int .i64 0, .int .i64 0] 33 ∧ Below W.heap.size W wx)
  case first =>
    cases a
    · simp only [Bool.false_and] at h3
      have hbw := (Below.refl W.heap.size W).drew
      have S0 := And.intro (x0.below hbw) (And.intro (x1.below hbw) hbw)
      clear x0 hbw x1
      refine wp_region_head 8 (fun w' => Bx w' w.heap.size #[.slice ac cs.length cc, .int .i64 L] 24 ∧ Bx w' (w.heap.size + 1) #[.int .i64 0, .int .i64 0, .int .i64 0] 33 ∧ Below W.heap.size W w') (by kernel_rfl) rfl ?_
      generalize W.drew = Y0 at *
      refine HeadAt.take (i := 0) (.agg #[.slice ac cs.length cc, .int .i64 L]) rfl (by kernel_rfl) (.inl ⟨rfl, fun w' z => ?_⟩) S0 ?_
      · (have z0 := z.1.cell 0 rfl; have z1 := z.1.cell 1 rfl; simp [go_sem, z0, z1])
      refine HeadAt.take (i := 1) (.int .i64 t) rfl (by kernel_rfl) (.inl ⟨rfl, fun _ _ => by simp [go_sem]⟩) S0 ?_
      (try simp only [Act.put, List.getElem_toArray, List.getElem_cons_succ, List.getElem_cons_zero, List.setIfInBounds_toArray, List.set_cons_succ, List.set_cons_zero])
      refine HeadAt.one (i := 2) rfl (by kernel_rfl) ?_
      generalize hK : Upto _ _ = K0
      (try simp only [Act.put, List.getElem_toArray, List.getElem_cons_succ, List.getElem_cons_zero, List.setIfInBounds_toArray, List.set_cons_succ, List.set_cons_zero])
      go_wp2_with fail
      refine (h1 _).mono ?_
      rintro e V1 ⟨rfl, hb1⟩
      replace S0 := And.intro (S0.1.below hb1) (And.intro (S0.2.1.below hb1) (S0.2.2.trans (hb1.mono S0.2.2.size)))
      go_wp2_with fail
      subst hK
      refine ⟨S0, ?_⟩
      (try simp only [Act.put, List.getElem_toArray, List.getElem_cons_succ, List.getElem_cons_zero, List.setIfInBounds_toArray, List.set_cons_succ, List.set_cons_zero])
      refine HeadAt.take (i := 3) (.bool false) rfl (by kernel_rfl) (.inl ⟨rfl, fun _ _ => by simp [go_sem]⟩) S0 ?_
      (try simp only [Act.put, List.getElem_toArray, List.getElem_cons_succ, List.getElem_cons_zero, List.setIfInBounds_toArray, List.set_cons_succ, List.set_cons_zero])
      refine HeadAt.take (i := 4) undef rfl (by kernel_rfl) (.inr ⟨by kernel_rfl, rfl⟩) S0 ?_
      (try simp only [Act.put, List.getElem_toArray, List.getElem_cons_succ, List.getElem_cons_zero, List.setIfInBounds_toArray, List.set_cons_succ, List.set_cons_zero])
      refine HeadAt.take (i := 5) undef rfl (by kernel_rfl) (.inr ⟨by kernel_rfl, rfl⟩) S0 ?_
      (try simp only [Act.put, List.getElem_toArray, List.getElem_cons_succ, List.getElem_cons_zero, List.setIfInBounds_toArray, List.set_cons_succ, List.set_cons_zero])
      refine HeadAt.take (i := 6) (.bool false) rfl (by kernel_rfl) (.inl ⟨rfl, fun _ _ => by simp [go_sem]⟩) S0 ?_
      (try simp only [Act.put, List.getElem_toArray, List.getElem_cons_succ, List.getElem_cons_zero, List.setIfInBounds_toArray, List.set_cons_succ, List.set_cons_zero])
      refine HeadAt.one (i := 7) rfl (by kernel_rfl) ?_
      generalize hK : Upto _ _ = K0
      (try simp only [Act.put, List.getElem_toArray, List.getElem_cons_succ, List.getElem_cons_zero, List.setIfInBounds_toArray, List.set_cons_succ, List.set_cons_zero])
      go_wp2_with fail
      refine (h3 _ S0.2.2).mono ?_
      rintro e V2 ⟨rfl, hb2⟩
      replace S0 := And.intro (S0.1.below hb2) (And.intro (S0.2.1.below hb2) (S0.2.2.trans (hb2.mono S0.2.2.size)))
      go_wp2_with fail
      subst hK
      refine ⟨S0, ?_⟩
      (try simp only [Act.put, List.getElem_toArray, List.getElem_cons_succ, List.getElem_cons_zero, List.setIfInBounds_toArray, List.set_cons_succ, List.set_cons_zero])
      refine HeadAt.done (by kernel_rfl) ?_
      (try simp only [Act.put, List.drop_succ_cons, List.drop_zero, List.getElem_toArray, List.getElem_cons_succ, List.getElem_cons_zero])
      go_wp2_with fail
      refine NoPanic.normal ?_
      go_wp2_with fail
      go_meet
      exact ⟨rfl, S0⟩
    · simp only [Bool.true_and] at h3
      have c0 := x0.ext 0 rfl; have c1 := x0.ext 1 rfl
      refine wp_region_ext_lit (by kernel_rfl) (by kernel_rfl) ?_
      iterate 4 (quiet_step (first | (go_at_call 39; exact quiet_ext (h1 _))))
      repeat (quiet_step (first | (go_at_call 39; exact quiet_ext (h2 _)) | (go_at_call 53; exact quiet_ext (h3 _ (Ext.below _)))))
      refine wpQuiet_nil ?_
      intro _ hw'
      obtain ⟨tt, rfl⟩ := hw'
      have hbt := tt.below
      go_wp2_with fail
      go_meet
      exact ⟨rfl, x0.below hbt, x1.below hbt, hbt⟩
  case rest =>
    clear x0 h1 h2 h3 x1
    obtain ⟨rfl, x0, x1, hbw⟩ := hcut
    clear hX1 hs
    replace hb := hb.trans (hbw.mono hb.size)
    have c0 := x1.cell 0 rfl; have c1 := x1.cell 1 rfl; have c2 := x1.cell 2 rfl
    have f0 := x1.free 0; have f1 := x1.free 1; have f2 := x1.free 2
    have z1 := x1.set3 (.int .i64 0) (.int .i64 0) (.int .i64 0)
    have hb3 := below_put3 hb (b := w.heap.size + 1) (by omega) (.int .i64 0) (.int .i64 0) (.int .i64 0)
    have HZ := hid (And.intro z1 hb3)
    clear z1 hb3 x1 hb hbw x0
    go_wp2_with fail
    obtain ⟨z1, hb3⟩ := HZ.out
    clear HZ
    generalize World.setCell _ _ _ = VV at *
    have k0 := z1.cell 0 rfl; have k1 := z1.cell 1 rfl; have k2 := z1.cell 2 rfl
    refine bodyPost_ret (v := .tuple #[.agg #[.int .i64 0, .int .i64 0, .int .i64 0], .int .i64 r]) ?_ rfl ⟨rfl, hb3⟩
    simp [results, Try.results22, go_sem, k0, k1, k2]
set_option maxRecDepth 100000 in
set_option maxHeartbeats 6000000 in
theorem refGift_ok (ac : Option Addr) (cc : Nat) (cs : List Cl) (L : Int) (t g : Int) (w : World) (hX : Clz w ac cs) (hv : shB cs L = true) (ht : cenB t = true) (hg : cenB g = true) (u : Wk) (hu : u = giftW L cs t g) : Calls Try.prog 22 #[.agg #[.slice ac cs.length cc, .int .i64 L], .int .i64 t, .int .i64 g] w fun e w' => e = .returned (.tuple #[.agg #[.int .i64 u.op, .int .i64 u.ow, .int .i64 u.rp], .int .i64 0]) ∧ Below w.heap.size w w' := by
  have ho := Ok.of hv ht
  have hr : (0 : Int) = askE cs L (cenB t && cenB g) := by rw [ht, hg]; unfold askE; rw [hv]; rfl
  have hgb := cenB_iff.1 hg
  obtain ⟨r, hr0⟩ : ∃ r : Int, r = 0 := ⟨_, rfl⟩
  rw [← hr0] at hr
  have HR0 := hid hr0
  clear hr0
  have q1 := fun (V : World) hh => Gone_any ac cc cs L t g ho (by omega) (by have := (shB_ok hv).1; omega) V hh _ rfl u hu
  clear hu ho hgb ht hg hv
  obtain ⟨W, hW, hb, hs, x0, x1⟩ := boxes2 w #[.slice ac cs.length cc, .int .i64 L] 24 #[.int .i64 0, .int .i64 0, .int .i64 0] 33
  have hX1 := hX.below hb (Nat.le_refl _)
  have h1 := fun (V : World) => (IsCents_any t V).mono (fun e w' h => And.intro h.1 (Below.of_eq (B := V.heap.size) h.2))
  have h2 := fun (V : World) => (IsCents_any g V).mono (fun e w' h => And.intro h.1 (Below.of_eq (B := V.heap.size) h.2))
  have h3 := fun (V : World) (hh : Below W.heap.size W V) => ask_any ac cc cs L (cenB t && cenB g) V (hX1.below hh (Nat.le_refl _))
  rw [← hr] at h3
  obtain ⟨a, ha⟩ : ∃ a, a = cenB t := ⟨_, rfl⟩
  obtain ⟨b, hbb⟩ : ∃ b, b = cenB g := ⟨_, rfl⟩
  rw [← ha] at h1 h3; rw [← hbb] at h2 h3
  have HA := hid ha; have HB := hid hbb; have HR := hid hr
  clear ha hbb hr
  go_enter Try.func22, Try.ntmps22
  go_upto_region 1 with fail
  clear hW
  go_cut [8] (fun s8 wx => s8 = .int .i64 r ∧ Bx wx w.heap.size #[.slice ac cs.length cc, .int .i64 L] 24 ∧ Bx wx (w.heap.size + 1) #[.int .i64 0, .int .i64 0, .int .i64 0] 33 ∧ Below W.heap.size W wx)
  case first =>
    cases a
    · simp only [Bool.false_and] at h3
      have hbw := (Below.refl W.heap.size W).drew
      have S0 := And.intro (x0.below hbw) (And.intro (x1.below hbw) hbw)
      clear x0 hbw x1
      refine wp_region_head 8 (fun w' => Bx w' w.heap.size #[.slice ac cs.length cc, .int .i64 L] 24 ∧ Bx w' (w.heap.size + 1) #[.int .i64 0, .int .i64 0, .int .i64 0] 33 ∧ Below W.heap.size W w') (by kernel_rfl) rfl ?_
      generalize W.drew = Y0 at *
      refine HeadAt.take (i := 0) (.agg #[.slice ac cs.length cc, .int .i64 L]) rfl (by kernel_rfl) (.inl ⟨rfl, fun w' z => ?_⟩) S0 ?_
      · (have z0 := z.1.cell 0 rfl; have z1 := z.1.cell 1 rfl; simp [go_sem, z0, z1])
      refine HeadAt.take (i := 1) (.int .i64 t) rfl (by kernel_rfl) (.inl ⟨rfl, fun _ _ => by simp [go_sem]⟩) S0 ?_
      (try simp only [Act.put, List.getElem_toArray, List.getElem_cons_succ, List.getElem_cons_zero, List.setIfInBounds_toArray, List.set_cons_succ, List.set_cons_zero])
      refine HeadAt.one (i := 2) rfl (by kernel_rfl) ?_
      generalize hK : Upto _ _ = K0
      (try simp only [Act.put, List.getElem_toArray, List.getElem_cons_succ, List.getElem_cons_zero, List.setIfInBounds_toArray, List.set_cons_succ, List.set_cons_zero])
      go_wp2_with fail
      refine (h1 _).mono ?_
      rintro e V1 ⟨rfl, hb1⟩
      replace S0 := And.intro (S0.1.below hb1) (And.intro (S0.2.1.below hb1) (S0.2.2.trans (hb1.mono S0.2.2.size)))
      go_wp2_with fail
      subst hK
      refine ⟨S0, ?_⟩
      (try simp only [Act.put, List.getElem_toArray, List.getElem_cons_succ, List.getElem_cons_zero, List.setIfInBounds_toArray, List.set_cons_succ, List.set_cons_zero])
      refine HeadAt.take (i := 3) (.bool false) rfl (by kernel_rfl) (.inl ⟨rfl, fun _ _ => by simp [go_sem]⟩) S0 ?_
      (try simp only [Act.put, List.getElem_toArray, List.getElem_cons_succ, List.getElem_cons_zero, List.setIfInBounds_toArray, List.set_cons_succ, List.set_cons_zero])
      refine HeadAt.take (i := 4) undef rfl (by kernel_rfl) (.inr ⟨by kernel_rfl, rfl⟩) S0 ?_
      (try simp only [Act.put, List.getElem_toArray, List.getElem_cons_succ, List.getElem_cons_zero, List.setIfInBounds_toArray, List.set_cons_succ, List.set_cons_zero])
      refine HeadAt.take (i := 5) undef rfl (by kernel_rfl) (.inr ⟨by kernel_rfl, rfl⟩) S0 ?_
      (try simp only [Act.put, List.getElem_toArray, List.getElem_cons_succ, List.getElem_cons_zero, List.setIfInBounds_toArray, List.set_cons_succ, List.set_cons_zero])
      refine HeadAt.take (i := 6) (.bool false) rfl (by kernel_rfl) (.inl ⟨rfl, fun _ _ => by simp [go_sem]⟩) S0 ?_
      (try simp only [Act.put, List.getElem_toArray, List.getElem_cons_succ, List.getElem_cons_zero, List.setIfInBounds_toArray, List.set_cons_succ, List.set_cons_zero])
      refine HeadAt.one (i := 7) rfl (by kernel_rfl) ?_
      generalize hK : Upto _ _ = K0
      (try simp only [Act.put, List.getElem_toArray, List.getElem_cons_succ, List.getElem_cons_zero, List.setIfInBounds_toArray, List.set_cons_succ, List.set_cons_zero])
      go_wp2_with fail
      refine (h3 _ S0.2.2).mono ?_
      rintro e V2 ⟨rfl, hb2⟩
      replace S0 := And.intro (S0.1.below hb2) (And.intro (S0.2.1.below hb2) (S0.2.2.trans (hb2.mono S0.2.2.size)))
      go_wp2_with fail
      subst hK
      refine ⟨S0, ?_⟩
      (try simp only [Act.put, List.getElem_toArray, List.getElem_cons_succ, List.getElem_cons_zero, List.setIfInBounds_toArray, List.set_cons_succ, List.set_cons_zero])
      refine HeadAt.done (by kernel_rfl) ?_
      (try simp only [Act.put, List.drop_succ_cons, List.drop_zero, List.getElem_toArray, List.getElem_cons_succ, List.getElem_cons_zero])
      go_wp2_with fail
      refine NoPanic.normal ?_
      go_wp2_with fail
      go_meet
      exact ⟨rfl, S0⟩
    · simp only [Bool.true_and] at h3
      have c0 := x0.ext 0 rfl; have c1 := x0.ext 1 rfl
      refine wp_region_ext_lit (by kernel_rfl) (by kernel_rfl) ?_
      iterate 4 (quiet_step (first | (go_at_call 39; exact quiet_ext (h1 _))))
      repeat (quiet_step (first | (go_at_call 39; exact quiet_ext (h2 _)) | (go_at_call 53; exact quiet_ext (h3 _ (Ext.below _)))))
      refine wpQuiet_nil ?_
      intro _ hw'
      obtain ⟨tt, rfl⟩ := hw'
      have hbt := tt.below
      go_wp2_with fail
      go_meet
      exact ⟨rfl, x0.below hbt, x1.below hbt, hbt⟩
  case rest =>
    clear x0 h1 h2 h3 x1
    obtain ⟨rfl, x0, x1, hbw⟩ := hcut
    obtain rfl := HR0.out
    replace hb := hb.trans (hbw.mono hb.size)
    have hX2 := hX1.below hbw (Nat.le_refl _)
    clear hX1 hs hbw
    have c0 := x0.cell 0 rfl; have c1 := x0.cell 1 rfl
    go_wp2_with fail
    refine (q1 _ hX2).mono ?_
    rintro e V3 ⟨a9, c9, rfl, _, hb1⟩
    replace x1 := x1.below hb1
    replace hb := hb.trans (hb1.mono hb.size)
    clear hb1 q1 c0 c1 x0 hX2
    have hba := below_one (w := V3) (.cells #[.int .i64 u.op, .int .i64 u.ow, .int .i64 u.rp] 33)
    have HXa := hid (And.intro (x1.below hba) (And.intro (hb.trans (hba.mono hb.size)) (Bx.new V3 #[.int .i64 u.op, .int .i64 u.ow, .int .i64 u.rp] 33)))
    clear hba hb x1
    go_upto_region 5 with fail
    obtain ⟨x1, hb, x2⟩ := HXa.out
    clear HXa
    generalize V3.heap.size = s3 at *
    generalize World.alloc _ _ = V4 at *
    have c0 := x1.cell 0 rfl; have c1 := x1.cell 1 rfl; have c2 := x1.cell 2 rfl
    have f0 := x1.free 0; have f1 := x1.free 1; have f2 := x1.free 2
    have d0 := x2.cell 0 rfl; have d1 := x2.cell 1 rfl; have d2 := x2.cell 2 rfl
    have z1 := x1.set3 (.int .i64 u.op) (.int .i64 u.ow) (.int .i64 u.rp)
    have hb3 := below_put3 hb (b := w.heap.size + 1) (by omega) (.int .i64 u.op) (.int .i64 u.ow) (.int .i64 u.rp)
    have HZ := hid (And.intro z1 hb3)
    clear z1 hb3 x1 hb x2
    go_wp2_with fail
    obtain ⟨z1, hb3⟩ := HZ.out
    clear HZ
    generalize World.setCell _ _ _ = VV at *
    have k0 := z1.cell 0 rfl; have k1 := z1.cell 1 rfl; have k2 := z1.cell 2 rfl
    refine bodyPost_ret (v := .tuple #[.agg #[.int .i64 u.op, .int .i64 u.ow, .int .i64 u.rp], .int .i64 0]) ?_ rfl ⟨rfl, hb3⟩
    simp [results, Try.results22, go_sem, k0, k1, k2]
set_option maxRecDepth 100000 in
set_option maxHeartbeats 6000000 in
theorem refGives_bad (ac : Option Addr) (cc : Nat) (cs : List Cl) (L : Int) (t n : Int) (w : World) (hX : Clz w ac cs) (r : Int) (hr : r = askE cs L (cenB t && hasB cs n)) (h0 : r ≠ 0) : Calls Try.prog 24 #[.agg #[.slice ac cs.length cc, .int .i64 L], .int .i64 t, .int .i64 n] w fun e w' => e = .returned (.tuple #[.int .i64 0, .int .i64 r]) ∧ Below w.heap.size w w' := by
  obtain ⟨W, hW, hb, hs, x0⟩ := boxes1 w #[.slice ac cs.length cc, .int .i64 L] 24
  have hX1 := hX.below hb (Nat.le_refl _)
  have h1 := fun (V : World) => (IsCents_any t V).mono (fun e w' h => And.intro h.1 (Below.of_eq (B := V.heap.size) h.2))
  have h2 := fun (V : World) => IsClause_any ac cc cs L n V hX.len
  have h3 := fun (V : World) (hh : Below W.heap.size W V) => ask_any ac cc cs L (cenB t && hasB cs n) V (hX1.below hh (Nat.le_refl _))
  rw [← hr] at h3
  obtain ⟨a, ha⟩ : ∃ a, a = cenB t := ⟨_, rfl⟩
  obtain ⟨b, hbb⟩ : ∃ b, b = hasB cs n := ⟨_, rfl⟩
  rw [← ha] at h1 h3; rw [← hbb] at h2 h3
  have HA := hid ha; have HB := hid hbb; have HR := hid hr
  clear ha hbb hr
  clear hX hs
  go_enter Try.func24, Try.ntmps24
  go_upto_region 1 with fail
  clear hW
  go_cut [8] (fun s8 wx => s8 = .int .i64 r ∧ Bx wx w.heap.size #[.slice ac cs.length cc, .int .i64 L] 24 ∧ Below W.heap.size W wx)
  case first =>
    cases a
    · simp only [Bool.false_and] at h3
      have hbw := (Below.refl W.heap.size W).drew
      have S0 := And.intro (x0.below hbw) hbw
      clear x0 hbw
      refine wp_region_head 9 (fun w' => Bx w' w.heap.size #[.slice ac cs.length cc, .int .i64 L] 24 ∧ Below W.heap.size W w') (by kernel_rfl) rfl ?_
      generalize W.drew = Y0 at *
      refine HeadAt.take (i := 0) (.agg #[.slice ac cs.length cc, .int .i64 L]) rfl (by kernel_rfl) (.inl ⟨rfl, fun w' z => ?_⟩) S0 ?_
      · (have z0 := z.1.cell 0 rfl; have z1 := z.1.cell 1 rfl; simp [go_sem, z0, z1])
      refine HeadAt.take (i := 1) (.int .i64 t) rfl (by kernel_rfl) (.inl ⟨rfl, fun _ _ => by simp [go_sem]⟩) S0 ?_
      (try simp only [Act.put, List.getElem_toArray, List.getElem_cons_succ, List.getElem_cons_zero, List.setIfInBounds_toArray, List.set_cons_succ, List.set_cons_zero])
      refine HeadAt.one (i := 2) rfl (by kernel_rfl) ?_
      generalize hK : Upto _ _ = K0
      (try simp only [Act.put, List.getElem_toArray, List.getElem_cons_succ, List.getElem_cons_zero, List.setIfInBounds_toArray, List.set_cons_succ, List.set_cons_zero])
      go_wp2_with fail
      refine (h1 _).mono ?_
      rintro e V1 ⟨rfl, hb1⟩
      replace S0 := And.intro (S0.1.below hb1) (S0.2.trans (hb1.mono S0.2.size))
      go_wp2_with fail
      subst hK
      refine ⟨S0, ?_⟩
      (try simp only [Act.put, List.getElem_toArray, List.getElem_cons_succ, List.getElem_cons_zero, List.setIfInBounds_toArray, List.set_cons_succ, List.set_cons_zero])
      refine HeadAt.take (i := 3) (.bool false) rfl (by kernel_rfl) (.inl ⟨rfl, fun _ _ => by simp [go_sem]⟩) S0 ?_
      (try simp only [Act.put, List.getElem_toArray, List.getElem_cons_succ, List.getElem_cons_zero, List.setIfInBounds_toArray, List.set_cons_succ, List.set_cons_zero])
      refine HeadAt.take (i := 4) undef rfl (by kernel_rfl) (.inr ⟨by kernel_rfl, rfl⟩) S0 ?_
      (try simp only [Act.put, List.getElem_toArray, List.getElem_cons_succ, List.getElem_cons_zero, List.setIfInBounds_toArray, List.set_cons_succ, List.set_cons_zero])
      refine HeadAt.take (i := 5) undef rfl (by kernel_rfl) (.inr ⟨by kernel_rfl, rfl⟩) S0 ?_
      (try simp only [Act.put, List.getElem_toArray, List.getElem_cons_succ, List.getElem_cons_zero, List.setIfInBounds_toArray, List.set_cons_succ, List.set_cons_zero])
      refine HeadAt.take (i := 6) undef rfl (by kernel_rfl) (.inr ⟨by kernel_rfl, rfl⟩) S0 ?_
      (try simp only [Act.put, List.getElem_toArray, List.getElem_cons_succ, List.getElem_cons_zero, List.setIfInBounds_toArray, List.set_cons_succ, List.set_cons_zero])
      refine HeadAt.take (i := 7) (.bool false) rfl (by kernel_rfl) (.inl ⟨rfl, fun _ _ => by simp [go_sem]⟩) S0 ?_
      (try simp only [Act.put, List.getElem_toArray, List.getElem_cons_succ, List.getElem_cons_zero, List.setIfInBounds_toArray, List.set_cons_succ, List.set_cons_zero])
      refine HeadAt.one (i := 8) rfl (by kernel_rfl) ?_
      generalize hK : Upto _ _ = K0
      (try simp only [Act.put, List.getElem_toArray, List.getElem_cons_succ, List.getElem_cons_zero, List.setIfInBounds_toArray, List.set_cons_succ, List.set_cons_zero])
      go_wp2_with fail
      refine (h3 _ S0.2).mono ?_
      rintro e V2 ⟨rfl, hb2⟩
      replace S0 := And.intro (S0.1.below hb2) (S0.2.trans (hb2.mono S0.2.size))
      go_wp2_with fail
      subst hK
      refine ⟨S0, ?_⟩
      (try simp only [Act.put, List.getElem_toArray, List.getElem_cons_succ, List.getElem_cons_zero, List.setIfInBounds_toArray, List.set_cons_succ, List.set_cons_zero])
      refine HeadAt.done (by kernel_rfl) ?_
      (try simp only [Act.put, List.drop_succ_cons, List.drop_zero, List.getElem_toArray, List.getElem_cons_succ, List.getElem_cons_zero])
      go_wp2_with fail
      refine NoPanic.normal ?_
      go_wp2_with fail
      go_meet
      exact ⟨rfl, S0⟩
    · simp only [Bool.true_and] at h3
      have c0 := x0.ext 0 rfl; have c1 := x0.ext 1 rfl
      refine wp_region_ext_lit (by kernel_rfl) (by kernel_rfl) ?_
      repeat (quiet_step (first | (go_at_call 39; exact quiet_ext (h1 _)) | (go_at_call 45; exact quiet_ext (h2 _)) | (go_at_call 53; exact quiet_ext (h3 _ (Ext.below _)))))
      refine wpQuiet_nil ?_
      intro _ hw'
      obtain ⟨tt, rfl⟩ := hw'
      have hbt := tt.below
      go_wp2_with fail
      go_meet
      exact ⟨rfl, x0.below hbt, hbt⟩
  case rest =>
    clear x0 h1 h2 h3
    obtain ⟨rfl, x0, hbw⟩ := hcut
    replace hb := hb.trans (hbw.mono hb.size)
    go_wp2
    go_ret2
    exact ⟨rfl, hb⟩
set_option maxRecDepth 100000 in
set_option maxHeartbeats 6000000 in
theorem refWithout_bad (ac : Option Addr) (cc : Nat) (cs : List Cl) (L : Int) (t n : Int) (w : World) (hX : Clz w ac cs) (r : Int) (hr : r = askE cs L (cenB t && hasB cs n)) (h0 : r ≠ 0) : Calls Try.prog 26 #[.agg #[.slice ac cs.length cc, .int .i64 L], .int .i64 t, .int .i64 n] w fun e w' => e = .returned (.tuple #[.int .i64 0, .int .i64 r]) ∧ Below w.heap.size w w' := by
  obtain ⟨W, hW, hb, hs, x0⟩ := boxes1 w #[.slice ac cs.length cc, .int .i64 L] 24
  have hX1 := hX.below hb (Nat.le_refl _)
  have h1 := fun (V : World) => (IsCents_any t V).mono (fun e w' h => And.intro h.1 (Below.of_eq (B := V.heap.size) h.2))
  have h2 := fun (V : World) => IsClause_any ac cc cs L n V hX.len
  have h3 := fun (V : World) (hh : Below W.heap.size W V) => ask_any ac cc cs L (cenB t && hasB cs n) V (hX1.below hh (Nat.le_refl _))
  rw [← hr] at h3
  obtain ⟨a, ha⟩ : ∃ a, a = cenB t := ⟨_, rfl⟩
  obtain ⟨b, hbb⟩ : ∃ b, b = hasB cs n := ⟨_, rfl⟩
  rw [← ha] at h1 h3; rw [← hbb] at h2 h3
  have HA := hid ha; have HB := hid hbb; have HR := hid hr
  clear ha hbb hr
  clear hX hs
  go_enter Try.func26, Try.ntmps26
  go_upto_region 1 with fail
  clear hW
  go_cut [8] (fun s8 wx => s8 = .int .i64 r ∧ Bx wx w.heap.size #[.slice ac cs.length cc, .int .i64 L] 24 ∧ Below W.heap.size W wx)
  case first =>
    cases a
    · simp only [Bool.false_and] at h3
      have hbw := (Below.refl W.heap.size W).drew
      have S0 := And.intro (x0.below hbw) hbw
      clear x0 hbw
      refine wp_region_head 9 (fun w' => Bx w' w.heap.size #[.slice ac cs.length cc, .int .i64 L] 24 ∧ Below W.heap.size W w') (by kernel_rfl) rfl ?_
      generalize W.drew = Y0 at *
      refine HeadAt.take (i := 0) (.agg #[.slice ac cs.length cc, .int .i64 L]) rfl (by kernel_rfl) (.inl ⟨rfl, fun w' z => ?_⟩) S0 ?_
      · (have z0 := z.1.cell 0 rfl; have z1 := z.1.cell 1 rfl; simp [go_sem, z0, z1])
      refine HeadAt.take (i := 1) (.int .i64 t) rfl (by kernel_rfl) (.inl ⟨rfl, fun _ _ => by simp [go_sem]⟩) S0 ?_
      (try simp only [Act.put, List.getElem_toArray, List.getElem_cons_succ, List.getElem_cons_zero, List.setIfInBounds_toArray, List.set_cons_succ, List.set_cons_zero])
      refine HeadAt.one (i := 2) rfl (by kernel_rfl) ?_
      generalize hK : Upto _ _ = K0
      (try simp only [Act.put, List.getElem_toArray, List.getElem_cons_succ, List.getElem_cons_zero, List.setIfInBounds_toArray, List.set_cons_succ, List.set_cons_zero])
      go_wp2_with fail
      refine (h1 _).mono ?_
      rintro e V1 ⟨rfl, hb1⟩
      replace S0 := And.intro (S0.1.below hb1) (S0.2.trans (hb1.mono S0.2.size))
      go_wp2_with fail
      subst hK
      refine ⟨S0, ?_⟩
      (try simp only [Act.put, List.getElem_toArray, List.getElem_cons_succ, List.getElem_cons_zero, List.setIfInBounds_toArray, List.set_cons_succ, List.set_cons_zero])
      refine HeadAt.take (i := 3) (.bool false) rfl (by kernel_rfl) (.inl ⟨rfl, fun _ _ => by simp [go_sem]⟩) S0 ?_
      (try simp only [Act.put, List.getElem_toArray, List.getElem_cons_succ, List.getElem_cons_zero, List.setIfInBounds_toArray, List.set_cons_succ, List.set_cons_zero])
      refine HeadAt.take (i := 4) undef rfl (by kernel_rfl) (.inr ⟨by kernel_rfl, rfl⟩) S0 ?_
      (try simp only [Act.put, List.getElem_toArray, List.getElem_cons_succ, List.getElem_cons_zero, List.setIfInBounds_toArray, List.set_cons_succ, List.set_cons_zero])
      refine HeadAt.take (i := 5) undef rfl (by kernel_rfl) (.inr ⟨by kernel_rfl, rfl⟩) S0 ?_
      (try simp only [Act.put, List.getElem_toArray, List.getElem_cons_succ, List.getElem_cons_zero, List.setIfInBounds_toArray, List.set_cons_succ, List.set_cons_zero])
      refine HeadAt.take (i := 6) undef rfl (by kernel_rfl) (.inr ⟨by kernel_rfl, rfl⟩) S0 ?_
      (try simp only [Act.put, List.getElem_toArray, List.getElem_cons_succ, List.getElem_cons_zero, List.setIfInBounds_toArray, List.set_cons_succ, List.set_cons_zero])
      refine HeadAt.take (i := 7) (.bool false) rfl (by kernel_rfl) (.inl ⟨rfl, fun _ _ => by simp [go_sem]⟩) S0 ?_
      (try simp only [Act.put, List.getElem_toArray, List.getElem_cons_succ, List.getElem_cons_zero, List.setIfInBounds_toArray, List.set_cons_succ, List.set_cons_zero])
      refine HeadAt.one (i := 8) rfl (by kernel_rfl) ?_
      generalize hK : Upto _ _ = K0
      (try simp only [Act.put, List.getElem_toArray, List.getElem_cons_succ, List.getElem_cons_zero, List.setIfInBounds_toArray, List.set_cons_succ, List.set_cons_zero])
      go_wp2_with fail
      refine (h3 _ S0.2).mono ?_
      rintro e V2 ⟨rfl, hb2⟩
      replace S0 := And.intro (S0.1.below hb2) (S0.2.trans (hb2.mono S0.2.size))
      go_wp2_with fail
      subst hK
      refine ⟨S0, ?_⟩
      (try simp only [Act.put, List.getElem_toArray, List.getElem_cons_succ, List.getElem_cons_zero, List.setIfInBounds_toArray, List.set_cons_succ, List.set_cons_zero])
      refine HeadAt.done (by kernel_rfl) ?_
      (try simp only [Act.put, List.drop_succ_cons, List.drop_zero, List.getElem_toArray, List.getElem_cons_succ, List.getElem_cons_zero])
      go_wp2_with fail
      refine NoPanic.normal ?_
      go_wp2_with fail
      go_meet
      exact ⟨rfl, S0⟩
    · simp only [Bool.true_and] at h3
      have c0 := x0.ext 0 rfl; have c1 := x0.ext 1 rfl
      refine wp_region_ext_lit (by kernel_rfl) (by kernel_rfl) ?_
      repeat (quiet_step (first | (go_at_call 39; exact quiet_ext (h1 _)) | (go_at_call 45; exact quiet_ext (h2 _)) | (go_at_call 53; exact quiet_ext (h3 _ (Ext.below _)))))
      refine wpQuiet_nil ?_
      intro _ hw'
      obtain ⟨tt, rfl⟩ := hw'
      have hbt := tt.below
      go_wp2_with fail
      go_meet
      exact ⟨rfl, x0.below hbt, hbt⟩
  case rest =>
    clear x0 h1 h2 h3
    obtain ⟨rfl, x0, hbw⟩ := hcut
    replace hb := hb.trans (hbw.mono hb.size)
    go_wp2
    go_ret2
    exact ⟨rfl, hb⟩
set_option maxRecDepth 100000 in
set_option maxHeartbeats 6000000 in
theorem refGives_ok (ac : Option Addr) (cc : Nat) (cs : List Cl) (L : Int) (t : Int) (j : Nat) (w : World) (hX : Clz w ac cs) (hv : shB cs L = true) (ht : cenB t = true) (hj : j < cs.length) (n : Int) (hn : n = (j : Int)) : Calls Try.prog 24 #[.agg #[.slice ac cs.length cc, .int .i64 L], .int .i64 t, .int .i64 n] w fun e w' => e = .returned (.tuple #[.int .i64 (givesC L cs t j), .int .i64 0]) ∧ Below w.heap.size w w' := by
  have hr : (0 : Int) = askE cs L (cenB t && hasB cs n) := by
    rw [ht, show hasB cs n = true from inI_iff.2 (by omega)]; unfold askE; rw [hv]; rfl
  obtain ⟨r, hr0⟩ : ∃ r : Int, r = 0 := ⟨_, rfl⟩
  rw [← hr0] at hr
  have HR0 := hid hr0
  clear hr0
  have ho := Ok.of hv ht
  have h5 := (shB_ok hv).1
  have q1 := fun (V : World) hh => Gone0_any ac cc cs L t ho (by omega) V hh _ rfl
  have hat : (goneL (beginW L t) cs)[j]? = some (givesC L cs t j) := goneL_at cs _ j hj
  have hgl := goneL_len cs (beginW L t)
  generalize settledW L cs t = u at *
  generalize givesC L cs t j = gv at *
  have HAT := hid hat; have HGL := hid hgl
  have HN := hid hn; have HJ := hid hj
  clear hat hgl ho ht hv hn
  obtain ⟨W, hW, hb, hs, x0⟩ := boxes1 w #[.slice ac cs.length cc, .int .i64 L] 24
  have hX1 := hX.below hb (Nat.le_refl _)
  have h1 := fun (V : World) => (IsCents_any t V).mono (fun e w' h => And.intro h.1 (Below.of_eq (B := V.heap.size) h.2))
  have h2 := fun (V : World) => IsClause_any ac cc cs L n V hX.len
  have h3 := fun (V : World) (hh : Below W.heap.size W V) => ask_any ac cc cs L (cenB t && hasB cs n) V (hX1.below hh (Nat.le_refl _))
  rw [← hr] at h3
  obtain ⟨a, ha⟩ : ∃ a, a = cenB t := ⟨_, rfl⟩
  obtain ⟨b, hbb⟩ : ∃ b, b = hasB cs n := ⟨_, rfl⟩
  rw [← ha] at h1 h3; rw [← hbb] at h2 h3
  have HA := hid ha; have HB := hid hbb; have HR := hid hr
  clear ha hbb hr
  go_enter Try.func24, Try.ntmps24
  go_upto_region 1 with fail
  clear hW
  go_cut [8] (fun s8 wx => s8 = .int .i64 r ∧ Bx wx w.heap.size #[.slice ac cs.length cc, .int .i64 L] 24 ∧ Below W.heap.size W wx)
  case first =>
    cases a
    · simp only [Bool.false_and] at h3
      have hbw := (Below.refl W.heap.size W).drew
      have S0 := And.intro (x0.below hbw) hbw
      clear x0 hbw
      refine wp_region_head 9 (fun w' => Bx w' w.heap.size #[.slice ac cs.length cc, .int .i64 L] 24 ∧ Below W.heap.size W w') (by kernel_rfl) rfl ?_
      generalize W.drew = Y0 at *
      refine HeadAt.take (i := 0) (.agg #[.slice ac cs.length cc, .int .i64 L]) rfl (by kernel_rfl) (.inl ⟨rfl, fun w' z => ?_⟩) S0 ?_
      · (have z0 := z.1.cell 0 rfl; have z1 := z.1.cell 1 rfl; simp [go_sem, z0, z1])
      refine HeadAt.take (i := 1) (.int .i64 t) rfl (by kernel_rfl) (.inl ⟨rfl, fun _ _ => by simp [go_sem]⟩) S0 ?_
      (try simp only [Act.put, List.getElem_toArray, List.getElem_cons_succ, List.getElem_cons_zero, List.setIfInBounds_toArray, List.set_cons_succ, List.set_cons_zero])
      refine HeadAt.one (i := 2) rfl (by kernel_rfl) ?_
      generalize hK : Upto _ _ = K0
      (try simp only [Act.put, List.getElem_toArray, List.getElem_cons_succ, List.getElem_cons_zero, List.setIfInBounds_toArray, List.set_cons_succ, List.set_cons_zero])
      go_wp2_with fail
      refine (h1 _).mono ?_
      rintro e V1 ⟨rfl, hb1⟩
      replace S0 := And.intro (S0.1.below hb1) (S0.2.trans (hb1.mono S0.2.size))
      go_wp2_with fail
      subst hK
      refine ⟨S0, ?_⟩
      (try simp only [Act.put, List.getElem_toArray, List.getElem_cons_succ, List.getElem_cons_zero, List.setIfInBounds_toArray, List.set_cons_succ, List.set_cons_zero])
      refine HeadAt.take (i := 3) (.bool false) rfl (by kernel_rfl) (.inl ⟨rfl, fun _ _ => by simp [go_sem]⟩) S0 ?_
      (try simp only [Act.put, List.getElem_toArray, List.getElem_cons_succ, List.getElem_cons_zero, List.setIfInBounds_toArray, List.set_cons_succ, List.set_cons_zero])
      refine HeadAt.take (i := 4) undef rfl (by kernel_rfl) (.inr ⟨by kernel_rfl, rfl⟩) S0 ?_
      (try simp only [Act.put, List.getElem_toArray, List.getElem_cons_succ, List.getElem_cons_zero, List.setIfInBounds_toArray, List.set_cons_succ, List.set_cons_zero])
      refine HeadAt.take (i := 5) undef rfl (by kernel_rfl) (.inr ⟨by kernel_rfl, rfl⟩) S0 ?_
      (try simp only [Act.put, List.getElem_toArray, List.getElem_cons_succ, List.getElem_cons_zero, List.setIfInBounds_toArray, List.set_cons_succ, List.set_cons_zero])
      refine HeadAt.take (i := 6) undef rfl (by kernel_rfl) (.inr ⟨by kernel_rfl, rfl⟩) S0 ?_
      (try simp only [Act.put, List.getElem_toArray, List.getElem_cons_succ, List.getElem_cons_zero, List.setIfInBounds_toArray, List.set_cons_succ, List.set_cons_zero])
      refine HeadAt.take (i := 7) (.bool false) rfl (by kernel_rfl) (.inl ⟨rfl, fun _ _ => by simp [go_sem]⟩) S0 ?_
      (try simp only [Act.put, List.getElem_toArray, List.getElem_cons_succ, List.getElem_cons_zero, List.setIfInBounds_toArray, List.set_cons_succ, List.set_cons_zero])
      refine HeadAt.one (i := 8) rfl (by kernel_rfl) ?_
      generalize hK : Upto _ _ = K0
      (try simp only [Act.put, List.getElem_toArray, List.getElem_cons_succ, List.getElem_cons_zero, List.setIfInBounds_toArray, List.set_cons_succ, List.set_cons_zero])
      go_wp2_with fail
      refine (h3 _ S0.2).mono ?_
      rintro e V2 ⟨rfl, hb2⟩
      replace S0 := And.intro (S0.1.below hb2) (S0.2.trans (hb2.mono S0.2.size))
      go_wp2_with fail
      subst hK
      refine ⟨S0, ?_⟩
      (try simp only [Act.put, List.getElem_toArray, List.getElem_cons_succ, List.getElem_cons_zero, List.setIfInBounds_toArray, List.set_cons_succ, List.set_cons_zero])
      refine HeadAt.done (by kernel_rfl) ?_
      (try simp only [Act.put, List.drop_succ_cons, List.drop_zero, List.getElem_toArray, List.getElem_cons_succ, List.getElem_cons_zero])
      go_wp2_with fail
      refine NoPanic.normal ?_
      go_wp2_with fail
      go_meet
      exact ⟨rfl, S0⟩
    · simp only [Bool.true_and] at h3
      have c0 := x0.ext 0 rfl; have c1 := x0.ext 1 rfl
      refine wp_region_ext_lit (by kernel_rfl) (by kernel_rfl) ?_
      repeat (quiet_step (first | (go_at_call 39; exact quiet_ext (h1 _)) | (go_at_call 45; exact quiet_ext (h2 _)) | (go_at_call 53; exact quiet_ext (h3 _ (Ext.below _)))))
      refine wpQuiet_nil ?_
      intro _ hw'
      obtain ⟨tt, rfl⟩ := hw'
      have hbt := tt.below
      go_wp2_with fail
      go_meet
      exact ⟨rfl, x0.below hbt, hbt⟩
  case rest =>
    clear x0 h1 h2 h3
    obtain ⟨rfl, x0, hbw⟩ := hcut
    obtain rfl := HR0.out
    obtain rfl := HN.out
    replace hb := hb.trans (hbw.mono hb.size)
    have hX2 := hX1.below hbw (Nat.le_refl _)
    clear hX1 hs hbw HR HA HB hX
    obtain ⟨nn, hnn⟩ : ∃ nn, nn = cs.length := ⟨_, rfl⟩
    rw [← hnn] at q1 x0 hj h5
    have HNN := hid hnn
    (try rw [← hnn])
    clear hnn
    have c0 := x0.cell 0 rfl; have c1 := x0.cell 1 rfl
    go_wp2_with fail
    refine (q1 _ hX2).mono ?_
    rintro e V3 ⟨a9, c9, rfl, hI, hb1⟩
    replace hb := hb.trans (hb1.mono hb.size)
    clear hb1 q1 c0 c1 x0 hX2
    have hba := below_one (w := V3) (.cells #[.int .i64 u.op, .int .i64 u.ow, .int .i64 u.rp] 33)
    have HXa := hid (And.intro (hI.below hba (Nat.le_refl _)) (hb.trans (hba.mono hb.size)))
    clear hba hb hI
    go_upto_region 5 with fail
    obtain ⟨hI, hb⟩ := HXa.out
    clear HXa
    generalize World.alloc _ _ = V4 at *
    obtain ⟨b, off, x, rfl, _, hc, _, _, hg, _⟩ := hI.at (k := j) (by rw [HGL.out]; exact HJ.out)
    obtain rfl : x = gv := by have := hg.out; rw [HAT.out] at this; injection this with e; exact e.symm
    have hjI : (j : Int) < (nn : Int) := by omega
    have hj0 : (0 : Int) ≤ (j : Int) := by omega
    clear hg hI HAT HGL HJ
    go_wp2
    go_ret2
    exact ⟨rfl, hb⟩
set_option maxRecDepth 100000 in
set_option maxHeartbeats 6000000 in
theorem refWithout_ok (ac : Option Addr) (cc : Nat) (cs : List Cl) (L : Int) (t : Int) (j : Nat) (w : World) (hX : Clz w ac cs) (hv : shB cs L = true) (ht : cenB t = true) (hj : j < cs.length) (n : Int) (hn : n = (j : Int)) : Calls Try.prog 26 #[.agg #[.slice ac cs.length cc, .int .i64 L], .int .i64 t, .int .i64 n] w fun e w' => e = .returned (.tuple #[.int .i64 (withoutC L cs t j), .int .i64 0]) ∧ Below w.heap.size w w' := by
  have hr : (0 : Int) = askE cs L (cenB t && hasB cs n) := by
    rw [ht, show hasB cs n = true from inI_iff.2 (by omega)]; unfold askE; rw [hv]; rfl
  obtain ⟨r, hr0⟩ : ∃ r : Int, r = 0 := ⟨_, rfl⟩
  rw [← hr0] at hr
  have HR0 := hid hr0
  clear hr0
  have ho := Ok.of hv ht
  have h5 := (shB_ok hv).1
  obtain ⟨u, hu⟩ : ∃ u, u = settledW L cs t := ⟨_, rfl⟩
  obtain ⟨v, hv'⟩ : ∃ v, v = settledW L (lessC cs j) t := ⟨_, rfl⟩
  have ho2 : Ok (lessC cs j) L t := ⟨lessC_ok ho.cs, ho.L, ho.t⟩
  have hll := lessC_len hj
  have q1 := fun (V : World) hh => Gone0_any ac cc cs L t ho (by omega) V hh u hu
  have q2 := fun (V : World) hh => Less_any ac cc cs L j hj V hh
  have q3 := fun (a : Option Addr) (c : Nat) (V : World) hh => Gone0_any a c (lessC cs j) L t ho2 (by omega) V hh v hv'
  rw [← hn] at q2
  have hub := (hu ▸ ho.fin : Inv t L u).wb ho.t.2 ho.L.2
  have hvb := (hv' ▸ ho2.fin : Inv t L v).wb ho.t.2 ho.L.2
  have hgv : withoutC L cs t j = v.ow - u.ow := by unfold withoutC; rw [← hu, ← hv']
  rw [hgv]
  have hub1 := hub.ow; have hvb1 := hvb.ow
  have ew : IntKind.i64.wrap (v.ow - u.ow) = v.ow - u.ow := IntWalk.i64_in _ (by omega)
  obtain ⟨q, hq⟩ : ∃ q, q = (lessC cs j).length := ⟨_, rfl⟩
  rw [← hq] at q2 q3
  clear hu hv' ho ho2 hgv ht hv hub hvb hq hll hj hn
  obtain ⟨W, hW, hb, hs, x0⟩ := boxes1 w #[.slice ac cs.length cc, .int .i64 L] 24
  have hX1 := hX.below hb (Nat.le_refl _)
  have h1 := fun (V : World) => (IsCents_any t V).mono (fun e w' h => And.intro h.1 (Below.of_eq (B := V.heap.size) h.2))
  have h2 := fun (V : World) => IsClause_any ac cc cs L n V hX.len
  have h3 := fun (V : World) (hh : Below W.heap.size W V) => ask_any ac cc cs L (cenB t && hasB cs n) V (hX1.below hh (Nat.le_refl _))
  rw [← hr] at h3
  obtain ⟨a, ha⟩ : ∃ a, a = cenB t := ⟨_, rfl⟩
  obtain ⟨b, hbb⟩ : ∃ b, b = hasB cs n := ⟨_, rfl⟩
  rw [← ha] at h1 h3; rw [← hbb] at h2 h3
  have HA := hid ha; have HB := hid hbb; have HR := hid hr
  clear ha hbb hr
  go_enter Try.func26, Try.ntmps26
  go_upto_region 1 with fail
  clear hW
  go_cut [8] (fun s8 wx => s8 = .int .i64 r ∧ Bx wx w.heap.size #[.slice ac cs.length cc, .int .i64 L] 24 ∧ Below W.heap.size W wx)
  case first =>
    cases a
    · simp only [Bool.false_and] at h3
      have hbw := (Below.refl W.heap.size W).drew
      have S0 := And.intro (x0.below hbw) hbw
      clear x0 hbw
      refine wp_region_head 9 (fun w' => Bx w' w.heap.size #[.slice ac cs.length cc, .int .i64 L] 24 ∧ Below W.heap.size W w') (by kernel_rfl) rfl ?_
      generalize W.drew = Y0 at *
      refine HeadAt.take (i := 0) (.agg #[.slice ac cs.length cc, .int .i64 L]) rfl (by kernel_rfl) (.inl ⟨rfl, fun w' z => ?_⟩) S0 ?_
      · (have z0 := z.1.cell 0 rfl; have z1 := z.1.cell 1 rfl; simp [go_sem, z0, z1])
      refine HeadAt.take (i := 1) (.int .i64 t) rfl (by kernel_rfl) (.inl ⟨rfl, fun _ _ => by simp [go_sem]⟩) S0 ?_
      (try simp only [Act.put, List.getElem_toArray, List.getElem_cons_succ, List.getElem_cons_zero, List.setIfInBounds_toArray, List.set_cons_succ, List.set_cons_zero])
      refine HeadAt.one (i := 2) rfl (by kernel_rfl) ?_
      generalize hK : Upto _ _ = K0
      (try simp only [Act.put, List.getElem_toArray, List.getElem_cons_succ, List.getElem_cons_zero, List.setIfInBounds_toArray, List.set_cons_succ, List.set_cons_zero])
      go_wp2_with fail
      refine (h1 _).mono ?_
      rintro e V1 ⟨rfl, hb1⟩
      replace S0 := And.intro (S0.1.below hb1) (S0.2.trans (hb1.mono S0.2.size))
      go_wp2_with fail
      subst hK
      refine ⟨S0, ?_⟩
      (try simp only [Act.put, List.getElem_toArray, List.getElem_cons_succ, List.getElem_cons_zero, List.setIfInBounds_toArray, List.set_cons_succ, List.set_cons_zero])
      refine HeadAt.take (i := 3) (.bool false) rfl (by kernel_rfl) (.inl ⟨rfl, fun _ _ => by simp [go_sem]⟩) S0 ?_
      (try simp only [Act.put, List.getElem_toArray, List.getElem_cons_succ, List.getElem_cons_zero, List.setIfInBounds_toArray, List.set_cons_succ, List.set_cons_zero])
      refine HeadAt.take (i := 4) undef rfl (by kernel_rfl) (.inr ⟨by kernel_rfl, rfl⟩) S0 ?_
      (try simp only [Act.put, List.getElem_toArray, List.getElem_cons_succ, List.getElem_cons_zero, List.setIfInBounds_toArray, List.set_cons_succ, List.set_cons_zero])
      refine HeadAt.take (i := 5) undef rfl (by kernel_rfl) (.inr ⟨by kernel_rfl, rfl⟩) S0 ?_
      (try simp only [Act.put, List.getElem_toArray, List.getElem_cons_succ, List.getElem_cons_zero, List.setIfInBounds_toArray, List.set_cons_succ, List.set_cons_zero])
      refine HeadAt.take (i := 6) undef rfl (by kernel_rfl) (.inr ⟨by kernel_rfl, rfl⟩) S0 ?_
      (try simp only [Act.put, List.getElem_toArray, List.getElem_cons_succ, List.getElem_cons_zero, List.setIfInBounds_toArray, List.set_cons_succ, List.set_cons_zero])
      refine HeadAt.take (i := 7) (.bool false) rfl (by kernel_rfl) (.inl ⟨rfl, fun _ _ => by simp [go_sem]⟩) S0 ?_
      (try simp only [Act.put, List.getElem_toArray, List.getElem_cons_succ, List.getElem_cons_zero, List.setIfInBounds_toArray, List.set_cons_succ, List.set_cons_zero])
      refine HeadAt.one (i := 8) rfl (by kernel_rfl) ?_
      generalize hK : Upto _ _ = K0
      (try simp only [Act.put, List.getElem_toArray, List.getElem_cons_succ, List.getElem_cons_zero, List.setIfInBounds_toArray, List.set_cons_succ, List.set_cons_zero])
      go_wp2_with fail
      refine (h3 _ S0.2).mono ?_
      rintro e V2 ⟨rfl, hb2⟩
      replace S0 := And.intro (S0.1.below hb2) (S0.2.trans (hb2.mono S0.2.size))
      go_wp2_with fail
      subst hK
      refine ⟨S0, ?_⟩
      (try simp only [Act.put, List.getElem_toArray, List.getElem_cons_succ, List.getElem_cons_zero, List.setIfInBounds_toArray, List.set_cons_succ, List.set_cons_zero])
      refine HeadAt.done (by kernel_rfl) ?_
      (try simp only [Act.put, List.drop_succ_cons, List.drop_zero, List.getElem_toArray, List.getElem_cons_succ, List.getElem_cons_zero])
      go_wp2_with fail
      refine NoPanic.normal ?_
      go_wp2_with fail
      go_meet
      exact ⟨rfl, S0⟩
    · simp only [Bool.true_and] at h3
      have c0 := x0.ext 0 rfl; have c1 := x0.ext 1 rfl
      refine wp_region_ext_lit (by kernel_rfl) (by kernel_rfl) ?_
      repeat (quiet_step (first | (go_at_call 39; exact quiet_ext (h1 _)) | (go_at_call 45; exact quiet_ext (h2 _)) | (go_at_call 53; exact quiet_ext (h3 _ (Ext.below _)))))
      refine wpQuiet_nil ?_
      intro _ hw'
      obtain ⟨tt, rfl⟩ := hw'
      have hbt := tt.below
      go_wp2_with fail
      go_meet
      exact ⟨rfl, x0.below hbt, hbt⟩
  case rest =>
    clear x0 h1 h2 h3
    obtain ⟨rfl, x0, hbw⟩ := hcut
    obtain rfl := HR0.out
    replace hb := hb.trans (hbw.mono hb.size)
    have hX2 := hX1.below hbw (Nat.le_refl _)
    clear hX1 hs hbw HR HA HB hX
    have c0 := x0.cell 0 rfl; have c1 := x0.cell 1 rfl
    go_wp2_with fail
    refine (q1 _ hX2).mono ?_
    rintro e V3 ⟨a9, c9, rfl, _, hb1⟩
    replace x0 := x0.below hb1; replace hX2 := hX2.below hb1 (Nat.le_refl _)
    replace hb := hb.trans (hb1.mono hb.size)
    clear hb1 q1 c0 c1
    have hba := below_one (w := V3) (.cells #[.int .i64 u.op, .int .i64 u.ow, .int .i64 u.rp] 33)
    have HXa := hid (And.intro (x0.below hba) (And.intro (hX2.below hba (Nat.le_refl _)) (And.intro (hb.trans (hba.mono hb.size)) (Bx.new V3 #[.int .i64 u.op, .int .i64 u.ow, .int .i64 u.rp] 33))))
    clear hba hb x0 hX2
    go_upto_region 5 with fail
    obtain ⟨x0, hX2, hb, x1⟩ := HXa.out
    clear HXa
    generalize V3.heap.size = s3 at *
    generalize World.alloc _ _ = V4 at *
    have c0 := x0.cell 0 rfl; have c1 := x0.cell 1 rfl
    go_wp2_with fail
    refine (q2 _ hX2).mono ?_
    rintro e V5 ⟨a8, c8, rfl, hX9, hb1⟩
    replace x1 := x1.below hb1
    replace hb := hb.trans (hb1.mono hb.size)
    clear hb1 q2 c0 c1 x0 hX2
    go_wp2_with fail
    refine (q3 a8 c8 _ hX9).mono ?_
    rintro e V6 ⟨a7, c7, rfl, _, hb1⟩
    replace x1 := x1.below hb1
    replace hb := hb.trans (hb1.mono hb.size)
    clear hb1 q3 hX9
    have hba := below_one (w := V6) (.cells #[.int .i64 v.op, .int .i64 v.ow, .int .i64 v.rp] 33)
    have HXa := hid (And.intro (x1.below hba) (And.intro (hb.trans (hba.mono hb.size)) (Bx.new V6 #[.int .i64 v.op, .int .i64 v.ow, .int .i64 v.rp] 33)))
    clear hba hb x1
    go_upto_region 6 with fail
    obtain ⟨x1, hb, x2⟩ := HXa.out
    clear HXa
    generalize V6.heap.size = s6 at *
    generalize World.alloc _ _ = V7 at *
    have c0 := x1.cell 0 rfl; have c1 := x1.cell 1 rfl; have c2 := x1.cell 2 rfl
    have d0 := x2.cell 0 rfl; have d1 := x2.cell 1 rfl; have d2 := x2.cell 2 rfl
    go_wp2
    go_ret2
    exact ⟨rfl, hb⟩
end Go.Proofs.Ythgjjlkdekfdbaa
