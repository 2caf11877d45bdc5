import Derived.Test.YthgjjlkdekfdbaaT8
/-! Gift and Gives. -/
namespace Go.Proofs.Ythgjjlkdekfdbaa
set_option linter.unusedSimpArgs false
set_option linter.unusedVariables false
open Go Go.RowKit

/-- The week of which first a gift is given. -/
def giftW (L : Int) (cs : List Cl) (t g : Int) : Wk := endW (behindW (payOw (beginW L t) (min g t)) cs)
theorem Inv.gift {L t g : Int} (ht : 0 ≤ t) (hL : 0 ≤ L) (hg : 0 ≤ g) : Inv t L (payOw (beginW L t) (min g t)) := by
  constructor <;> simp only [payOw, beginW] <;> omega

set_option maxRecDepth 100000 in
set_option maxHeartbeats 4000000 in
theorem Gift_bad (ac : Option Addr) (cc : Nat) (cs : List Cl) (L : Int) (t g : Int) (w : World) (hX : Clz w ac cs) (r : Int) (hr : r = askE cs L (cenB t && cenB g)) (h0 : r ≠ 0) : Calls Try.prog 21 #[.agg #[.slice ac cs.length cc, .int .i64 L], .int .i64 t, .int .i64 g] w fun e w' => e = .returned (.tuple #[.agg #[.int .i64 0, .int .i64 0, .int .i64 0], .int .i64 r]) ∧ Below w.heap.size w w' := by
  obtain ⟨W, hW, hb, hs, x0, x1⟩ := boxes2 w #[.slice ac cs.length cc, .int .i64 L] 24 #[.int .i64 0, .int .i64 0, .int .i64 0] 33
  have hX1 := hX.below hb (Nat.le_refl _)
  have h1 := fun (V : World) => (isCents_any t V).mono (fun e w' h => And.intro h.1 (Below.of_eq (B := V.heap.size) h.2))
  have h2 := fun (V : World) => (isCents_any g V).mono (fun e w' h => And.intro h.1 (Below.of_eq (B := V.heap.size) h.2))
  have h3 := fun (V : World) (hh : Below W.heap.size W V) => check_any ac cc cs L (cenB t && cenB g) V (hX1.below hh (Nat.le_refl _))
  rw [← hr] at h3
  obtain ⟨a, ha⟩ : ∃ a, a = cenB t := ⟨_, rfl⟩
  obtain ⟨b, hbb⟩ : ∃ b, b = cenB g := ⟨_, rfl⟩
  rw [← ha] at h1 h3; rw [← hbb] at h2 h3
  have HA := hid ha; have HB := hid hbb; have HR := hid hr
  clear ha hbb hr
  clear hX
  go_enter Try.func21, Try.ntmps21
  go_upto_region 1 with fail
  clear hW
  go_cut [8] (fun s8 wx => s8 = .int .i64 r ∧ Bx wx w.heap.size #[.slice ac cs.length cc, .int .i64 L] 24 ∧ Bx wx (w.heap.size + 1) #[.int .i64 0, .int .i64 0, .int .i64 0] 33 ∧ Below W.heap.size W wx)
  case first =>
    cases a
    · simp only [Bool.false_and] at h3
      have hbw := (Below.refl W.heap.size W).drew
      have S0 := And.intro (x0.below hbw) (And.intro (x1.below hbw) hbw)
      clear x0 hbw x1
      refine wp_region_head 8 (fun w' => Bx w' w.heap.size #[.slice ac cs.length cc, .int .i64 L] 24 ∧ Bx w' (w.heap.size + 1) #[.int .i64 0, .int .i64 0, .int .i64 0] 33 ∧ Below W.heap.size W w') (by kernel_rfl) rfl ?_
      generalize W.drew = Y0 at *
      refine HeadAt.take (i := 0) (.agg #[.slice ac cs.length cc, .int .i64 L]) rfl (by kernel_rfl) (.inl ⟨rfl, fun w' z => ?_⟩) S0 ?_
      · (have z0 := z.1.cell 0 rfl; have z1 := z.1.cell 1 rfl; simp [go_sem, z0, z1])
      refine HeadAt.take (i := 1) (.int .i64 t) rfl (by kernel_rfl) (.inl ⟨rfl, fun _ _ => by simp [go_sem]⟩) S0 ?_
      (try simp only [Act.put, List.getElem_toArray, List.getElem_cons_succ, List.getElem_cons_zero, List.setIfInBounds_toArray, List.set_cons_succ, List.set_cons_zero])
      refine HeadAt.one (i := 2) rfl (by kernel_rfl) ?_
      generalize hK : Upto _ _ = K0
      (try simp only [Act.put, List.getElem_toArray, List.getElem_cons_succ, List.getElem_cons_zero, List.setIfInBounds_toArray, List.set_cons_succ, List.set_cons_zero])
      go_wp2_with fail
      refine (h1 _).mono ?_
      rintro e V1 ⟨rfl, hb1⟩
      replace S0 := And.intro (S0.1.below hb1) (And.intro (S0.2.1.below hb1) (S0.2.2.trans (hb1.mono S0.2.2.size)))
      go_wp2_with fail
      subst hK
      refine ⟨S0, ?_⟩
      (try simp only [Act.put, List.getElem_toArray, List.getElem_cons_succ, List.getElem_cons_zero, List.setIfInBounds_toArray, List.set_cons_succ, List.set_cons_zero])
      refine HeadAt.take (i := 3) (.bool false) rfl (by kernel_rfl) (.inl ⟨rfl, fun _ _ => by simp [go_sem]⟩) S0 ?_
      (try simp only [Act.put, List.getElem_toArray, List.getElem_cons_succ, List.getElem_cons_zero, List.setIfInBounds_toArray, List.set_cons_succ, List.set_cons_zero])
      refine HeadAt.take (i := 4) undef rfl (by kernel_rfl) (.inr ⟨by kernel_rfl, rfl⟩) S0 ?_
      (try simp only [Act.put, List.getElem_toArray, List.getElem_cons_succ, List.getElem_cons_zero, List.setIfInBounds_toArray, List.set_cons_succ, List.set_cons_zero])
      refine HeadAt.take (i := 5) undef rfl (by kernel_rfl) (.inr ⟨by kernel_rfl, rfl⟩) S0 ?_
      (try simp only [Act.put, List.getElem_toArray, List.getElem_cons_succ, List.getElem_cons_zero, List.setIfInBounds_toArray, List.set_cons_succ, List.set_cons_zero])
      refine HeadAt.take (i := 6) (.bool false) rfl (by kernel_rfl) (.inl ⟨rfl, fun _ _ => by simp [go_sem]⟩) S0 ?_
      (try simp only [Act.put, List.getElem_toArray, List.getElem_cons_succ, List.getElem_cons_zero, List.setIfInBounds_toArray, List.set_cons_succ, List.set_cons_zero])
      refine HeadAt.one (i := 7) rfl (by kernel_rfl) ?_
      generalize hK : Upto _ _ = K0
      (try simp only [Act.put, List.getElem_toArray, List.getElem_cons_succ, List.getElem_cons_zero, List.setIfInBounds_toArray, List.set_cons_succ, List.set_cons_zero])
      go_wp2_with fail
      refine (h3 _ S0.2.2).mono ?_
      rintro e V2 ⟨rfl, hb2⟩
      replace S0 := And.intro (S0.1.below hb2) (And.intro (S0.2.1.below hb2) (S0.2.2.trans (hb2.mono S0.2.2.size)))
      go_wp2_with fail
      subst hK
      refine ⟨S0, ?_⟩
      (try simp only [Act.put, List.getElem_toArray, List.getElem_cons_succ, List.getElem_cons_zero, List.setIfInBounds_toArray, List.set_cons_succ, List.set_cons_zero])
      refine HeadAt.done (by kernel_rfl) ?_
      (try simp only [Act.put, List.drop_succ_cons, List.drop_zero, List.getElem_toArray, List.getElem_cons_succ, List.getElem_cons_zero])
      go_wp2_with fail
      refine NoPanic.normal ?_
      go_wp2_with fail
      go_meet
      exact ⟨rfl, S0⟩
    · simp only [Bool.true_and] at h3
      have c0 := x0.ext 0 rfl; have c1 := x0.ext 1 rfl
      refine wp_region_ext_lit (by kernel_rfl) (by kernel_rfl) ?_
      iterate 4 (quiet_step (first | (go_at_call 51; exact quiet_ext (h1 _))))
      repeat (quiet_step (first | (go_at_call 51; exact quiet_ext (h2 _)) | (go_at_call 50; exact quiet_ext (h3 _ (Ext.below _)))))
      refine wpQuiet_nil ?_
      intro _ hw'
      obtain ⟨tt, rfl⟩ := hw'
      have hbt := tt.below
      go_wp2_with fail
      go_meet
      exact ⟨rfl, x0.below hbt, x1.below hbt, hbt⟩
  case rest =>
    clear x0 h1 h2 h3 x1
    obtain ⟨rfl, x0, x1, hbw⟩ := hcut
    clear hX1 hs
    replace hb := hb.trans (hbw.mono hb.size)
    have c0 := x1.cell 0 rfl; have c1 := x1.cell 1 rfl; have c2 := x1.cell 2 rfl
    have f0 := x1.free 0; have f1 := x1.free 1; have f2 := x1.free 2
    have z1 := x1.set3 (.int .i64 0) (.int .i64 0) (.int .i64 0)
    have hb3 := below_put3 hb (b := w.heap.size + 1) (by omega) (.int .i64 0) (.int .i64 0) (.int .i64 0)
    have HZ := hid (And.intro z1 hb3)
    clear z1 hb3 x1 hb hbw x0
    go_wp2_with fail
    obtain ⟨z1, hb3⟩ := HZ.out
    clear HZ
    generalize World.setCell _ _ _ = VV at *
    have k0 := z1.cell 0 rfl; have k1 := z1.cell 1 rfl; have k2 := z1.cell 2 rfl
    refine bodyPost_ret (v := .tuple #[.agg #[.int .i64 0, .int .i64 0, .int .i64 0], .int .i64 r]) ?_ rfl ⟨rfl, hb3⟩
    simp [results, Try.results21, go_sem, k0, k1, k2]
set_option maxRecDepth 100000 in
set_option maxHeartbeats 4000000 in
theorem Gift_ok (ac : Option Addr) (cc : Nat) (cs : List Cl) (L : Int) (t g : Int) (w : World) (hX : Clz w ac cs) (hv : shB cs L = true) (ht : cenB t = true) (hg : cenB g = true) (u : Wk) (hu : u = giftW L cs t g) : Calls Try.prog 21 #[.agg #[.slice ac cs.length cc, .int .i64 L], .int .i64 t, .int .i64 g] w fun e w' => e = .returned (.tuple #[.agg #[.int .i64 u.op, .int .i64 u.ow, .int .i64 u.rp], .int .i64 0]) ∧ Below w.heap.size w w' := by
  have ho := Ok.of hv ht
  have hr : (0 : Int) = askE cs L (cenB t && cenB g) := by rw [ht, hg]; unfold askE; rw [hv]; rfl
  have htb := cenB_iff.1 ht
  have hgb := cenB_iff.1 hg
  obtain ⟨r, hr0⟩ : ∃ r : Int, r = 0 := ⟨_, rfl⟩
  rw [← hr0] at hr
  have HR0 := hid hr0
  clear hr0
  obtain ⟨u1, hu1⟩ : ∃ u1, u1 = payOw (beginW L t) (min g t) := ⟨_, rfl⟩
  obtain ⟨u2, hu2⟩ : ∃ u2, u2 = behindW u1 cs := ⟨_, rfl⟩
  have hi1 : Inv t L u1 := by rw [hu1]; exact Inv.gift htb.1 ho.L.1 hgb.1
  have hi2 : Inv t L u2 := by rw [hu2]; exact hi1.behind ho.cs
  have q1 := fun (V : World) => begin_any ac cc cs.length L t V
  have hib := (Inv.begin (T := t) (L := L) htb.1 ho.L.1).wb ho.t.2 ho.L.2
  have q2 := fun (V : World) => pay_any (beginW L t) (min g t) 2 (.inr (.inr rfl)) hib ⟨by omega, by omega⟩ V u1 (by rw [hu1]; simp [payW])
  have q3 := fun (V : World) (hh : Clz V ac cs) => behind_any t L ho.t.2 ho.L.2 u1 hi1 ac cc cs ho.cs V hh u2 hu2
  have q4 := fun (V : World) => end_any u2 (hi2.wb ho.t.2 ho.L.2) V u (by rw [hu, hu2, hu1]; rfl)
  simp only [beginW] at q2
  have hwf := week_f u.op u.ow u.rp u.rest u.owed
  have hmin : (g ≤ t ∧ min g t = g) ∨ (t < g ∧ min g t = t) := by omega
  clear hu hu1 hu2 hi1 hi2 hib ho htb hgb ht hg hv
  obtain ⟨W, hW, hb, hs, x0, x1⟩ := boxes2 w #[.slice ac cs.length cc, .int .i64 L] 24 #[.int .i64 0, .int .i64 0, .int .i64 0] 33
  have hX1 := hX.below hb (Nat.le_refl _)
  have h1 := fun (V : World) => (isCents_any t V).mono (fun e w' h => And.intro h.1 (Below.of_eq (B := V.heap.size) h.2))
  have h2 := fun (V : World) => (isCents_any g V).mono (fun e w' h => And.intro h.1 (Below.of_eq (B := V.heap.size) h.2))
  have h3 := fun (V : World) (hh : Below W.heap.size W V) => check_any ac cc cs L (cenB t && cenB g) V (hX1.below hh (Nat.le_refl _))
  rw [← hr] at h3
  obtain ⟨a, ha⟩ : ∃ a, a = cenB t := ⟨_, rfl⟩
  obtain ⟨b, hbb⟩ : ∃ b, b = cenB g := ⟨_, rfl⟩
  rw [← ha] at h1 h3; rw [← hbb] at h2 h3
  have HA := hid ha; have HB := hid hbb; have HR := hid hr
  clear ha hbb hr
  go_enter Try.func21, Try.ntmps21
  go_upto_region 1 with fail
  clear hW
  go_cut [8] (fun s8 wx => s8 = .int .i64 r ∧ Bx wx w.heap.size #[.slice ac cs.length cc, .int .i64 L] 24 ∧ Bx wx (w.heap.size + 1) #[.int .i64 0, .int .i64 0, .int .i64 0] 33 ∧ Below W.heap.size W wx)
  case first =>
    cases a
    · simp only [Bool.false_and] at h3
      have hbw := (Below.refl W.heap.size W).drew
      have S0 := And.intro (x0.below hbw) (And.intro (x1.below hbw) hbw)
      clear x0 hbw x1
      refine wp_region_head 8 (fun w' => Bx w' w.heap.size #[.slice ac cs.length cc, .int .i64 L] 24 ∧ Bx w' (w.heap.size + 1) #[.int .i64 0, .int .i64 0, .int .i64 0] 33 ∧ Below W.heap.size W w') (by kernel_rfl) rfl ?_
      generalize W.drew = Y0 at *
      refine HeadAt.take (i := 0) (.agg #[.slice ac cs.length cc, .int .i64 L]) rfl (by kernel_rfl) (.inl ⟨rfl, fun w' z => ?_⟩) S0 ?_
      · (have z0 := z.1.cell 0 rfl; have z1 := z.1.cell 1 rfl; simp [go_sem, z0, z1])
      refine HeadAt.take (i := 1) (.int .i64 t) rfl (by kernel_rfl) (.inl ⟨rfl, fun _ _ => by simp [go_sem]⟩) S0 ?_
      (try simp only [Act.put, List.getElem_toArray, List.getElem_cons_succ, List.getElem_cons_zero, List.setIfInBounds_toArray, List.set_cons_succ, List.set_cons_zero])
      refine HeadAt.one (i := 2) rfl (by kernel_rfl) ?_
      generalize hK : Upto _ _ = K0
      (try simp only [Act.put, List.getElem_toArray, List.getElem_cons_succ, List.getElem_cons_zero, List.setIfInBounds_toArray, List.set_cons_succ, List.set_cons_zero])
      go_wp2_with fail
      refine (h1 _).mono ?_
      rintro e V1 ⟨rfl, hb1⟩
      replace S0 := And.intro (S0.1.below hb1) (And.intro (S0.2.1.below hb1) (S0.2.2.trans (hb1.mono S0.2.2.size)))
      go_wp2_with fail
      subst hK
      refine ⟨S0, ?_⟩
      (try simp only [Act.put, List.getElem_toArray, List.getElem_cons_succ, List.getElem_cons_zero, List.setIfInBounds_toArray, List.set_cons_succ, List.set_cons_zero])
      refine HeadAt.take (i := 3) (.bool false) rfl (by kernel_rfl) (.inl ⟨rfl, fun _ _ => by simp [go_sem]⟩) S0 ?_
      (try simp only [Act.put, List.getElem_toArray, List.getElem_cons_succ, List.getElem_cons_zero, List.setIfInBounds_toArray, List.set_cons_succ, List.set_cons_zero])
      refine HeadAt.take (i := 4) undef rfl (by kernel_rfl) (.inr ⟨by kernel_rfl, rfl⟩) S0 ?_
      (try simp only [Act.put, List.getElem_toArray, List.getElem_cons_succ, List.getElem_cons_zero, List.setIfInBounds_toArray, List.set_cons_succ, List.set_cons_zero])
      refine HeadAt.take (i := 5) undef rfl (by kernel_rfl) (.inr ⟨by kernel_rfl, rfl⟩) S0 ?_
      (try simp only [Act.put, List.getElem_toArray, List.getElem_cons_succ, List.getElem_cons_zero, List.setIfInBounds_toArray, List.set_cons_succ, List.set_cons_zero])
      refine HeadAt.take (i := 6) (.bool false) rfl (by kernel_rfl) (.inl ⟨rfl, fun _ _ => by simp [go_sem]⟩) S0 ?_
      (try simp only [Act.put, List.getElem_toArray, List.getElem_cons_succ, List.getElem_cons_zero, List.setIfInBounds_toArray, List.set_cons_succ, List.set_cons_zero])
      refine HeadAt.one (i := 7) rfl (by kernel_rfl) ?_
      generalize hK : Upto _ _ = K0
      (try simp only [Act.put, List.getElem_toArray, List.getElem_cons_succ, List.getElem_cons_zero, List.setIfInBounds_toArray, List.set_cons_succ, List.set_cons_zero])
      go_wp2_with fail
      refine (h3 _ S0.2.2).mono ?_
      rintro e V2 ⟨rfl, hb2⟩
      replace S0 := And.intro (S0.1.below hb2) (And.intro (S0.2.1.below hb2) (S0.2.2.trans (hb2.mono S0.2.2.size)))
      go_wp2_with fail
      subst hK
      refine ⟨S0, ?_⟩
      (try simp only [Act.put, List.getElem_toArray, List.getElem_cons_succ, List.getElem_cons_zero, List.setIfInBounds_toArray, List.set_cons_succ, List.set_cons_zero])
      refine HeadAt.done (by kernel_rfl) ?_
      (try simp only [Act.put, List.drop_succ_cons, List.drop_zero, List.getElem_toArray, List.getElem_cons_succ, List.getElem_cons_zero])
      go_wp2_with fail
      refine NoPanic.normal ?_
      go_wp2_with fail
      go_meet
      exact ⟨rfl, S0⟩
    · simp only [Bool.true_and] at h3
      have c0 := x0.ext 0 rfl; have c1 := x0.ext 1 rfl
      refine wp_region_ext_lit (by kernel_rfl) (by kernel_rfl) ?_
      iterate 4 (quiet_step (first | (go_at_call 51; exact quiet_ext (h1 _))))
      repeat (quiet_step (first | (go_at_call 51; exact quiet_ext (h2 _)) | (go_at_call 50; exact quiet_ext (h3 _ (Ext.below _)))))
      refine wpQuiet_nil ?_
      intro _ hw'
      obtain ⟨tt, rfl⟩ := hw'
      have hbt := tt.below
      go_wp2_with fail
      go_meet
      exact ⟨rfl, x0.below hbt, x1.below hbt, hbt⟩
  case rest =>
    clear x0 h1 h2 h3 x1
    obtain ⟨rfl, x0, x1, hbw⟩ := hcut
    replace hb := hb.trans (hbw.mono hb.size)
    have hX2 := hX1.below hbw (Nat.le_refl _)
    obtain rfl := HR0.out
    clear hX1 hs hbw
    rcases hmin with ⟨hle, he⟩ | ⟨hle, he⟩
    · rw [he] at q2
      clear he
      have c0 := x0.cell 0 rfl; have c1 := x0.cell 1 rfl
      go_wp2_with fail
      refine (q1 _).mono ?_
      rintro e V1 ⟨rfl, hb1⟩
      clear c0 c1 q1
      replace x0 := x0.below hb1; replace x1 := x1.below hb1; replace hX2 := hX2.below hb1 (Nat.le_refl _); replace hb := hb.trans (hb1.mono hb.size)
      clear hb1
      go_wp2_with fail
      refine (q2 _).mono ?_
      rintro e V2 ⟨rfl, hb1⟩
      replace x0 := x0.below hb1; replace x1 := x1.below hb1; replace hX2 := hX2.below hb1 (Nat.le_refl _); replace hb := hb.trans (hb1.mono hb.size)
      clear hb1 q2
      have y2 := Bx.new V2 #[.int .i64 u1.op, .int .i64 u1.ow, .int .i64 u1.rp, .int .i64 u1.rest, .int .i64 u1.owed] 70
      have hba := below_one (w := V2) (.cells #[.int .i64 u1.op, .int .i64 u1.ow, .int .i64 u1.rp, .int .i64 u1.rest, .int .i64 u1.owed] 70)
      have HX := hid (And.intro (x0.below hba) (And.intro (x1.below hba) (And.intro (hX2.below hba (Nat.le_refl _)) (And.intro (hb.trans (hba.mono hb.size)) y2))))
      clear y2 hba x0 x1 hX2 hb
      go_upto_region 5 with fail
      obtain ⟨x0, x1, hX2, hb, y2⟩ := HX.out
      clear HX
      generalize V2.heap.size = gb at *
      generalize V2.alloc _ = V3 at *
      have c0 := x0.cell 0 rfl; have c1 := x0.cell 1 rfl
      have d0 := y2.cell 0 rfl; have d1 := y2.cell 1 rfl; have d2 := y2.cell 2 rfl; have d3 := y2.cell 3 rfl; have d4 := y2.cell 4 rfl
      go_wp2_with fail
      refine (q3 _ hX2).mono ?_
      rintro e V4 ⟨rfl, hb1⟩
      replace x1 := x1.below hb1; replace hb := hb.trans (hb1.mono hb.size)
      clear hb1 q3 hX2 x0 y2 c0 c1 d0 d1 d2 d3 d4
      go_wp2_with fail
      refine (q4 _).mono ?_
      rintro e V5 ⟨rfl, hb1⟩
      replace x1 := x1.below hb1; replace hb := hb.trans (hb1.mono hb.size)
      have hf0 := fun W => (hwf W).1
      clear hb1 q4 hwf
      have c0 := x1.cell 0 rfl; have c1 := x1.cell 1 rfl; have c2 := x1.cell 2 rfl
      have f0 := x1.free 0; have f1 := x1.free 1; have f2 := x1.free 2
      have z1 := x1.set3 (.int .i64 u.op) (.int .i64 u.ow) (.int .i64 u.rp)
      have hb3 := below_put3 hb (b := w.heap.size + 1) (by omega) (.int .i64 u.op) (.int .i64 u.ow) (.int .i64 u.rp)
      have HZ := hid (And.intro z1 hb3)
      clear z1 hb3 x1 hb
      go_wp2_with fail
      obtain ⟨z1, hb3⟩ := HZ.out
      clear HZ
      generalize World.setCell _ _ _ = VV at *
      have k0 := z1.cell 0 rfl; have k1 := z1.cell 1 rfl; have k2 := z1.cell 2 rfl
      refine bodyPost_ret (v := .tuple #[.agg #[.int .i64 u.op, .int .i64 u.ow, .int .i64 u.rp], .int .i64 0]) ?_ rfl ⟨rfl, hb3⟩
      simp [results, Try.results21, go_sem, k0, k1, k2]
    · rw [he] at q2
      clear he
      have c0 := x0.cell 0 rfl; have c1 := x0.cell 1 rfl
      go_wp2_with fail
      refine (q1 _).mono ?_
      rintro e V1 ⟨rfl, hb1⟩
      clear c0 c1 q1
      replace x0 := x0.below hb1; replace x1 := x1.below hb1; replace hX2 := hX2.below hb1 (Nat.le_refl _); replace hb := hb.trans (hb1.mono hb.size)
      clear hb1
      go_wp2_with fail
      refine (q2 _).mono ?_
      rintro e V2 ⟨rfl, hb1⟩
      replace x0 := x0.below hb1; replace x1 := x1.below hb1; replace hX2 := hX2.below hb1 (Nat.le_refl _); replace hb := hb.trans (hb1.mono hb.size)
      clear hb1 q2
      have y2 := Bx.new V2 #[.int .i64 u1.op, .int .i64 u1.ow, .int .i64 u1.rp, .int .i64 u1.rest, .int .i64 u1.owed] 70
      have hba := below_one (w := V2) (.cells #[.int .i64 u1.op, .int .i64 u1.ow, .int .i64 u1.rp, .int .i64 u1.rest, .int .i64 u1.owed] 70)
      have HX := hid (And.intro (x0.below hba) (And.intro (x1.below hba) (And.intro (hX2.below hba (Nat.le_refl _)) (And.intro (hb.trans (hba.mono hb.size)) y2))))
      clear y2 hba x0 x1 hX2 hb
      go_upto_region 5 with fail
      obtain ⟨x0, x1, hX2, hb, y2⟩ := HX.out
      clear HX
      generalize V2.heap.size = gb at *
      generalize V2.alloc _ = V3 at *
      have c0 := x0.cell 0 rfl; have c1 := x0.cell 1 rfl
      have d0 := y2.cell 0 rfl; have d1 := y2.cell 1 rfl; have d2 := y2.cell 2 rfl; have d3 := y2.cell 3 rfl; have d4 := y2.cell 4 rfl
      go_wp2_with fail
      refine (q3 _ hX2).mono ?_
      rintro e V4 ⟨rfl, hb1⟩
      replace x1 := x1.below hb1; replace hb := hb.trans (hb1.mono hb.size)
      clear hb1 q3 hX2 x0 y2 c0 c1 d0 d1 d2 d3 d4
      go_wp2_with fail
      refine (q4 _).mono ?_
      rintro e V5 ⟨rfl, hb1⟩
      replace x1 := x1.below hb1; replace hb := hb.trans (hb1.mono hb.size)
      have hf0 := fun W => (hwf W).1
      clear hb1 q4 hwf
      have c0 := x1.cell 0 rfl; have c1 := x1.cell 1 rfl; have c2 := x1.cell 2 rfl
      have f0 := x1.free 0; have f1 := x1.free 1; have f2 := x1.free 2
      have z1 := x1.set3 (.int .i64 u.op) (.int .i64 u.ow) (.int .i64 u.rp)
      have hb3 := below_put3 hb (b := w.heap.size + 1) (by omega) (.int .i64 u.op) (.int .i64 u.ow) (.int .i64 u.rp)
      have HZ := hid (And.intro z1 hb3)
      clear z1 hb3 x1 hb
      go_wp2_with fail
      obtain ⟨z1, hb3⟩ := HZ.out
      clear HZ
      generalize World.setCell _ _ _ = VV at *
      have k0 := z1.cell 0 rfl; have k1 := z1.cell 1 rfl; have k2 := z1.cell 2 rfl
      refine bodyPost_ret (v := .tuple #[.agg #[.int .i64 u.op, .int .i64 u.ow, .int .i64 u.rp], .int .i64 0]) ?_ rfl ⟨rfl, hb3⟩
      simp [results, Try.results21, go_sem, k0, k1, k2]
end Go.Proofs.Ythgjjlkdekfdbaa
