import Derived.Test.YthgjjlkdekfdbaaT9
import Derived.Test.YthgjjlkdekfdbaaQ5
/-! Gives. -/
namespace Go.Proofs.Ythgjjlkdekfdbaa
set_option linter.unusedSimpArgs false
set_option linter.unusedVariables false
open Go Go.RowKit

theorem Clz.take {w : World} {a : Option Addr} {xs : List Cl} (h : Clz w a xs) (j : Nat) : Clz w a (xs.take j) := by
  obtain ⟨h1, h2, h3⟩ := h
  refine ⟨by rw [List.length_take]; omega, fun x hx => h2 x (List.mem_of_mem_take hx), fun i hi => ?_⟩
  rw [List.length_take] at hi
  obtain ⟨b, off, ha, hb, hc⟩ := h3 i (by omega)
  refine ⟨b, off, ha, hb, ?_⟩
  have e : (xs.take j).getD i cl0 = xs.getD i cl0 := by
    rw [List.getD_eq_getElem?_getD, List.getD_eq_getElem?_getD, List.getElem?_take, if_pos (by omega)]
  rw [e]; exact hc
/-- What a clause gives of a week. -/
def givesC (L : Int) (cs : List Cl) (t : Int) (j : Nat) : Int := givesW (behindW (beginW L t) (cs.take j)) (cs.getD j cl0)
def givF (s0 : Nat) (u0 u : Wk) : Nat → Value → World → Prop
  | 2, v, _ => v = .agg #[.int .i64 u0.op, .int .i64 u0.ow, .int .i64 u0.rp, .int .i64 u0.rest, .int .i64 u0.owed]
  | 7, v, _ => v = .agg #[.int .i64 u.op, .int .i64 u.ow, .int .i64 u.rp, .int .i64 u.rest, .int .i64 u.owed]
  | 8, v, w' => ∃ g, v = .pointer (some ⟨g, 0, none⟩) ∧ s0 < g ∧ Bx w' g #[.int .i64 0, .int .i64 0, .int .i64 0, .int .i64 0, .int .i64 0] 70
  | _, _, _ => True
theorem givF_below (s0 : Nat) (u0 u : Wk) (j : Nat) (v : Value) (w1 w2 : World) (h : givF s0 u0 u j v w1) (hb : Below w1.heap.size w1 w2) : givF s0 u0 u j v w2 := by
  unfold givF at h ⊢
  split at h
  · exact h
  · exact h
  · obtain ⟨g, e, h1, h2⟩ := h; exact ⟨g, e, h1, h2.below hb⟩
  · trivial
def givS (w : World) (s0 : Nat) (ac : Option Addr) (cc : Nat) (cs : List Cl) (L : Int) (w' : World) : Prop := s0 < w'.heap.size ∧ Bx w' s0 #[.slice ac cs.length cc, .int .i64 L] 24 ∧ Clz w' ac cs ∧ Below s0 w w'
theorem givS_below {w : World} {s0 : Nat} {ac : Option Addr} {cc : Nat} {cs : List Cl} {L : Int} {w1 w2 : World} (h : givS w s0 ac cc cs L w1) (hb : Below w1.heap.size w1 w2) : givS w s0 ac cc cs L w2 :=
  ⟨Nat.lt_of_lt_of_le h.1 hb.size, h.2.1.below hb, h.2.2.1.below hb (Nat.le_refl _), h.2.2.2.trans (hb.mono (Nat.le_of_lt h.1))⟩

set_option maxRecDepth 100000 in
set_option maxHeartbeats 4000000 in
theorem Gives_bad (ac : Option Addr) (cc : Nat) (cs : List Cl) (L : Int) (t n : Int) (w : World) (hX : Clz w ac cs) (r : Int) (hr : r = askE cs L (cenB t && hasB cs n)) (h0 : r ≠ 0) : Calls Try.prog 23 #[.agg #[.slice ac cs.length cc, .int .i64 L], .int .i64 t, .int .i64 n] w fun e w' => e = .returned (.tuple #[.int .i64 0, .int .i64 r]) ∧ Below w.heap.size w w' := by
  obtain ⟨W, hW, hb, hs, x0⟩ := boxes1 w #[.slice ac cs.length cc, .int .i64 L] 24
  have hX1 := hX.below hb (Nat.le_refl _)
  have h1 := fun (V : World) => (isCents_any t V).mono (fun e w' h => And.intro h.1 (Below.of_eq (B := V.heap.size) h.2))
  have h2 := fun (V : World) => hasClause_any ac cc cs L n V hX.len
  have h3 := fun (V : World) (hh : Below W.heap.size W V) => check_any ac cc cs L (cenB t && hasB cs n) V (hX1.below hh (Nat.le_refl _))
  rw [← hr] at h3
  obtain ⟨a, ha⟩ : ∃ a, a = cenB t := ⟨_, rfl⟩
  obtain ⟨b, hbb⟩ : ∃ b, b = hasB cs n := ⟨_, rfl⟩
  rw [← ha] at h1 h3; rw [← hbb] at h2 h3
  have HA := hid ha; have HB := hid hbb; have HR := hid hr
  clear ha hbb hr
  clear hX hs
  go_enter Try.func23, Try.ntmps23
  go_upto_region 1 with fail
  clear hW
  go_cut [8] (fun s8 wx => s8 = .int .i64 r ∧ Bx wx w.heap.size #[.slice ac cs.length cc, .int .i64 L] 24 ∧ Below W.heap.size W wx)
  case first =>
    cases a
    · simp only [Bool.false_and] at h3
      have hbw := (Below.refl W.heap.size W).drew
      have S0 := And.intro (x0.below hbw) hbw
      clear x0 hbw
      refine wp_region_head 9 (fun w' => Bx w' w.heap.size #[.slice ac cs.length cc, .int .i64 L] 24 ∧ Below W.heap.size W w') (by kernel_rfl) rfl ?_
      generalize W.drew = Y0 at *
      refine HeadAt.take (i := 0) (.agg #[.slice ac cs.length cc, .int .i64 L]) rfl (by kernel_rfl) (.inl ⟨rfl, fun w' z => ?_⟩) S0 ?_
      · (have z0 := z.1.cell 0 rfl; have z1 := z.1.cell 1 rfl; simp [go_sem, z0, z1])
      refine HeadAt.take (i := 1) (.int .i64 t) rfl (by kernel_rfl) (.inl ⟨rfl, fun _ _ => by simp [go_sem]⟩) S0 ?_
      (try simp only [Act.put, List.getElem_toArray, List.getElem_cons_succ, List.getElem_cons_zero, List.setIfInBounds_toArray, List.set_cons_succ, List.set_cons_zero])
      refine HeadAt.one (i := 2) rfl (by kernel_rfl) ?_
      generalize hK : Upto _ _ = K0
      (try simp only [Act.put, List.getElem_toArray, List.getElem_cons_succ, List.getElem_cons_zero, List.setIfInBounds_toArray, List.set_cons_succ, List.set_cons_zero])
      go_wp2_with fail
      refine (h1 _).mono ?_
      rintro e V1 ⟨rfl, hb1⟩
      replace S0 := And.intro (S0.1.below hb1) (S0.2.trans (hb1.mono S0.2.size))
      go_wp2_with fail
      subst hK
      refine ⟨S0, ?_⟩
      (try simp only [Act.put, List.getElem_toArray, List.getElem_cons_succ, List.getElem_cons_zero, List.setIfInBounds_toArray, List.set_cons_succ, List.set_cons_zero])
      refine HeadAt.take (i := 3) (.bool false) rfl (by kernel_rfl) (.inl ⟨rfl, fun _ _ => by simp [go_sem]⟩) S0 ?_
      (try simp only [Act.put, List.getElem_toArray, List.getElem_cons_succ, List.getElem_cons_zero, List.setIfInBounds_toArray, List.set_cons_succ, List.set_cons_zero])
      refine HeadAt.take (i := 4) undef rfl (by kernel_rfl) (.inr ⟨by kernel_rfl, rfl⟩) S0 ?_
      (try simp only [Act.put, List.getElem_toArray, List.getElem_cons_succ, List.getElem_cons_zero, List.setIfInBounds_toArray, List.set_cons_succ, List.set_cons_zero])
      refine HeadAt.take (i := 5) undef rfl (by kernel_rfl) (.inr ⟨by kernel_rfl, rfl⟩) S0 ?_
      (try simp only [Act.put, List.getElem_toArray, List.getElem_cons_succ, List.getElem_cons_zero, List.setIfInBounds_toArray, List.set_cons_succ, List.set_cons_zero])
      refine HeadAt.take (i := 6) undef rfl (by kernel_rfl) (.inr ⟨by kernel_rfl, rfl⟩) S0 ?_
      (try simp only [Act.put, List.getElem_toArray, List.getElem_cons_succ, List.getElem_cons_zero, List.setIfInBounds_toArray, List.set_cons_succ, List.set_cons_zero])
      refine HeadAt.take (i := 7) (.bool false) rfl (by kernel_rfl) (.inl ⟨rfl, fun _ _ => by simp [go_sem]⟩) S0 ?_
      (try simp only [Act.put, List.getElem_toArray, List.getElem_cons_succ, List.getElem_cons_zero, List.setIfInBounds_toArray, List.set_cons_succ, List.set_cons_zero])
      refine HeadAt.one (i := 8) rfl (by kernel_rfl) ?_
      generalize hK : Upto _ _ = K0
      (try simp only [Act.put, List.getElem_toArray, List.getElem_cons_succ, List.getElem_cons_zero, List.setIfInBounds_toArray, List.set_cons_succ, List.set_cons_zero])
      go_wp2_with fail
      refine (h3 _ S0.2).mono ?_
      rintro e V2 ⟨rfl, hb2⟩
      replace S0 := And.intro (S0.1.below hb2) (S0.2.trans (hb2.mono S0.2.size))
      go_wp2_with fail
      subst hK
      refine ⟨S0, ?_⟩
      (try simp only [Act.put, List.getElem_toArray, List.getElem_cons_succ, List.getElem_cons_zero, List.setIfInBounds_toArray, List.set_cons_succ, List.set_cons_zero])
      refine HeadAt.done (by kernel_rfl) ?_
      (try simp only [Act.put, List.drop_succ_cons, List.drop_zero, List.getElem_toArray, List.getElem_cons_succ, List.getElem_cons_zero])
      go_wp2_with fail
      refine NoPanic.normal ?_
      go_wp2_with fail
      go_meet
      exact ⟨rfl, S0⟩
    · simp only [Bool.true_and] at h3
      have c0 := x0.ext 0 rfl; have c1 := x0.ext 1 rfl
      refine wp_region_ext_lit (by kernel_rfl) (by kernel_rfl) ?_
      repeat (quiet_step (first | (go_at_call 51; exact quiet_ext (h1 _)) | (go_at_call 59; exact quiet_ext (h2 _)) | (go_at_call 50; exact quiet_ext (h3 _ (Ext.below _)))))
      refine wpQuiet_nil ?_
      intro _ hw'
      obtain ⟨tt, rfl⟩ := hw'
      have hbt := tt.below
      go_wp2_with fail
      go_meet
      exact ⟨rfl, x0.below hbt, hbt⟩
  case rest =>
    clear x0 h1 h2 h3
    obtain ⟨rfl, x0, hbw⟩ := hcut
    replace hb := hb.trans (hbw.mono hb.size)
    go_wp2
    go_ret2
    exact ⟨rfl, hb⟩
set_option maxRecDepth 100000 in
set_option maxHeartbeats 4000000 in
theorem Without_bad (ac : Option Addr) (cc : Nat) (cs : List Cl) (L : Int) (t n : Int) (w : World) (hX : Clz w ac cs) (r : Int) (hr : r = askE cs L (cenB t && hasB cs n)) (h0 : r ≠ 0) : Calls Try.prog 25 #[.agg #[.slice ac cs.length cc, .int .i64 L], .int .i64 t, .int .i64 n] w fun e w' => e = .returned (.tuple #[.int .i64 0, .int .i64 r]) ∧ Below w.heap.size w w' := by
  obtain ⟨W, hW, hb, hs, x0⟩ := boxes1 w #[.slice ac cs.length cc, .int .i64 L] 24
  have hX1 := hX.below hb (Nat.le_refl _)
  have h1 := fun (V : World) => (isCents_any t V).mono (fun e w' h => And.intro h.1 (Below.of_eq (B := V.heap.size) h.2))
  have h2 := fun (V : World) => hasClause_any ac cc cs L n V hX.len
  have h3 := fun (V : World) (hh : Below W.heap.size W V) => check_any ac cc cs L (cenB t && hasB cs n) V (hX1.below hh (Nat.le_refl _))
  rw [← hr] at h3
  obtain ⟨a, ha⟩ : ∃ a, a = cenB t := ⟨_, rfl⟩
  obtain ⟨b, hbb⟩ : ∃ b, b = hasB cs n := ⟨_, rfl⟩
  rw [← ha] at h1 h3; rw [← hbb] at h2 h3
  have HA := hid ha; have HB := hid hbb; have HR := hid hr
  clear ha hbb hr
  clear hX hs
  go_enter Try.func25, Try.ntmps25
  go_upto_region 1 with fail
  clear hW
  go_cut [8] (fun s8 wx => s8 = .int .i64 r ∧ Bx wx w.heap.size #[.slice ac cs.length cc, .int .i64 L] 24 ∧ Below W.heap.size W wx)
  case first =>
    cases a
    · simp only [Bool.false_and] at h3
      have hbw := (Below.refl W.heap.size W).drew
      have S0 := And.intro (x0.below hbw) hbw
      clear x0 hbw
      refine wp_region_head 9 (fun w' => Bx w' w.heap.size #[.slice ac cs.length cc, .int .i64 L] 24 ∧ Below W.heap.size W w') (by kernel_rfl) rfl ?_
      generalize W.drew = Y0 at *
      refine HeadAt.take (i := 0) (.agg #[.slice ac cs.length cc, .int .i64 L]) rfl (by kernel_rfl) (.inl ⟨rfl, fun w' z => ?_⟩) S0 ?_
      · (have z0 := z.1.cell 0 rfl; have z1 := z.1.cell 1 rfl; simp [go_sem, z0, z1])
      refine HeadAt.take (i := 1) (.int .i64 t) rfl (by kernel_rfl) (.inl ⟨rfl, fun _ _ => by simp [go_sem]⟩) S0 ?_
      (try simp only [Act.put, List.getElem_toArray, List.getElem_cons_succ, List.getElem_cons_zero, List.setIfInBounds_toArray, List.set_cons_succ, List.set_cons_zero])
      refine HeadAt.one (i := 2) rfl (by kernel_rfl) ?_
      generalize hK : Upto _ _ = K0
      (try simp only [Act.put, List.getElem_toArray, List.getElem_cons_succ, List.getElem_cons_zero, List.setIfInBounds_toArray, List.set_cons_succ, List.set_cons_zero])
      go_wp2_with fail
      refine (h1 _).mono ?_
      rintro e V1 ⟨rfl, hb1⟩
      replace S0 := And.intro (S0.1.below hb1) (S0.2.trans (hb1.mono S0.2.size))
      go_wp2_with fail
      subst hK
      refine ⟨S0, ?_⟩
      (try simp only [Act.put, List.getElem_toArray, List.getElem_cons_succ, List.getElem_cons_zero, List.setIfInBounds_toArray, List.set_cons_succ, List.set_cons_zero])
      refine HeadAt.take (i := 3) (.bool false) rfl (by kernel_rfl) (.inl ⟨rfl, fun _ _ => by simp [go_sem]⟩) S0 ?_
      (try simp only [Act.put, List.getElem_toArray, List.getElem_cons_succ, List.getElem_cons_zero, List.setIfInBounds_toArray, List.set_cons_succ, List.set_cons_zero])
      refine HeadAt.take (i := 4) undef rfl (by kernel_rfl) (.inr ⟨by kernel_rfl, rfl⟩) S0 ?_
      (try simp only [Act.put, List.getElem_toArray, List.getElem_cons_succ, List.getElem_cons_zero, List.setIfInBounds_toArray, List.set_cons_succ, List.set_cons_zero])
      refine HeadAt.take (i := 5) undef rfl (by kernel_rfl) (.inr ⟨by kernel_rfl, rfl⟩) S0 ?_
      (try simp only [Act.put, List.getElem_toArray, List.getElem_cons_succ, List.getElem_cons_zero, List.setIfInBounds_toArray, List.set_cons_succ, List.set_cons_zero])
      refine HeadAt.take (i := 6) undef rfl (by kernel_rfl) (.inr ⟨by kernel_rfl, rfl⟩) S0 ?_
      (try simp only [Act.put, List.getElem_toArray, List.getElem_cons_succ, List.getElem_cons_zero, List.setIfInBounds_toArray, List.set_cons_succ, List.set_cons_zero])
      refine HeadAt.take (i := 7) (.bool false) rfl (by kernel_rfl) (.inl ⟨rfl, fun _ _ => by simp [go_sem]⟩) S0 ?_
      (try simp only [Act.put, List.getElem_toArray, List.getElem_cons_succ, List.getElem_cons_zero, List.setIfInBounds_toArray, List.set_cons_succ, List.set_cons_zero])
      refine HeadAt.one (i := 8) rfl (by kernel_rfl) ?_
      generalize hK : Upto _ _ = K0
      (try simp only [Act.put, List.getElem_toArray, List.getElem_cons_succ, List.getElem_cons_zero, List.setIfInBounds_toArray, List.set_cons_succ, List.set_cons_zero])
      go_wp2_with fail
      refine (h3 _ S0.2).mono ?_
      rintro e V2 ⟨rfl, hb2⟩
      replace S0 := And.intro (S0.1.below hb2) (S0.2.trans (hb2.mono S0.2.size))
      go_wp2_with fail
      subst hK
      refine ⟨S0, ?_⟩
      (try simp only [Act.put, List.getElem_toArray, List.getElem_cons_succ, List.getElem_cons_zero, List.setIfInBounds_toArray, List.set_cons_succ, List.set_cons_zero])
      refine HeadAt.done (by kernel_rfl) ?_
      (try simp only [Act.put, List.drop_succ_cons, List.drop_zero, List.getElem_toArray, List.getElem_cons_succ, List.getElem_cons_zero])
      go_wp2_with fail
      refine NoPanic.normal ?_
      go_wp2_with fail
      go_meet
      exact ⟨rfl, S0⟩
    · simp only [Bool.true_and] at h3
      have c0 := x0.ext 0 rfl; have c1 := x0.ext 1 rfl
      refine wp_region_ext_lit (by kernel_rfl) (by kernel_rfl) ?_
      repeat (quiet_step (first | (go_at_call 51; exact quiet_ext (h1 _)) | (go_at_call 59; exact quiet_ext (h2 _)) | (go_at_call 50; exact quiet_ext (h3 _ (Ext.below _)))))
      refine wpQuiet_nil ?_
      intro _ hw'
      obtain ⟨tt, rfl⟩ := hw'
      have hbt := tt.below
      go_wp2_with fail
      go_meet
      exact ⟨rfl, x0.below hbt, hbt⟩
  case rest =>
    clear x0 h1 h2 h3
    obtain ⟨rfl, x0, hbw⟩ := hcut
    replace hb := hb.trans (hbw.mono hb.size)
    go_wp2
    go_ret2
    exact ⟨rfl, hb⟩
set_option maxRecDepth 100000 in
set_option maxHeartbeats 4000000 in
theorem Gives_ok (ac : Option Addr) (cc : Nat) (cs : List Cl) (L : Int) (t : Int) (j : Nat) (w : World) (hX : Clz w ac cs) (hv : shB cs L = true) (ht : cenB t = true) (hj : j < cs.length) (hcc : cs.length ≤ cc) (n : Int) (hn : n = (j : Int)) : Calls Try.prog 23 #[.agg #[.slice ac cs.length cc, .int .i64 L], .int .i64 t, .int .i64 n] w fun e w' => e = .returned (.tuple #[.int .i64 (givesC L cs t j), .int .i64 0]) ∧ Below w.heap.size w w' := by
  have hX0 := hX
  have ho := Ok.of hv ht
  have hr : (0 : Int) = askE cs L (cenB t && hasB cs n) := by
    rw [ht, show hasB cs n = true from inI_iff.2 (by omega)]; unfold askE; rw [hv]; rfl
  obtain ⟨r, hr0⟩ : ∃ r : Int, r = 0 := ⟨_, rfl⟩
  rw [← hr0] at hr
  have HR0 := hid hr0
  clear hr0
  obtain ⟨u, hu⟩ : ∃ u, u = behindW (beginW L t) (cs.take j) := ⟨_, rfl⟩
  obtain ⟨x, hx⟩ : ∃ x, cs[j]? = some x := ⟨_, List.getElem?_eq_getElem hj⟩
  have hxm : x ∈ cs := List.mem_of_getElem? hx
  have hib := Inv.begin (T := t) (L := L) ho.t.1 ho.L.1
  have hiu : Inv t L u := by rw [hu]; exact hib.behind (fun y hy => ho.cs y (List.mem_of_mem_take hy))
  have q1 := fun (V : World) => begin_any ac cc cs.length L t V
  have q2 := fun (V : World) (hh : Clz V ac cs) => behind_any t L ho.t.2 ho.L.2 (beginW L t) hib ac cc (cs.take j) (fun y hy => ho.cs y (List.mem_of_mem_take hy)) V (hh.take j) u hu
  have q3 := fun (V : World) => gives_any u x (hiu.wb ho.t.2 ho.L.2) (ho.cs x hxm) V
  have hgv : givesC L cs t j = givesW u x := by
    unfold givesC; rw [← hu, List.getD_eq_getElem?_getD, hx]; rfl
  rw [hgv]
  obtain ⟨gv, hgv2⟩ : ∃ g, g = givesW u x := ⟨_, rfl⟩
  rw [← hgv2] at q3 ⊢
  have htl : (cs.take j).length = j := by rw [List.length_take]; omega
  rw [htl] at q2
  have hle := hX.len
  have HAT := hid (show ∃ b off, ac = some ⟨b, off, none⟩ ∧ ∀ V, Clz V (some ⟨b, off, none⟩) cs → At4 V b (off + j * 4) x by
    obtain ⟨b, off, ha, _⟩ := hX.2.2 j hj
    refine ⟨b, off, ha, fun V hh => ?_⟩
    obtain ⟨b', off', ha', _, h4⟩ := hh.2.2 j hj
    cases ha'
    have e : cs.getD j cl0 = x := by rw [List.getD_eq_getElem?_getD, hx]; rfl
    rw [e] at h4
    exact h4)
  have HN := hid hn
  clear hu hib hiu ho hgv hgv2 hx hxm ht hv htl
  clear hn
  obtain ⟨W, hW, hb, hs, x0⟩ := boxes1 w #[.slice ac cs.length cc, .int .i64 L] 24
  have hX1 := hX.below hb (Nat.le_refl _)
  have h1 := fun (V : World) => (isCents_any t V).mono (fun e w' h => And.intro h.1 (Below.of_eq (B := V.heap.size) h.2))
  have h2 := fun (V : World) => hasClause_any ac cc cs L n V hX.len
  have h3 := fun (V : World) (hh : Below W.heap.size W V) => check_any ac cc cs L (cenB t && hasB cs n) V (hX1.below hh (Nat.le_refl _))
  rw [← hr] at h3
  obtain ⟨a, ha⟩ : ∃ a, a = cenB t := ⟨_, rfl⟩
  obtain ⟨b, hbb⟩ : ∃ b, b = hasB cs n := ⟨_, rfl⟩
  rw [← ha] at h1 h3; rw [← hbb] at h2 h3
  have HA := hid ha; have HB := hid hbb; have HR := hid hr
  clear ha hbb hr
  go_enter Try.func23, Try.ntmps23
  go_upto_region 1 with fail
  clear hW
  go_cut [8] (fun s8 wx => s8 = .int .i64 r ∧ Bx wx w.heap.size #[.slice ac cs.length cc, .int .i64 L] 24 ∧ Below W.heap.size W wx)
  case first =>
    cases a
    · simp only [Bool.false_and] at h3
      have hbw := (Below.refl W.heap.size W).drew
      have S0 := And.intro (x0.below hbw) hbw
      clear x0 hbw
      refine wp_region_head 9 (fun w' => Bx w' w.heap.size #[.slice ac cs.length cc, .int .i64 L] 24 ∧ Below W.heap.size W w') (by kernel_rfl) rfl ?_
      generalize W.drew = Y0 at *
      refine HeadAt.take (i := 0) (.agg #[.slice ac cs.length cc, .int .i64 L]) rfl (by kernel_rfl) (.inl ⟨rfl, fun w' z => ?_⟩) S0 ?_
      · (have z0 := z.1.cell 0 rfl; have z1 := z.1.cell 1 rfl; simp [go_sem, z0, z1])
      refine HeadAt.take (i := 1) (.int .i64 t) rfl (by kernel_rfl) (.inl ⟨rfl, fun _ _ => by simp [go_sem]⟩) S0 ?_
      (try simp only [Act.put, List.getElem_toArray, List.getElem_cons_succ, List.getElem_cons_zero, List.setIfInBounds_toArray, List.set_cons_succ, List.set_cons_zero])
      refine HeadAt.one (i := 2) rfl (by kernel_rfl) ?_
      generalize hK : Upto _ _ = K0
      (try simp only [Act.put, List.getElem_toArray, List.getElem_cons_succ, List.getElem_cons_zero, List.setIfInBounds_toArray, List.set_cons_succ, List.set_cons_zero])
      go_wp2_with fail
      refine (h1 _).mono ?_
      rintro e V1 ⟨rfl, hb1⟩
      replace S0 := And.intro (S0.1.below hb1) (S0.2.trans (hb1.mono S0.2.size))
      go_wp2_with fail
      subst hK
      refine ⟨S0, ?_⟩
      (try simp only [Act.put, List.getElem_toArray, List.getElem_cons_succ, List.getElem_cons_zero, List.setIfInBounds_toArray, List.set_cons_succ, List.set_cons_zero])
      refine HeadAt.take (i := 3) (.bool false) rfl (by kernel_rfl) (.inl ⟨rfl, fun _ _ => by simp [go_sem]⟩) S0 ?_
      (try simp only [Act.put, List.getElem_toArray, List.getElem_cons_succ, List.getElem_cons_zero, List.setIfInBounds_toArray, List.set_cons_succ, List.set_cons_zero])
      refine HeadAt.take (i := 4) undef rfl (by kernel_rfl) (.inr ⟨by kernel_rfl, rfl⟩) S0 ?_
      (try simp only [Act.put, List.getElem_toArray, List.getElem_cons_succ, List.getElem_cons_zero, List.setIfInBounds_toArray, List.set_cons_succ, List.set_cons_zero])
      refine HeadAt.take (i := 5) undef rfl (by kernel_rfl) (.inr ⟨by kernel_rfl, rfl⟩) S0 ?_
      (try simp only [Act.put, List.getElem_toArray, List.getElem_cons_succ, List.getElem_cons_zero, List.setIfInBounds_toArray, List.set_cons_succ, List.set_cons_zero])
      refine HeadAt.take (i := 6) undef rfl (by kernel_rfl) (.inr ⟨by kernel_rfl, rfl⟩) S0 ?_
      (try simp only [Act.put, List.getElem_toArray, List.getElem_cons_succ, List.getElem_cons_zero, List.setIfInBounds_toArray, List.set_cons_succ, List.set_cons_zero])
      refine HeadAt.take (i := 7) (.bool false) rfl (by kernel_rfl) (.inl ⟨rfl, fun _ _ => by simp [go_sem]⟩) S0 ?_
      (try simp only [Act.put, List.getElem_toArray, List.getElem_cons_succ, List.getElem_cons_zero, List.setIfInBounds_toArray, List.set_cons_succ, List.set_cons_zero])
      refine HeadAt.one (i := 8) rfl (by kernel_rfl) ?_
      generalize hK : Upto _ _ = K0
      (try simp only [Act.put, List.getElem_toArray, List.getElem_cons_succ, List.getElem_cons_zero, List.setIfInBounds_toArray, List.set_cons_succ, List.set_cons_zero])
      go_wp2_with fail
      refine (h3 _ S0.2).mono ?_
      rintro e V2 ⟨rfl, hb2⟩
      replace S0 := And.intro (S0.1.below hb2) (S0.2.trans (hb2.mono S0.2.size))
      go_wp2_with fail
      subst hK
      refine ⟨S0, ?_⟩
      (try simp only [Act.put, List.getElem_toArray, List.getElem_cons_succ, List.getElem_cons_zero, List.setIfInBounds_toArray, List.set_cons_succ, List.set_cons_zero])
      refine HeadAt.done (by kernel_rfl) ?_
      (try simp only [Act.put, List.drop_succ_cons, List.drop_zero, List.getElem_toArray, List.getElem_cons_succ, List.getElem_cons_zero])
      go_wp2_with fail
      refine NoPanic.normal ?_
      go_wp2_with fail
      go_meet
      exact ⟨rfl, S0⟩
    · simp only [Bool.true_and] at h3
      have c0 := x0.ext 0 rfl; have c1 := x0.ext 1 rfl
      refine wp_region_ext_lit (by kernel_rfl) (by kernel_rfl) ?_
      repeat (quiet_step (first | (go_at_call 51; exact quiet_ext (h1 _)) | (go_at_call 59; exact quiet_ext (h2 _)) | (go_at_call 50; exact quiet_ext (h3 _ (Ext.below _)))))
      refine wpQuiet_nil ?_
      intro _ hw'
      obtain ⟨tt, rfl⟩ := hw'
      have hbt := tt.below
      go_wp2_with fail
      go_meet
      exact ⟨rfl, x0.below hbt, hbt⟩
  case rest =>
    clear x0 h1 h2 h3
    obtain ⟨rfl, x0, hbw⟩ := hcut
    obtain rfl := HR0.out
    obtain rfl := HN.out
    obtain ⟨bc, offc, rfl, hat⟩ := HAT.out
    have hX2 := hX1.below hbw (Nat.le_refl _)
    replace hb := hb.trans (hbw.mono hb.size)
    have hjI : (j : Int) ≤ (cs.length : Int) := by omega
    have hjI2 : (j : Int) < (cs.length : Int) := by omega
    have hj0 : (0 : Int) ≤ (j : Int) := by omega
    have hjc : (j : Int) ≤ (cc : Int) := by omega
    have hjcn : ¬ cc < j := by omega
    have hcl : (cs.length : Int) ≤ 1000 := by omega
    simp only [beginW] at q2
    clear hX1 hs hbw HA HB HR hX HR0 HN HAT
    obtain ⟨nn, hnn⟩ : ∃ nn, nn = cs.length := ⟨_, rfl⟩
    rw [← hnn] at q1 hjI hjI2 hcl x0 hle
    (try rw [← hnn])
    have HNN := hid hnn
    clear hnn hj hcc
    go_upto_region 4 with fail
    obtain ⟨s0, hs0⟩ : ∃ s0, s0 = w.heap.size := ⟨_, rfl⟩
    rw [← hs0] at x0 hb ⊢
    have HS0 := hid hs0
    clear hs0
    have hbd := (Below.refl wc.heap.size wc).drew
    have hsl : s0 < wc.heap.size := x0.lt
    have S0 : givS w s0 (some ⟨bc, offc, none⟩) cc cs L wc.drew := ⟨hsl, by rw [← HNN.out]; exact x0.below hbd, hX2.below hbd (Nat.le_refl _), hb.trans (hbd.mono (Nat.le_of_lt hsl))⟩
    clear hbd hsl x0 hX2 hb
    refine wp_region_head 9 (givS w s0 (some ⟨bc, offc, none⟩) cc cs L) (by kernel_rfl) rfl ?_
    generalize wc.drew = Y0 at *
    refine HeadAt.take (i := 0) (.agg #[.slice (some ⟨bc, offc, none⟩) nn cc, .int .i64 L]) rfl (by kernel_rfl) (.inl ⟨rfl, fun w' z => ?_⟩) S0 ?_
    · (have z0 := z.2.1.cell 0 rfl; have z1 := z.2.1.cell 1 rfl; rw [← HNN.out] at z0; simp [go_sem, z0, z1])
    refine HeadAt.take (i := 1) (.int .i64 t) rfl (by kernel_rfl) (.inl ⟨rfl, fun _ _ => by simp [go_sem]⟩) S0 ?_
    refine HeadAt.take (i := 3) (.pointer (some ⟨s0, 0, none⟩)) rfl (by kernel_rfl) (.inl ⟨rfl, fun _ _ => by simp [go_sem]⟩) S0 ?_
    (try simp only [Act.put, List.getElem_toArray, List.getElem_cons_succ, List.getElem_cons_zero, List.setIfInBounds_toArray, List.set_cons_succ, List.set_cons_zero])
    refine HeadAt.take (i := 4) (.slice (some ⟨bc, offc, none⟩) nn cc) rfl (by kernel_rfl) (.inl ⟨rfl, fun w' z => ?_⟩) S0 ?_
    · (have z0 := z.2.1.cell 0 rfl; rw [← HNN.out] at z0; simp [go_sem, z0])
    refine HeadAt.take (i := 5) (.int .i64 (j : Int)) rfl (by kernel_rfl) (.inl ⟨rfl, fun _ _ => by simp [go_sem]⟩) S0 ?_
    (try simp only [Act.put, List.getElem_toArray, List.getElem_cons_succ, List.getElem_cons_zero, List.setIfInBounds_toArray, List.set_cons_succ, List.set_cons_zero])
    refine HeadAt.take (i := 6) (.slice (some ⟨bc, offc, none⟩) j cc) rfl (by kernel_rfl) (.inl ⟨rfl, fun w' z => ?_⟩) S0 ?_
    · (simp [go_sem, hjI, hj0, hjc, hjcn])
    (try simp only [Act.put, List.getElem_toArray, List.getElem_cons_succ, List.getElem_cons_zero, List.setIfInBounds_toArray, List.set_cons_succ, List.set_cons_zero])
    refine HeadAt.rg (f0 := 0) [2, 7, 8] 3 (fun v => { tmps := #[.agg #[.slice (some ⟨bc, offc, none⟩) nn cc, .int .i64 L], .int .i64 t, .int .i64 (j : Int), .pointer (some ⟨s0, 0, none⟩), undef, undef, .int .i64 0, .int .i64 0, .int .i64 0, v 8, u10, u11, u12, u13, u14, u15, u16, u17, u18, .int .i64 0, .bool false, u21, .agg #[.slice (some ⟨bc, offc, none⟩) nn cc, .int .i64 L], .int .i64 t, v 2, .pointer (some ⟨s0, 0, none⟩), .slice (some ⟨bc, offc, none⟩) nn cc, .int .i64 (j : Int), .slice (some ⟨bc, offc, none⟩) j cc, v 7, u30, u31, u32, u33, u34, u35, u36], defers := [] }) (givF s0 (beginW L t) u) (fun i => match i with | 2 => u24 | 7 => u29 | _ => undef) (by kernel_rfl) (fun w1 w2 h hb => givS_below h hb) (givF_below s0 (beginW L t) u) ?step ?done S0
    case step =>
      intro i hi o ho v V hS hp
      simp only [List.mem_cons, List.not_mem_nil, or_false] at hi
      generalize hK : Upto _ _ = K0
      rcases hi with rfl | rfl | rfl
      · cases ho
        clear hp
        skip
        go_wp2_with fail
        refine (q1 _).mono ?_
        rintro e V1 ⟨rfl, hb1⟩
        go_wp2_with fail
        subst hK
        exact ⟨_, rfl, hb1, rfl⟩
      · cases ho
        have h2 : v 2 = .agg #[.int .i64 0, .int .i64 0, .int .i64 0, .int .i64 t, .int .i64 L] := hp 2 (by simp) (by kernel_rfl)
        clear hp
        rw [h2]
        have q2' := q2 V hS.2.2.1
        go_wp2_with fail
        refine q2'.mono ?_
        rintro e V1 ⟨rfl, hb1⟩
        go_wp2_with fail
        subst hK
        exact ⟨_, by simp [Act.put, updU, h2], hb1, rfl⟩
      · cases ho
        clear hp
        skip
        have hb1 := below_one (w := V) (.cells #[.int .i64 0, .int .i64 0, .int .i64 0, .int .i64 0, .int .i64 0] 70)
        have hx1 := Bx.new V #[.int .i64 0, .int .i64 0, .int .i64 0, .int .i64 0, .int .i64 0] 70
        have HH := hid (And.intro hb1 hx1)
        clear hb1 hx1
        go_wp2_with fail
        subst hK
        exact ⟨_, rfl, HH.out.1, V.heap.size, rfl, hS.1, HH.out.2⟩
    case done =>
      intro v V hS hp
      have h2 : v 2 = .agg #[.int .i64 0, .int .i64 0, .int .i64 0, .int .i64 t, .int .i64 L] := hp 2 (by simp)
      have h7 : v 7 = .agg #[.int .i64 u.op, .int .i64 u.ow, .int .i64 u.rp, .int .i64 u.rest, .int .i64 u.owed] := hp 7 (by simp)
      obtain ⟨g, h8, hgs, xg⟩ : ∃ g, v 8 = .pointer (some ⟨g, 0, none⟩) ∧ s0 < g ∧ Bx V g #[.int .i64 0, .int .i64 0, .int .i64 0, .int .i64 0, .int .i64 0] 70 := hp 8 (by simp)
      clear hp q1 q2
      rw [h2, h7, h8]
      refine HeadAt.done (by kernel_rfl) ?_
      (try simp only [Act.put, List.drop_succ_cons, List.drop_zero, List.getElem_toArray, List.getElem_cons_succ, List.getElem_cons_zero])
      obtain ⟨_, x0, hX2, hb⟩ := hS
      have d0 := xg.cell 0 rfl; have d1 := xg.cell 1 rfl; have d2 := xg.cell 2 rfl; have d3 := xg.cell 3 rfl; have d4 := xg.cell 4 rfl
      have f0 := xg.free 0; have f1 := xg.free 1; have f2 := xg.free 2; have f3 := xg.free 3; have f4 := xg.free 4
      have z1 := xg.set5 (.int .i64 u.op) (.int .i64 u.ow) (.int .i64 u.rp) (.int .i64 u.rest) (.int .i64 u.owed)
      have z2 := below_put5 hb (b := g) (by omega) (.int .i64 u.op) (.int .i64 u.ow) (.int .i64 u.rp) (.int .i64 u.rest) (.int .i64 u.owed)
      have z3 := x0.oth5 (b := g) (by omega) (.int .i64 u.op) (.int .i64 u.ow) (.int .i64 u.rp) (.int .i64 u.rest) (.int .i64 u.owed)
      have HZ := hid (And.intro z1 (And.intro z2 z3))
      clear z1 z2 z3 xg x0 hb hX2 h2 h7 h8
      go_wp2_with fail
      refine NoPanic.normal ?_
      obtain ⟨z1, z2, z3⟩ := HZ.out
      clear HZ d0 d1 d2 d3 d4 f0 f1 f2 f3 f4
      generalize World.setCell _ _ _ = V3 at *
      go_upto_region 5 with fail
      have z2' : Below w.heap.size w V3 := by rw [← HS0.out]; exact z2
      have hX3 : Clz V3 (some ⟨bc, offc, none⟩) cs := hX0.below z2' (Nat.le_refl _)
      have hatx := hat _ hX3
      obtain ⟨e0, e1, e2, e3⟩ := hatx
      have e0 := Ext.cell e0; have e1 := Ext.cell e1; have e2 := Ext.cell e2; have e3 := Ext.cell e3
      rw [← HNN.out] at z3
      have k0 := z1.ext 0 rfl; have k1 := z1.ext 1 rfl; have k2 := z1.ext 2 rfl; have k3 := z1.ext 3 rfl; have k4 := z1.ext 4 rfl
      have m0 := z3.ext 0 rfl; have m1 := z3.ext 1 rfl
      clear z1 z2 z3 hX3 hX0 hat
      refine wp_region_ext_tail 7 (by kernel_rfl) (by kernel_rfl) ?_
      repeat (quiet_step (first | (go_at_call 60; exact quiet_ext (q3 _))))
      refine wpQuiet_nil ?_
      intro _ hw'
      obtain ⟨tt, rfl⟩ := hw'
      have hbt := tt.below
      clear e0 e1 e2 e3 k0 k1 k2 k3 k4 m0 m1
      go_wp2
      go_ret2
      exact ⟨rfl, z2'.trans (hbt.mono z2'.size)⟩
end Go.Proofs.Ythgjjlkdekfdbaa
