import Derived.Test.YthgjjlkdekfdbaaT19
/-! Without, and the reference's contract without a clause. -/
namespace Go.Proofs.Ythgjjlkdekfdbaa
set_option linter.unusedSimpArgs false
set_option linter.unusedVariables false
open Go Go.RowKit

theorem Clz.drop {w : World} {b off : Nat} {xs : List Cl} (h : Clz w (some ⟨b, off, none⟩) xs) (j : Nat) : Clz w (some ⟨b, off + j * 4, none⟩) (xs.drop j) := by
  obtain ⟨h1, h2, h3⟩ := h
  refine ⟨by rw [List.length_drop]; omega, fun x hx => h2 x (List.mem_of_mem_drop hx), fun i hi => ?_⟩
  rw [List.length_drop] at hi
  obtain ⟨b', off', ha, hb, hc⟩ := h3 (j + i) (by omega)
  cases ha
  refine ⟨b, off + j * 4, rfl, hb, ?_⟩
  have e : (xs.drop j).getD i cl0 = xs.getD (j + i) cl0 := by
    rw [List.getD_eq_getElem?_getD, List.getD_eq_getElem?_getD, List.getElem?_drop]
  rw [e, show off + j * 4 + i * 4 = off + (j + i) * 4 by omega]; exact hc
/-- The clauses without one. -/
def lessC (cs : List Cl) (j : Nat) : List Cl := cs.eraseIdx j
theorem lessC_eq (cs : List Cl) (j : Nat) : lessC cs j = cs.take j ++ cs.drop (j + 1) := List.eraseIdx_eq_take_drop_succ cs j
theorem lessC_ok {cs : List Cl} {j : Nat} (h : ∀ x ∈ cs, x.ok) : ∀ x ∈ lessC cs j, x.ok := fun x hx => h x (List.mem_of_mem_eraseIdx hx)
theorem lessC_len {cs : List Cl} {j : Nat} (h : j < cs.length) : (lessC cs j).length = cs.length - 1 := List.length_eraseIdx_of_lt h
/-- How much more the owner would get without a clause. -/
def withoutC (L : Int) (cs : List Cl) (t : Int) (j : Nat) : Int := (settledW L (lessC cs j) t).ow - (settledW L cs t).ow

set_option maxRecDepth 100000 in
set_option maxHeartbeats 6000000 in
theorem Without_ok (ac : Option Addr) (cc : Nat) (cs : List Cl) (L : Int) (t : Int) (j : Nat) (w : World) (hX : Clz w ac cs) (hv : shB cs L = true) (ht : cenB t = true) (hj : j < cs.length) (hcc : cs.length ≤ cc) (n : Int) (hn : n = (j : Int)) : Calls Try.prog 25 #[.agg #[.slice ac cs.length cc, .int .i64 L], .int .i64 t, .int .i64 n] w fun e w' => e = .returned (.tuple #[.int .i64 (withoutC L cs t j), .int .i64 0]) ∧ Below w.heap.size w w' := by
  have hX0 := hX
  have ho := Ok.of hv ht
  have hr : (0 : Int) = askE cs L (cenB t && hasB cs n) := by
    rw [ht, show hasB cs n = true from inI_iff.2 (by omega)]; unfold askE; rw [hv]; rfl
  obtain ⟨r, hr0⟩ : ∃ r : Int, r = 0 := ⟨_, rfl⟩
  rw [← hr0] at hr
  have HR0 := hid hr0
  clear hr0
  obtain ⟨u, hu⟩ : ∃ u, u = settledW L cs t := ⟨_, rfl⟩
  obtain ⟨v, hv'⟩ : ∃ v, v = settledW L (lessC cs j) t := ⟨_, rfl⟩
  have ho2 : Ok (lessC cs j) L t := ⟨lessC_ok ho.cs, ho.L, ho.t⟩
  have hle := hX.len
  have q1 := fun (V : World) hh => settled_any ac cc cs L t ho V hh u hu
  have q2 := fun (V : World) (a : Option Addr) (c : Nat) hh => settled_any a c (lessC cs j) L t ho2 V hh v hv'
  have hll := lessC_len hj
  have htl : (cs.take j).length = j := by rw [List.length_take]; omega
  have hdl : (cs.drop (j + 1)).length = cs.length - (j + 1) := List.length_drop
  have q3 := fun (b cb : Nat) (ap aq : Option Addr) (cp cq : Nat) (V : World) hP hQ h0 h1 => concat_any b cb ap aq cp cq (cs.take j) (cs.drop (j + 1)) V hP hQ h0 h1 (by rw [htl, hdl]; omega)
  rw [← lessC_eq, htl, hdl, show j + (cs.length - (j + 1)) = cs.length - 1 by omega] at q3
  rw [hll] at q2
  have hub := (hu ▸ ho.fin : Inv t L u).wb ho.t.2 ho.L.2
  have hvb := (hv' ▸ ho2.fin : Inv t L v).wb ho.t.2 ho.L.2
  have hgv : withoutC L cs t j = v.ow - u.ow := by unfold withoutC; rw [← hu, ← hv']
  rw [hgv]
  have hub1 := hub.ow; have hvb1 := hvb.ow
  have ew : IntKind.i64.wrap (v.ow - u.ow) = v.ow - u.ow := IntWalk.i64_in _ (by omega)
  have HAT := hid (show ∃ b off, ac = some ⟨b, off, none⟩ by
    obtain ⟨b, off, ha, _⟩ := hX.2.2 j hj
    exact ⟨b, off, ha⟩)
  have HN := hid hn
  clear hu hv' ho ho2 hgv ht hv htl hdl hll hub hvb
  clear hn
  obtain ⟨W, hW, hb, hs, x0⟩ := boxes1 w #[.slice ac cs.length cc, .int .i64 L] 24
  have hX1 := hX.below hb (Nat.le_refl _)
  have h1 := fun (V : World) => (isCents_any t V).mono (fun e w' h => And.intro h.1 (Below.of_eq (B := V.heap.size) h.2))
  have h2 := fun (V : World) => hasClause_any ac cc cs L n V hX.len
  have h3 := fun (V : World) (hh : Below W.heap.size W V) => check_any ac cc cs L (cenB t && hasB cs n) V (hX1.below hh (Nat.le_refl _))
  rw [← hr] at h3
  obtain ⟨a, ha⟩ : ∃ a, a = cenB t := ⟨_, rfl⟩
  obtain ⟨b, hbb⟩ : ∃ b, b = hasB cs n := ⟨_, rfl⟩
  rw [← ha] at h1 h3; rw [← hbb] at h2 h3
  have HA := hid ha; have HB := hid hbb; have HR := hid hr
  clear ha hbb hr
  go_enter Try.func25, Try.ntmps25
  go_upto_region 1 with fail
  clear hW
  go_cut [8] (fun s8 wx => s8 = .int .i64 r ∧ Bx wx w.heap.size #[.slice ac cs.length cc, .int .i64 L] 24 ∧ Below W.heap.size W wx)
  case first =>
    cases a
    · simp only [Bool.false_and] at h3
      have hbw := (Below.refl W.heap.size W).drew
      have S0 := And.intro (x0.below hbw) hbw
      clear x0 hbw
      refine wp_region_head 9 (fun w' => Bx w' w.heap.size #[.slice ac cs.length cc, .int .i64 L] 24 ∧ Below W.heap.size W w') (by kernel_rfl) rfl ?_
      generalize W.drew = Y0 at *
      refine HeadAt.take (i := 0) (.agg #[.slice ac cs.length cc, .int .i64 L]) rfl (by kernel_rfl) (.inl ⟨rfl, fun w' z => ?_⟩) S0 ?_
      · (have z0 := z.1.cell 0 rfl; have z1 := z.1.cell 1 rfl; simp [go_sem, z0, z1])
      refine HeadAt.take (i := 1) (.int .i64 t) rfl (by kernel_rfl) (.inl ⟨rfl, fun _ _ => by simp [go_sem]⟩) S0 ?_
      (try simp only [Act.put, List.getElem_toArray, List.getElem_cons_succ, List.getElem_cons_zero, List.setIfInBounds_toArray, List.set_cons_succ, List.set_cons_zero])
      refine HeadAt.one (i := 2) rfl (by kernel_rfl) ?_
      generalize hK : Upto _ _ = K0
      (try simp only [Act.put, List.getElem_toArray, List.getElem_cons_succ, List.getElem_cons_zero, List.setIfInBounds_toArray, List.set_cons_succ, List.set_cons_zero])
      go_wp2_with fail
      refine (h1 _).mono ?_
      rintro e V1 ⟨rfl, hb1⟩
      replace S0 := And.intro (S0.1.below hb1) (S0.2.trans (hb1.mono S0.2.size))
      go_wp2_with fail
      subst hK
      refine ⟨S0, ?_⟩
      (try simp only [Act.put, List.getElem_toArray, List.getElem_cons_succ, List.getElem_cons_zero, List.setIfInBounds_toArray, List.set_cons_succ, List.set_cons_zero])
      refine HeadAt.take (i := 3) (.bool false) rfl (by kernel_rfl) (.inl ⟨rfl, fun _ _ => by simp [go_sem]⟩) S0 ?_
      (try simp only [Act.put, List.getElem_toArray, List.getElem_cons_succ, List.getElem_cons_zero, List.setIfInBounds_toArray, List.set_cons_succ, List.set_cons_zero])
      refine HeadAt.take (i := 4) undef rfl (by kernel_rfl) (.inr ⟨by kernel_rfl, rfl⟩) S0 ?_
      (try simp only [Act.put, List.getElem_toArray, List.getElem_cons_succ, List.getElem_cons_zero, List.setIfInBounds_toArray, List.set_cons_succ, List.set_cons_zero])
      refine HeadAt.take (i := 5) undef rfl (by kernel_rfl) (.inr ⟨by kernel_rfl, rfl⟩) S0 ?_
      (try simp only [Act.put, List.getElem_toArray, List.getElem_cons_succ, List.getElem_cons_zero, List.setIfInBounds_toArray, List.set_cons_succ, List.set_cons_zero])
      refine HeadAt.take (i := 6) undef rfl (by kernel_rfl) (.inr ⟨by kernel_rfl, rfl⟩) S0 ?_
      (try simp only [Act.put, List.getElem_toArray, List.getElem_cons_succ, List.getElem_cons_zero, List.setIfInBounds_toArray, List.set_cons_succ, List.set_cons_zero])
      refine HeadAt.take (i := 7) (.bool false) rfl (by kernel_rfl) (.inl ⟨rfl, fun _ _ => by simp [go_sem]⟩) S0 ?_
      (try simp only [Act.put, List.getElem_toArray, List.getElem_cons_succ, List.getElem_cons_zero, List.setIfInBounds_toArray, List.set_cons_succ, List.set_cons_zero])
      refine HeadAt.one (i := 8) rfl (by kernel_rfl) ?_
      generalize hK : Upto _ _ = K0
      (try simp only [Act.put, List.getElem_toArray, List.getElem_cons_succ, List.getElem_cons_zero, List.setIfInBounds_toArray, List.set_cons_succ, List.set_cons_zero])
      go_wp2_with fail
      refine (h3 _ S0.2).mono ?_
      rintro e V2 ⟨rfl, hb2⟩
      replace S0 := And.intro (S0.1.below hb2) (S0.2.trans (hb2.mono S0.2.size))
      go_wp2_with fail
      subst hK
      refine ⟨S0, ?_⟩
      (try simp only [Act.put, List.getElem_toArray, List.getElem_cons_succ, List.getElem_cons_zero, List.setIfInBounds_toArray, List.set_cons_succ, List.set_cons_zero])
      refine HeadAt.done (by kernel_rfl) ?_
      (try simp only [Act.put, List.drop_succ_cons, List.drop_zero, List.getElem_toArray, List.getElem_cons_succ, List.getElem_cons_zero])
      go_wp2_with fail
      refine NoPanic.normal ?_
      go_wp2_with fail
      go_meet
      exact ⟨rfl, S0⟩
    · simp only [Bool.true_and] at h3
      have c0 := x0.ext 0 rfl; have c1 := x0.ext 1 rfl
      refine wp_region_ext_lit (by kernel_rfl) (by kernel_rfl) ?_
      repeat (quiet_step (first | (go_at_call 51; exact quiet_ext (h1 _)) | (go_at_call 59; exact quiet_ext (h2 _)) | (go_at_call 50; exact quiet_ext (h3 _ (Ext.below _)))))
      refine wpQuiet_nil ?_
      intro _ hw'
      obtain ⟨tt, rfl⟩ := hw'
      have hbt := tt.below
      go_wp2_with fail
      go_meet
      exact ⟨rfl, x0.below hbt, hbt⟩
  case rest =>
    clear x0 h1 h2 h3
    obtain ⟨rfl, x0, hbw⟩ := hcut
    obtain rfl := HR0.out
    obtain rfl := HN.out
    obtain ⟨bc, offc, rfl⟩ := HAT.out
    have hX2 := hX1.below hbw (Nat.le_refl _)
    replace hb := hb.trans (hbw.mono hb.size)
    clear hX1 hs hbw HA HB HR hX HR0 HN HAT
    obtain ⟨nn, hnn⟩ : ∃ nn, nn = cs.length := ⟨_, rfl⟩
    have HNN := hid hnn
    rw [← hnn] at q1 q2 q3 x0 hle hj hcc
    (try rw [← hnn])
    clear hnn
    have hjI : (j : Int) ≤ (nn : Int) := by omega
    have hjI2 : (j : Int) < (nn : Int) := by omega
    have hjI3 : (j : Int) + 1 ≤ (nn : Int) := by omega
    have hj0 : (0 : Int) ≤ (j : Int) := by omega
    have hj1 : (0 : Int) ≤ (j : Int) + 1 := by omega
    have hjc : (j : Int) ≤ (cc : Int) := by omega
    have hjcn : ¬ cc < j := by omega
    have hncc : (nn : Int) ≤ (cc : Int) := by omega
    have hnccn : ¬ cc < nn := by omega
    have hcl : (nn : Int) ≤ 1000 := by omega
    have ew2 : IntKind.i64.wrap ((j : Int) + 1) = (j : Int) + 1 := IntWalk.i64_in _ (by omega)
    have hf0 := fun W => (week_f u.op u.ow u.rp u.rest u.owed W).1
    have hf1 := split_f u.op u.ow u.rp
    have hg0 := fun W => (week_f v.op v.ow v.rp v.rest v.owed W).1
    have hg1 := split_f v.op v.ow v.rp
    have c0 := x0.cell 0 rfl; have c1 := x0.cell 1 rfl
    go_wp2_with fail
    refine (q1 _ hX2).mono ?_
    rintro e V1 ⟨rfl, hb1⟩
    replace x0 := x0.below hb1; replace hX2 := hX2.below hb1 (Nat.le_refl _)
    replace hb := hb.trans (hb1.mono hb.size)
    clear hb1 c0 c1 q1
    go_upto_region 5 with fail
    obtain ⟨s0, hs0⟩ : ∃ s0, s0 = w.heap.size := ⟨_, rfl⟩
    rw [← hs0] at x0 hb ⊢
    have HS0 := hid hs0
    clear hs0
    have hbd := (Below.refl V1.heap.size V1).drew
    have hsl : s0 < V1.heap.size := x0.lt
    have hX3 := hX2.below hbd (Nat.le_refl _)
    have hb3 : Below s0 w V1.drew := hb.trans (hbd.mono (Nat.le_of_lt hsl))
    have S0 := x0.below hbd
    have hsl3 : s0 < V1.drew.heap.size := hsl
    clear hbd hsl x0 hX2 hb
    obtain ⟨ad2, had2, hdr⟩ : ∃ ad2 : Option Addr, ad2 = (if cc = j + 1 then some ⟨bc, offc, none⟩ else some ⟨bc, offc + (j + 1) * 4, none⟩) ∧ ∀ V, Clz V (some ⟨bc, offc, none⟩) cs → Clz V ad2 (cs.drop (j + 1)) := by
      refine ⟨_, rfl, fun V hV => ?_⟩
      by_cases h : cc = j + 1
      · have e : cs.drop (j + 1) = [] := by rw [List.drop_eq_nil_iff]; have := HNN.out; omega
        rw [e]; exact Clz.nil _ _
      · rw [if_neg h]; exact hV.drop (j + 1)
    refine wp_region_head 11 (fun w' => Bx w' s0 #[.slice (some ⟨bc, offc, none⟩) nn cc, .int .i64 L] 24) (by kernel_rfl) rfl ?_
    generalize V1.drew = Y0 at *
    refine HeadAt.take (i := 0) (.pointer (some ⟨s0, 0, none⟩)) rfl (by kernel_rfl) (.inl ⟨rfl, fun _ _ => by simp [go_sem]⟩) S0 ?_
    (try simp only [Act.put, List.getElem_toArray, List.getElem_cons_succ, List.getElem_cons_zero, List.setIfInBounds_toArray, List.set_cons_succ, List.set_cons_zero])
    refine HeadAt.take (i := 1) (.slice (some ⟨bc, offc, none⟩) nn cc) rfl (by kernel_rfl) (.inl ⟨rfl, fun w' z => ?_⟩) S0 ?_
    · (have z0 := z.cell 0 rfl; simp [go_sem, z0])
    refine HeadAt.take (i := 2) (.int .i64 (j : Int)) rfl (by kernel_rfl) (.inl ⟨rfl, fun _ _ => by simp [go_sem]⟩) S0 ?_
    (try simp only [Act.put, List.getElem_toArray, List.getElem_cons_succ, List.getElem_cons_zero, List.setIfInBounds_toArray, List.set_cons_succ, List.set_cons_zero])
    refine HeadAt.take (i := 3) (.slice (some ⟨bc, offc, none⟩) j cc) rfl (by kernel_rfl) (.inl ⟨rfl, fun w' z => ?_⟩) S0 ?_
    · (simp [go_sem, hjI, hj0, hjc, hjcn])
    refine HeadAt.take (i := 4) (.pointer (some ⟨s0, 0, none⟩)) rfl (by kernel_rfl) (.inl ⟨rfl, fun _ _ => by simp [go_sem]⟩) S0 ?_
    (try simp only [Act.put, List.getElem_toArray, List.getElem_cons_succ, List.getElem_cons_zero, List.setIfInBounds_toArray, List.set_cons_succ, List.set_cons_zero])
    refine HeadAt.take (i := 5) (.slice (some ⟨bc, offc, none⟩) nn cc) rfl (by kernel_rfl) (.inl ⟨rfl, fun w' z => ?_⟩) S0 ?_
    · (have z0 := z.cell 0 rfl; simp [go_sem, z0])
    refine HeadAt.take (i := 6) (.int .i64 (j : Int)) rfl (by kernel_rfl) (.inl ⟨rfl, fun _ _ => by simp [go_sem]⟩) S0 ?_
    (try simp only [Act.put, List.getElem_toArray, List.getElem_cons_succ, List.getElem_cons_zero, List.setIfInBounds_toArray, List.set_cons_succ, List.set_cons_zero])
    refine HeadAt.take (i := 7) (.int .i64 ((j : Int) + 1)) rfl (by kernel_rfl) (.inl ⟨rfl, fun w' z => ?_⟩) S0 ?_
    · (simp [go_sem, ew2])
    (try simp only [Act.put, List.getElem_toArray, List.getElem_cons_succ, List.getElem_cons_zero, List.setIfInBounds_toArray, List.set_cons_succ, List.set_cons_zero])
    refine HeadAt.take (i := 8) (.slice ad2 (nn - (j + 1)) (cc - (j + 1))) rfl (by kernel_rfl) (.inl ⟨rfl, fun w' z => ?_⟩) S0 ?_
    · (rw [had2]; simp [go_sem, hjI3, hj1, hncc, hnccn])
    (try simp only [Act.put, List.getElem_toArray, List.getElem_cons_succ, List.getElem_cons_zero, List.setIfInBounds_toArray, List.set_cons_succ, List.set_cons_zero])
    refine HeadAt.one (i := 9) rfl (by kernel_rfl) ?_
    generalize hK : Upto _ _ = K0
    (try simp only [Act.put, List.getElem_toArray, List.getElem_cons_succ, List.getElem_cons_zero, List.setIfInBounds_toArray, List.set_cons_succ, List.set_cons_zero])
    have hba := below_one (w := Y0) (.cells #[.slice (some ⟨bc, offc, none⟩) j cc, .slice ad2 (nn - (j + 1)) (cc - (j + 1))] 22)
    have HY := hid (And.intro (S0.below hba) (And.intro (hX3.below hba (Nat.le_refl _)) (And.intro (hb3.trans (hba.mono (Nat.le_of_lt hsl3))) (And.intro (Nat.lt_of_lt_of_le hsl3 hba.size) (Bx.new Y0 #[.slice (some ⟨bc, offc, none⟩) j cc, .slice ad2 (nn - (j + 1)) (cc - (j + 1))] 22)))))
    clear S0 hX3 hb3 hsl3 hba had2
    go_wp2_with fail
    obtain ⟨S0, hX3, hb3, hsl3, xn⟩ := HY.out
    clear HY
    generalize Y0.heap.size = gn at *
    generalize Y0.alloc _ = Y1 at *
    subst hK
    refine ⟨S0, ?_⟩
    (try simp only [Act.put, List.getElem_toArray, List.getElem_cons_succ, List.getElem_cons_zero, List.setIfInBounds_toArray, List.set_cons_succ, List.set_cons_zero])
    refine HeadAt.one (i := 10) rfl (by kernel_rfl) ?_
    generalize hK : Upto _ _ = K0
    (try simp only [Act.put, List.getElem_toArray, List.getElem_cons_succ, List.getElem_cons_zero, List.setIfInBounds_toArray, List.set_cons_succ, List.set_cons_zero])
    go_wp2_with fail
    refine (q3 gn 2 _ _ cc (cc - (j + 1)) _ (hX3.take j) (hdr _ hX3) (xn.cell 0 rfl) (xn.cell 1 rfl)).mono ?_
    rintro e Y2 ⟨a3, c3, rfl, hC, hb1, hnew⟩
    replace S0 := S0.below hb1
    replace hb3 := hb3.trans (hb1.mono (Nat.le_of_lt hsl3))
    have hof : ∀ ad, a3 = some ad → ad.block ≠ s0 := fun ad e => by have := hnew ad e; omega
    clear hb1 xn q3 hX3 hdr hnew
    go_wp2_with fail
    subst hK
    refine ⟨S0, ?_⟩
    (try simp only [Act.put, List.getElem_toArray, List.getElem_cons_succ, List.getElem_cons_zero, List.setIfInBounds_toArray, List.set_cons_succ, List.set_cons_zero])
    refine HeadAt.done (by kernel_rfl) ?_
    (try simp only [Act.put, List.drop_succ_cons, List.drop_zero, List.getElem_toArray, List.getElem_cons_succ, List.getElem_cons_zero])
    have f0 := S0.free 0
    have c0 := S0.cell 0 rfl
    have z0 := S0.put2_0 (.slice a3 (nn - 1) c3)
    have z1 := hb3.setCell (p := ⟨s0, 0, none⟩) (Nat.le_refl _) (.slice a3 (nn - 1) c3)
    have z2 := hC.set (p := ⟨s0, 0, none⟩) (fun ad e => hof ad e) (.slice a3 (nn - 1) c3)
    have HZ := hid (And.intro z0 (And.intro z1 z2))
    clear z0 z1 z2 S0 hb3 hC hof hsl3
    go_wp2_with fail
    refine NoPanic.normal ?_
    obtain ⟨x0, hb, hX4⟩ := HZ.out
    clear HZ f0 c0
    generalize World.setCell _ _ _ = V3 at *
    go_upto_region 6 with fail
    have c0 := x0.cell 0 rfl; have c1 := x0.cell 1 rfl
    go_wp2_with fail
    refine (q2 _ a3 c3 hX4).mono ?_
    rintro e V4 ⟨rfl, hb1⟩
    replace hb := hb.trans (hb1.mono (by have := x0.lt; omega))
    clear hb1 c0 c1 q2 x0 hX4
    go_wp2
    go_ret2
    exact ⟨rfl, by rw [← HS0.out]; exact hb⟩
set_option maxRecDepth 100000 in
set_option maxHeartbeats 6000000 in
theorem Less_any (ac : Option Addr) (cc : Nat) (cs : List Cl) (L : Int) (j : Nat) (hj : j < cs.length) (w : World) (hX : Clz w ac cs) : Calls Try.prog 46 #[.agg #[.slice ac cs.length cc, .int .i64 L], .int .i64 (j : Int)] w fun e w' => ∃ (a : Option Addr) (c : Nat), e = .returned (.agg #[.slice a (lessC cs j).length c, .int .i64 L]) ∧ Clz w' a (lessC cs j) ∧ Below w.heap.size w w' := by
  obtain ⟨j0, hj0, jz0, jz1, jz2⟩ := info_parts info56
  obtain ⟨W, hW, hb, hs, x0, x1⟩ := boxes2 w #[.slice ac cs.length cc, .int .i64 L] 24 #[.slice none 0 0, .int .i64 0] 24
  have c0 := x0.cell 0 rfl; have c1 := x0.cell 1 rfl
  have hbn := below_one (w := W) (.cells #[.slice none 0 0, .int .i64 L] 24)
  have x2 := Bx.new W #[.slice none 0 0, .int .i64 L] 24
  have E0 : OrW w ac cc cs.length L 0 (.slice none 0 0) [] (W.alloc (.cells #[.slice none 0 0, .int .i64 L] 24)) :=
    ⟨x0.below hbn, x1.below hbn, by rw [hs] at x2; exact x2, World.ownsRow_nil _ _ _ _, hb.trans (hbn.mono hb.size), by simp; omega⟩
  clear hbn x2 x0 x1 hb
  have hi64 : ∀ x ∈ lessC cs j, x.i64 := fun x hx => hX.2.1 x (List.mem_of_mem_eraseIdx hx)
  have HI := hid hi64
  have HOL := hid (lessC_len hj)
  have hlen := hX.len
  have hne : (cs.take 0).eraseIdx j = [] := rfl
  obtain ⟨n, hn⟩ : ∃ n, n = cs.length := ⟨_, rfl⟩
  rw [← hn] at E0 hlen c0 hW hj ⊢
  have HN := hid hn
  clear hn hi64
  go_enter Try.func46, Try.ntmps46
  go_upto_region 2 with fail
  clear c0 c1
  generalize W.alloc _ = W2 at *
  clear hW hs
  go_wp2
  go_loopw [6] (fun v6 wr => ∃ (k p : Nat) (v : Value), k ≤ n ∧ p ≤ k ∧ v6 = .int .i64 (k : Int) ∧ OrW w ac cc n L p v ((cs.take k).eraseIdx j) wr) (fun v6 _ => n - (intOf v6).toNat)
  case atStart => exact ⟨0, 0, _, Nat.zero_le _, Nat.le_refl _, rfl, E0⟩
  case round =>
    clear E0
    obtain ⟨k, p, v, hk, hpk, rfl, E⟩ := hrel
    have c0 := E.x0.cell 0 rfl
    by_cases hlt : k < n
    · obtain ⟨bc, offc, x, rfl, hblc, hx4, hxi, hmem, hgx, _, htk⟩ := (hX.below E.bl (Nat.le_refl _)).at (k := k) (by rw [← HN.out]; exact hlt)
      have hblw : bc < w.heap.size := by
        obtain ⟨b', off', e, hlt', _⟩ := hX.2.2 k (by rw [← HN.out]; exact hlt)
        cases e; exact hlt'
      have hkI : (k : Int) < (n : Int) := by omega
      have hk0 : (0 : Int) ≤ (k : Int) := by omega
      have htl : (cs.take k).length = k := by rw [List.length_take, ← HN.out]; omega
      by_cases hkj : k = j
      · have hne : ((k : Int) != (j : Int)) = false := by simp; omega
        have HT := hid (show (cs.take (k + 1)).eraseIdx j = (cs.take k).eraseIdx j by
          rw [htk.out, ← hkj, List.eraseIdx_append_of_length_le (by omega), htl, Nat.sub_self]
          show cs.take k ++ [] = _
          rw [List.append_nil, List.eraseIdx_of_length_le (by omega)])
        have HE := hid E
        clear E hgx hmem htk htl hkj hx4
        go_wp2
        go_roundw
        case rel => exact ⟨k + 1, p, v, by omega, by omega, by simp, by rw [HT.out]; exact HE.out⟩
        case measure => simp [intOf]; omega
      · have hne : ((k : Int) != (j : Int)) = true := by simp; omega
        have HT := hid (show (cs.take (k + 1)).eraseIdx j = (cs.take k).eraseIdx j ++ [x] by
          rw [htk.out]
          rcases Nat.lt_or_ge j k with h | h
          · rw [List.eraseIdx_append_of_lt_length (by omega)]
          · rw [List.eraseIdx_append_of_length_le (by omega), List.eraseIdx_of_length_le (by rw [List.length_singleton]; omega), List.eraseIdx_of_length_le (by omega)])
        clear hgx hmem htk htl hkj
        go_upto_region 6 with fail
        clear c0
        obtain ⟨x0, x1, x2, own, bl, sz⟩ := E
        have hbd := (Below.refl wr.heap.size wr).drew
        have S0 := And.intro (x0.below hbd) (And.intro (x2.below hbd) (show At4 wr.drew bc (offc + k * 4) x from hx4))
        have y1 := x1.below hbd
        have own1 := own_below2 own hbd
        have bl1 := bl.trans (hbd.mono bl.size)
        have sz1 : w.heap.size + 3 ≤ wr.drew.heap.size := sz
        clear x0 x1 x2 own bl sz hbd hx4
        refine wp_region_head 9 (fun w' => Bx w' w.heap.size #[.slice (some ⟨bc, offc, none⟩) n cc, .int .i64 L] 24 ∧ Bx w' (w.heap.size + 1 + 1) #[v, .int .i64 L] 24 ∧ At4 w' bc (offc + k * 4) x) (by kernel_rfl) rfl ?_
        generalize wr.drew = Y0 at *
        refine HeadAt.take (i := 0) (.pointer (some ⟨w.heap.size + 1 + 1, 0, none⟩)) rfl (by kernel_rfl) (.inl ⟨rfl, fun _ _ => by simp [go_sem]⟩) S0 ?_
        (try simp only [Act.put, List.getElem_toArray, List.getElem_cons_succ, List.getElem_cons_zero, List.setIfInBounds_toArray, List.set_cons_succ, List.set_cons_zero])
        refine HeadAt.take (i := 1) (v) rfl (by kernel_rfl) (.inl ⟨rfl, fun w' z => ?_⟩) S0 ?_
        · (have z0 := z.2.1.cell 0 rfl; simp [go_sem, z0])
        refine HeadAt.take (i := 2) (.pointer (some ⟨w.heap.size, 0, none⟩)) rfl (by kernel_rfl) (.inl ⟨rfl, fun _ _ => by simp [go_sem]⟩) S0 ?_
        (try simp only [Act.put, List.getElem_toArray, List.getElem_cons_succ, List.getElem_cons_zero, List.setIfInBounds_toArray, List.set_cons_succ, List.set_cons_zero])
        refine HeadAt.take (i := 3) (.slice (some ⟨bc, offc, none⟩) n cc) rfl (by kernel_rfl) (.inl ⟨rfl, fun w' z => ?_⟩) S0 ?_
        · (have z0 := z.1.cell 0 rfl; simp [go_sem, z0])
        refine HeadAt.take (i := 4) (.int .i64 (k : Int)) rfl (by kernel_rfl) (.inl ⟨rfl, fun _ _ => by simp [go_sem]⟩) S0 ?_
        (try simp only [Act.put, List.getElem_toArray, List.getElem_cons_succ, List.getElem_cons_zero, List.setIfInBounds_toArray, List.set_cons_succ, List.set_cons_zero])
        refine HeadAt.take (i := 5) (.pointer (some ⟨bc, offc + k * 4, none⟩)) rfl (by kernel_rfl) (.inl ⟨rfl, fun w' z => ?_⟩) S0 ?_
        · (simp [go_sem, hkI, hk0])
        (try simp only [Act.put, List.getElem_toArray, List.getElem_cons_succ, List.getElem_cons_zero, List.setIfInBounds_toArray, List.set_cons_succ, List.set_cons_zero])
        refine HeadAt.take (i := 6) (.agg #[.int .i64 x.k, .int .i64 x.c, .int .i64 x.p, .int .i64 x.m]) rfl (by kernel_rfl) (.inl ⟨rfl, fun w' z => ?_⟩) S0 ?_
        · (obtain ⟨z0, z1, z2, z3⟩ := z.2.2; simp [go_sem, z0, z1, z2, z3])
        (try simp only [Act.put, List.getElem_toArray, List.getElem_cons_succ, List.getElem_cons_zero, List.setIfInBounds_toArray, List.set_cons_succ, List.set_cons_zero])
        refine HeadAt.one (i := 7) rfl (by kernel_rfl) ?_
        generalize hK : Upto _ _ = K0
        (try simp only [Act.put, List.getElem_toArray, List.getElem_cons_succ, List.getElem_cons_zero, List.setIfInBounds_toArray, List.set_cons_succ, List.set_cons_zero])
        have hba := below_one (w := Y0) (.cells #[.int .i64 x.k, .int .i64 x.c, .int .i64 x.p, .int .i64 x.m] 56)
        have hnx := Bx.new Y0 #[.int .i64 x.k, .int .i64 x.c, .int .i64 x.p, .int .i64 x.m] 56
        have S1 := And.intro (S0.1.below hba) (And.intro (S0.2.1.below hba) (S0.2.2.eq (hba.block bc (by omega))))
        have y2 := y1.below hba
        have own2 := own_below2 own1 hba
        have bl2 := bl1.trans (hba.mono bl1.size)
        have sz2 : w.heap.size + 3 ≤ (Y0.alloc (.cells #[.int .i64 x.k, .int .i64 x.c, .int .i64 x.p, .int .i64 x.m] 56)).heap.size := by simp; omega
        have HY := hid (And.intro S1 (And.intro y2 (And.intro own2 (And.intro bl2 (And.intro sz2 hnx)))))
        clear S0 S1 y1 y2 own1 own2 bl1 bl2 sz1 sz2 hba hnx
        go_wp2_with fail
        obtain ⟨S0, y1, own, bl, sz, hnx⟩ := HY.out
        clear HY
        generalize Y0.heap.size = gn at *
        generalize Y0.alloc _ = Y1 at *
        subst hK
        refine ⟨S0, ?_⟩
        (try simp only [Act.put, List.getElem_toArray, List.getElem_cons_succ, List.getElem_cons_zero, List.setIfInBounds_toArray, List.set_cons_succ, List.set_cons_zero])
        refine HeadAt.one (i := 8) rfl (by kernel_rfl) ?_
        generalize hK : Upto _ _ = K0
        (try simp only [Act.put, List.getElem_toArray, List.getElem_cons_succ, List.getElem_cons_zero, List.setIfInBounds_toArray, List.set_cons_succ, List.set_cons_zero])
        have hcl := Cls.of_bx hnx
        have hge := own_ge2 own
        go_wp2_with (at_builtin; refine wpList_app rfl _ _ 22 rfl (w.heap.size + 3) 56 j0 _ 4 32 under22 hj0 jz0 jz1 jz2 rfl (by decide) v p (ccells ((cs.take k).eraseIdx j)) rfl own (some ⟨gn, 0, none⟩) 1 1 (ccells [x]) rfl rfl hcl (ccells_one _) (by unfold maxLen; omega) (by omega) (by omega) ?_; intro v2 Y2 own2 hg2)
        have S1 := And.intro (S0.1.gb hg2 (fun q hq => by have := hge q hq; omega)) (And.intro (S0.2.1.gb hg2 (fun q hq => by have := hge q hq; omega)) (S0.2.2.eq (hg2.block bc (by omega) (fun e => by have := hge bc e.symm; omega))))
        have y2 := y1.gb hg2 (fun q hq => by have := hge q hq; omega)
        have bl2 := bl.grown hg2 (by omega) (fun q hq => by have := hge q hq; omega)
        have sz2 : w.heap.size + 3 ≤ Y2.heap.size := Nat.le_trans sz hg2.size
        clear S0 y1 bl sz hge hcl hnx own hg2
        subst hK
        refine ⟨S1, ?_⟩
        (try simp only [Act.put, List.getElem_toArray, List.getElem_cons_succ, List.getElem_cons_zero, List.setIfInBounds_toArray, List.set_cons_succ, List.set_cons_zero])
        refine HeadAt.done (by kernel_rfl) ?_
        (try simp only [Act.put, List.drop_succ_cons, List.drop_zero, List.getElem_toArray, List.getElem_cons_succ, List.getElem_cons_zero])
        have z1 := S1.2.1.cell 0 rfl
        have zf := S1.2.1.free 0
        have hgs : Y2.grownBy (Y2.setCell ⟨w.heap.size + 1 + 1, 0, none⟩ v2) (some (w.heap.size + 1 + 1)) := gset Y2 _ _
        have own3 := own_keep own2 hgs (fun q hq e => by have := own_ge2 own2 q hq; injection e with e; omega)
        have q0 := S1.1.other (a := ⟨w.heap.size + 1 + 1, 0, none⟩) (by show w.heap.size ≠ w.heap.size + 1 + 1; omega) v2
        have q1 := y2.other (a := ⟨w.heap.size + 1 + 1, 0, none⟩) (by show w.heap.size + 1 ≠ w.heap.size + 1 + 1; omega) v2
        have q2 := S1.2.1.put2_0 v2
        have q3 := bl2.setCell (p := ⟨w.heap.size + 1 + 1, 0, none⟩) (by show w.heap.size ≤ w.heap.size + 1 + 1; omega) v2
        have q4 : w.heap.size + 3 ≤ (Y2.setCell ⟨w.heap.size + 1 + 1, 0, none⟩ v2).heap.size := by simpa [World.setCell] using sz2
        rw [← ccells_app, ← HT.out] at own3
        have HE := hid (show OrW w (some ⟨bc, offc, none⟩) cc n L (p + 1) v2 ((cs.take (k + 1)).eraseIdx j) (Y2.setCell ⟨w.heap.size + 1 + 1, 0, none⟩ v2) from ⟨q0, q1, q2, own3, q3, q4⟩)
        obtain ⟨av, cv, rfl⟩ := own_slice2 own2
        clear q0 q1 q2 q3 q4 own3 own2 hgs S1 y2 bl2 sz2
        go_wp2_with fail
        refine NoPanic.normal ?_
        go_wp2
        go_roundw
        case rel => exact ⟨k + 1, p + 1, _, by omega, by omega, by simp, HE.out⟩
        case measure => simp [intOf]; omega
    · have hkm : k = n := by omega
      have hkI : ¬ (k : Int) < (n : Int) := by omega
      obtain ⟨x0, x1, x2, own, bl, sz⟩ := E
      have ht : (cs.take k).eraseIdx j = lessC cs j := by rw [hkm, HN.out, List.take_length]; rfl
      rw [ht] at own
      have hkl : p = (lessC cs j).length := by
        have := own.1
        rw [ccells_len] at this
        omega
      rw [hkl] at own
      obtain ⟨a, c, rfl, hC, hblk⟩ := Clz.of_own own (by rw [HOL.out, ← HN.out]; omega) HI.out
      obtain ⟨q, hq⟩ : ∃ q, q = (lessC cs j).length := ⟨_, rfl⟩
      rw [← hq] at x2
      have HQ := hid hq
      have HC := hid hC
      clear own hC ht hkl hkm hq x0
      have u0 := x2.cell 0 rfl; have u1 := x2.cell 1 rfl
      have d0 := x1.cell 0 rfl; have d1 := x1.cell 1 rfl
      have f0 := x1.free 0; have f1 := x1.free 1
      have z1 := x1.set2 (.slice a q c) (.int .i64 L)
      have z2 := below_put2' bl (b := w.heap.size + 1) (by omega) (.slice a q c) (.int .i64 L)
      have z3 := (HC.out.set (p := ⟨w.heap.size + 1, 0, none⟩) (fun ad e => by have := hblk ad e; show ad.block ≠ w.heap.size + 1; omega) (.slice a q c)).set (p := ⟨w.heap.size + 1, 1, none⟩) (fun ad e => by have := hblk ad e; show ad.block ≠ w.heap.size + 1; omega) (.int .i64 L)
      have HZ := hid (And.intro z1 (And.intro z2 z3))
      clear z1 z2 z3 x1 x2 bl sz hblk HC
      go_wp2_with fail
      obtain ⟨z1, z2, z3⟩ := HZ.out
      clear HZ
      generalize World.setCell _ _ _ = VV at *
      have k0 := z1.cell 0 rfl; have k1 := z1.cell 1 rfl
      refine bodyPost_ret (v := .agg #[.slice a q c, .int .i64 L]) ?_ rfl ⟨a, ⟨c, by rw [HQ.out]⟩, z3, z2⟩
      simp [results, Try.results46, go_sem, k0, k1]
end Go.Proofs.Ythgjjlkdekfdbaa
