import Derived.Test.YtipdohpbilabiaaZC
import Derived.Test.YtipdohpbilabiaaZA
import Derived.Test.YtipdohpbilabiaaWD
import Derived.Test.YtipdohpbilabiaaNC
set_option linter.unusedSimpArgs false
set_option linter.unusedVariables false
/-! The reference's Fewest. -/
namespace Go.Proofs.Ytipdohpbilabiaa
set_option linter.unusedSimpArgs false
set_option linter.unusedVariables false
open Go Go.RowKit

/-- The fewest changes as the reference reckons them: less than 0 stands for none. -/
def fwS (X : Sw) (goal b : Int) (P : List (List Int)) : Int := if goal ≤ eaF X P P.length ∧ (b < 0 ∨ acF X P P.length < b) then acF X P P.length else b
def fwF (X : Sw) (goal : Int) (l : List (List (List Int))) : Int := l.foldl (fwS X goal) (-1)
theorem fwF_snoc (X : Sw) (goal : Int) (l : List (List (List Int))) (P : List (List Int)) : fwF X goal (l ++ [P]) = fwS X goal (fwF X goal l) P := by simp [fwF, List.foldl_append]
theorem fwF_take {X : Sw} (goal : Int) {SS : List (List (List Int))} {j : Nat} {s : List (List Int)} (h : SS.take (j + 1) = SS.take j ++ [s]) : fwF X goal (SS.take (j + 1)) = fwS X goal (fwF X goal (SS.take j)) s := by
  rw [h, fwF_snoc]
theorem fw_facts (X : Sw) (goal : Int) : ∀ (n : Nat) (l : List (List (List Int))), l.length = n → (∀ P ∈ l, 0 ≤ acF X P P.length) → ((0 ≤ fwF X goal l ↔ ∃ P ∈ l, goal ≤ eaF X P P.length) ∧ (0 ≤ fwF X goal l → (∃ P ∈ l, goal ≤ eaF X P P.length ∧ acF X P P.length = fwF X goal l) ∧ ∀ P ∈ l, goal ≤ eaF X P P.length → fwF X goal l ≤ acF X P P.length))
  | 0, l, h, _ => by
    obtain rfl := List.length_eq_zero_iff.1 h
    have e : fwF X goal [] = -1 := rfl
    rw [e]
    exact ⟨⟨fun h => by omega, fun ⟨P, hP, _⟩ => by simp at hP⟩, fun h => by omega⟩
  | n + 1, l, h, hac => by
    obtain ⟨l', p, rfl⟩ : ∃ l' p, l = l' ++ [p] := ⟨l.dropLast, l.getLast (by intro e; rw [e] at h; cases h), (List.dropLast_concat_getLast _).symm⟩
    obtain ⟨h1, h2⟩ := fw_facts X goal n l' (by simpa using h) (fun P hP => hac P (List.mem_append_left _ hP))
    have hp := hac p (by simp)
    rw [fwF_snoc]
    generalize fwF X goal l' = b at *
    unfold fwS
    by_cases hg : goal ≤ eaF X p p.length
    · by_cases hb : b < 0 ∨ acF X p p.length < b
      · rw [if_pos ⟨hg, hb⟩]
        refine ⟨⟨fun _ => ⟨p, by simp, hg⟩, fun _ => hp⟩, fun _ => ⟨⟨p, by simp, hg, rfl⟩, fun P hP hgP => ?_⟩⟩
        rcases List.mem_append.1 hP with hP | hP
        · have h3 := h1.2 ⟨P, hP, hgP⟩
          have h4 := (h2 h3).2 P hP hgP
          omega
        · rw [List.mem_singleton.1 hP]; exact Int.le_refl _
      · rw [if_neg (fun h => hb h.2)]
        have hb0 : 0 ≤ b := by omega
        obtain ⟨⟨P, hP, hgP, e⟩, h4⟩ := h2 hb0
        refine ⟨⟨fun _ => ⟨p, by simp, hg⟩, fun _ => hb0⟩, fun _ => ⟨⟨P, List.mem_append_left _ hP, hgP, e⟩, fun Q hQ hgQ => ?_⟩⟩
        rcases List.mem_append.1 hQ with hQ | hQ
        · exact h4 Q hQ hgQ
        · rw [List.mem_singleton.1 hQ]; omega
    · rw [if_neg (fun h => hg h.1)]
      refine ⟨h1.trans ⟨fun ⟨P, hP, hgP⟩ => ⟨P, List.mem_append_left _ hP, hgP⟩, fun ⟨P, hP, hgP⟩ => ?_⟩, fun hb0 => ?_⟩
      · rcases List.mem_append.1 hP with hP | hP
        · exact ⟨P, hP, hgP⟩
        · rw [List.mem_singleton.1 hP] at hgP; exact absurd hgP hg
      · obtain ⟨⟨P, hP, hgP, e⟩, h4⟩ := h2 hb0
        refine ⟨⟨P, List.mem_append_left _ hP, hgP, e⟩, fun Q hQ hgQ => ?_⟩
        rcases List.mem_append.1 hQ with hQ | hQ
        · exact h4 Q hQ hgQ
        · rw [List.mem_singleton.1 hQ] at hgQ; exact absurd hgQ hg
theorem ac_pl {X : Sw} (hok : XOk X) {P : List (List Int)} (hpl : plB X P = true) : acF X P P.length = (chT X.vz (planM P) : Int) := by
  have hl := (plB_parts hpl).1
  have := ac_ch hok hpl P.length (by omega)
  rw [this, hl]; rfl
/-- Its answer is the program's. -/
theorem few_eq {X : Sw} (hok : XOk X) (goal y : Int) (o : Bool) (hy : (y, o) = fewV X.vz goal) : (if fwF X goal (ftL X X.bs.length []) < 0 then (0 : Int) else fwF X goal (ftL X X.bs.length [])) = (if o then y else 0) ∧ (fwF X goal (ftL X X.bs.length []) < 0 ↔ o = false) := by
  obtain ⟨h1, h2⟩ := few_ok X.vz goal (plansV X.vz)
  obtain ⟨g1, g2⟩ := fw_facts X goal _ (ftL X X.bs.length []) rfl (fun P hP => by rw [ac_pl hok (ft_pl hok P hP).1]; omega)
  have ey : (fewF X.vz goal (plansV X.vz)).1 = y := by rw [show fewF X.vz goal (plansV X.vz) = (y, o) from hy.symm]
  have eo : (fewF X.vz goal (plansV X.vz)).2 = o := by rw [show fewF X.vz goal (plansV X.vz) = (y, o) from hy.symm]
  rw [eo] at h1 h2
  rw [ey] at h2
  have hto : ∀ P ∈ ftL X X.bs.length [], planM P ∈ plansV X.vz ∧ eaF X P P.length = earn X.vz (planM P) ∧ acF X P P.length = (chT X.vz (planM P) : Int) := fun P hP => by
    obtain ⟨f1, f2⟩ := ft_pl hok P hP
    exact ⟨fit_in hok f1 (by rw [← dfB_fit hok f1]; exact f2), earn_ea hok f1, ac_pl hok f1⟩
  have hfr : ∀ p ∈ plansV X.vz, ∃ P ∈ ftL X X.bs.length [], eaF X P P.length = earn X.vz p ∧ acF X P P.length = (chT X.vz p : Int) := fun p hp => by
    obtain ⟨hpl, hpm⟩ := lists_plan hok hp
    have hin : listsL p X.bs.length ∈ ftL X X.bs.length [] := by
      have := ft_all hok hp X.bs.length (Nat.le_refl _)
      rw [Nat.sub_self, List.take_zero] at this
      exact this
    exact ⟨_, hin, by rw [earn_ea hok hpl, hpm], by rw [ac_pl hok hpl, hpm]⟩
  generalize fwF X goal (ftL X X.bs.length []) = b at *
  have key : 0 ≤ b ↔ o = true := by
    rw [g1, h1]
    constructor
    · rintro ⟨P, hP, hg⟩
      obtain ⟨a1, a2, _⟩ := hto P hP
      exact ⟨_, a1, by omega⟩
    · rintro ⟨p, hp, hg⟩
      obtain ⟨P, hP, a2, _⟩ := hfr p hp
      exact ⟨P, hP, by omega⟩
  cases o with
  | false =>
    have hb : b < 0 := by
      rcases Int.lt_or_le b 0 with h | h
      · exact h
      · exact absurd (key.1 h) (by simp)
    exact ⟨by simp [hb], by simp [hb]⟩
  | true =>
    have hb := key.2 rfl
    obtain ⟨⟨P, hP, hg, e⟩, k1⟩ := g2 hb
    obtain ⟨⟨p, hp, hgp, ep⟩, k2⟩ := h2 rfl
    obtain ⟨a1, a2, a3⟩ := hto P hP
    obtain ⟨Q, hQ, b2, b3⟩ := hfr p hp
    have := k1 Q hQ (by omega)
    have := k2 _ a1 (by omega)
    have hbn : ¬ b < 0 := by omega
    exact ⟨by rw [if_neg hbn, if_pos rfl]; omega, by simp [hbn]⟩
end Go.Proofs.Ytipdohpbilabiaa
/-! The reference's Fewest: walks. -/
namespace Go.Proofs.Ytipdohpbilabiaa
set_option linter.unusedSimpArgs false
set_option linter.unusedVariables false
open Go Go.RowKit

set_option maxRecDepth 100000 in
set_option maxHeartbeats 2000000 in
theorem RFewest_bad (ab ast ae ak : Option Addr) (cb cs ce ck : Nat) (X : Sw) (goal : Int) (w : World) (hX : Swp w ab ast ae ak X) (r : Int) (hr : r = if vB X then 1 else 70) (hb : vB X = true → inI 0 goal 99999 = false) : Calls Try.prog 39 #[.agg #[.slice ab X.bs.length cb, .slice ast X.st.length cs, .slice ae X.er.length ce, .slice ak X.ks.length ck, .int .i64 X.ch], .int .i64 goal] w fun e w' => e = .returned (.tuple #[.int .i64 0, .int .i64 r]) ∧ Below w.heap.size w w' := by
  obtain ⟨W, hW, hbw, _, x0⟩ := boxes1 w #[.slice ab X.bs.length cb, .slice ast X.st.length cs, .slice ae X.er.length ce, .slice ak X.ks.length ck, .int .i64 X.ch] 26
  have hck := fun V (h : Below w.heap.size w V) => Check_any ab ast ae ak cb cs ce ck X V (hX.below h (Nat.le_refl _))
  have hwi := fun V => within_any goal 0 99999 V
  cases hv : vB X with
  | false =>
    rw [hv] at hck hr
    rw [show cod false = 70 from rfl] at hck
    replace hr : r = 70 := hr
    subst hr
    clear hX hv hb hwi
    have c0 := x0.cell 0 rfl; have c1 := x0.cell 1 rfl; have c2 := x0.cell 2 rfl; have c3 := x0.cell 3 rfl; have c4 := x0.cell 4 rfl
    go_enter Try.func39, Try.ntmps39
    go_wp2_with fail
    refine (hck _ hbw).mono ?_
    rintro e W1 ⟨rfl, hb1⟩
    replace hb := hbw.trans (hb1.mono hbw.size)
    clear hW c0 c1 c2 c3 c4 hb1 hck x0
    go_wp2
    go_ret2
    exact ⟨rfl, hb⟩
  | true =>
    rw [hb hv] at hwi
    rw [hv] at hck hr
    rw [show cod true = 0 from rfl] at hck
    replace hr : r = 1 := hr
    subst hr
    clear hX hv hb
    have c0 := x0.cell 0 rfl; have c1 := x0.cell 1 rfl; have c2 := x0.cell 2 rfl; have c3 := x0.cell 3 rfl; have c4 := x0.cell 4 rfl
    go_enter Try.func39, Try.ntmps39
    go_wp2_with fail
    refine (hck _ hbw).mono ?_
    rintro e W1 ⟨rfl, hb1⟩
    replace hb := hbw.trans (hb1.mono hbw.size)
    clear hW c0 c1 c2 c3 c4 hb1 hck x0
    go_wp2_with fail
    refine (hwi _).mono ?_
    rintro e W2 ⟨rfl, rfl⟩
    go_wp2
    go_ret2
    exact ⟨rfl, hb⟩

set_option maxRecDepth 100000 in
set_option maxHeartbeats 6000000 in
theorem RFewest_ok (ab ast ae ak : Option Addr) (cb cs ce ck : Nat) (X : Sw) (goal : Int) (w : World) (hX : Swp w ab ast ae ak X) (hv : vB X = true) (hgo : inI 0 goal 99999 = true) (y : Int) (o : Bool) (hy : (y, o) = fewV X.vz goal) : Calls Try.prog 39 #[.agg #[.slice ab X.bs.length cb, .slice ast X.st.length cs, .slice ae X.er.length ce, .slice ak X.ks.length ck, .int .i64 X.ch], .int .i64 goal] w fun e w' => e = .returned (.tuple #[.int .i64 (if o then y else 0), .int .i64 (if o then 0 else 3)]) ∧ Below w.heap.size w w' := by
  have hok := vB_iff hv
  obtain ⟨W, hW, hb, _, x0⟩ := boxes1 w #[.slice ab X.bs.length cb, .slice ast X.st.length cs, .slice ae X.er.length ce, .slice ak X.ks.length ck, .int .i64 X.ch] 26
  have hck := fun V (h : Below w.heap.size w V) => Check_any ab ast ae ak cb cs ce ck X V (hX.below h (Nat.le_refl _))
  rw [hv, show cod true = 0 from rfl] at hck
  have hwi := fun V => within_any goal 0 99999 V
  rw [hgo] at hwi
  have hft := fun V (h : Below w.heap.size w V) => fitting_all ab ast ae ak cb cs ce ck X hok V (hX.below h (Nat.le_refl _))
  have HEH : Hid (∀ (V : World) (P : List (List Int)) (al : Option Addr) (cl : Nat), P ∈ ftL X X.bs.length [] → Below w.heap.size w V → Py V al P → Calls Try.prog 37 #[.agg #[.slice ab X.bs.length cb, .slice ast X.st.length cs, .slice ae X.er.length ce, .slice ak X.ks.length ck, .int .i64 X.ch], .slice al P.length cl] V fun e w' => e = .returned (.int .i64 (eaF X P P.length)) ∧ Below V.heap.size V w') := hid fun V P al cl hP hV hI =>
    EarnsAll_pl ab ast ae ak cb cs ce ck X hok al cl P (ft_pl hok P hP).1 V (hX.below hV (Nat.le_refl _)) hI.lss
  have HAH : Hid (∀ (V : World) (P : List (List Int)) (al : Option Addr) (cl : Nat), P ∈ ftL X X.bs.length [] → Below w.heap.size w V → Py V al P → Calls Try.prog 45 #[.agg #[.slice ab X.bs.length cb, .slice ast X.st.length cs, .slice ae X.er.length ce, .slice ak X.ks.length ck, .int .i64 X.ch], .slice al P.length cl] V fun e w' => e = .returned (.int .i64 (acF X P P.length)) ∧ Below V.heap.size V w') := hid fun V P al cl hP hV hI => by
    have hl := (plB_parts (ft_pl hok P hP).1).1
    have hn3 := hok.nb3
    exact AllChanges_any ab ast ae ak cb cs ce ck X al cl P hl (by omega) (plB_six hok (ft_pl hok P hP).1) V (hX.below hV (Nat.le_refl _)) hI.lss
  obtain ⟨hE1, hE2⟩ := few_eq hok goal y o hy
  have HE1 := hid hE1
  have HE2 := hid hE2
  have hfl := ftL_small hok
  generalize ftL X X.bs.length [] = FF at *
  clear hX hv hok hE1 hE2 hy hgo
  obtain ⟨nF, hnF⟩ : ∃ nF, nF = FF.length := ⟨_, rfl⟩
  unfold FtP at hft
  rw [← hnF] at hfl hft
  have HNF := hid hnF
  clear hnF
  obtain ⟨y1, hy1⟩ : ∃ y1, y1 = if o then y else 0 := ⟨_, rfl⟩
  obtain ⟨e1, he1⟩ : ∃ e1 : Int, e1 = if o then 0 else 3 := ⟨_, rfl⟩
  rw [← hy1, ← he1]
  rw [← hy1] at HE1
  have HER := hid he1
  clear hy1 he1
  have c0 := x0.cell 0 rfl; have c1 := x0.cell 1 rfl; have c2 := x0.cell 2 rfl; have c3 := x0.cell 3 rfl; have c4 := x0.cell 4 rfl
  go_enter Try.func39, Try.ntmps39
  go_wp2_with fail
  refine (hck _ hb).mono ?_
  rintro e W1 ⟨rfl, hb1⟩
  replace hb := hb.trans (hb1.mono hb.size)
  replace x0 := x0.below hb1
  clear hW c0 c1 c2 c3 c4 hb1 hck
  go_wp2_with fail
  refine (hwi _).mono ?_
  rintro e W2 ⟨rfl, rfl⟩
  have c0 := x0.cell 0 rfl; have c1 := x0.cell 1 rfl; have c2 := x0.cell 2 rfl; have c3 := x0.cell 3 rfl; have c4 := x0.cell 4 rfl
  go_wp2_with fail
  refine (hft _ hb).mono ?_
  rintro e W3 ⟨hb1, aF, cF, rfl, hR⟩
  replace hb := hb.trans (hb1.mono hb.size)
  replace x0 := x0.below hb1
  clear c0 c1 c2 c3 c4 hb1 hft hwi
  have hWs := hb.size
  go_wp2
  go_loopw [8, 9] (fun v8 v9 wr => ∃ i : Nat, i ≤ nF ∧ v9 = .int .i64 (i : Int) ∧ v8 = .int .i64 (fwF X goal (FF.take i)) ∧ Below W3.heap.size W3 wr) (fun _ v9 _ => nF - (intOf v9).toNat)
  case atStart => exact ⟨0, Nat.zero_le _, rfl, rfl, Below.refl _ _⟩
  case round =>
    obtain ⟨i, hi, rfl, rfl, hb1⟩ := hrel
    by_cases hil : i < nF
    · have hbw := hb.trans (hb1.mono hWs)
      have xr := x0.below hb1
      have hR1 := hR.below hb1 (Nat.le_refl _)
      obtain ⟨b, off, s, a', c', hap, hbl, hc, hI, hmem, _, htk⟩ := hR1.at (k := i) (by rw [← HNF.out]; exact hil)
      subst hap
      have hiI : (i : Int) < nF := by omega
      have hi0 : (0 : Int) ≤ (i : Int) := by omega
      have hac := fun (t : Ext wr) => HAH.out t.w s a' c' hmem (hbw.trans (t.below.mono hbw.size)) (hI.below t.below (Nat.le_refl _))
      have hei := fun V (h : Below wr.heap.size wr V) => HEH.out V s a' c' hmem (hbw.trans (h.mono hbw.size)) (hI.below h (Nat.le_refl _))
      have HS := hid (fwF_take (X := X) goal htk.out)
      unfold fwS at HS
      obtain ⟨ea, hea⟩ : ∃ ea, ea = eaF X s s.length := ⟨_, rfl⟩
      obtain ⟨ac, hace⟩ : ∃ ac, ac = acF X s s.length := ⟨_, rfl⟩
      rw [← hea, ← hace] at HS
      rw [← hea] at hei
      rw [← hace] at hac
      obtain ⟨m, hm⟩ : ∃ m, m = s.length := ⟨_, rfl⟩
      rw [← hm] at hc hac hei
      obtain ⟨bb, hbb⟩ : ∃ bb, bb = fwF X goal (FF.take i) := ⟨_, rfl⟩
      rw [← hbb] at HS ⊢
      have hcc : ClB wr b (off + i) (.slice a' m c') := ⟨hc, hbl⟩
      have d0 := xr.ext 0 rfl; have d1 := xr.ext 1 rfl; have d2 := xr.ext 2 rfl; have d3 := xr.ext 3 rfl; have d4 := xr.ext 4 rfl; 
      have f1 := fun t => Ext.cell hc t
      clear hR1 hI hm hbb hea hace htk hc
      go_upto_region 10 with fail
      refine wp_region_ext_lit (by kernel_rfl) (by kernel_rfl) ?_
      repeat (quiet_step (first | (go_at_call 45; exact quiet_ext (hac _))))
      refine wpQuiet_nil ?_
      intro _ hw'
      obtain ⟨t, rfl⟩ := hw'
      obtain ⟨wo, hwo⟩ : ∃ wo : World, wo = t.w := ⟨_, rfl⟩
      have hbt := t.below
      rw [← hwo] at hbt ⊢
      have hbo := hb1.trans (hbt.mono hb1.size)
      replace hei := fun V (h : BlS wo V) => hei V (hbt.trans (Below.mono h hbt.size))
      have xo := xr.below hbt
      replace hcc := hcc.below hbt
      clear hwo f1 d0 d1 d2 d3 d4 hac xr hbt
      go_wp2_with fail
      by_cases hge : goal ≤ ea
      · by_cases hb0 : bb < 0
        · have HS1 := hid (show fwF X goal (FF.take (i + 1)) = ac by rw [HS.out, if_pos ⟨hge, .inl hb0⟩])
          clear HS
          go_upto_region 11 with fail
          have S0 : BlS wo wo.drew := (Below.refl wo.heap.size wo).drew
          refine wp_region_head 16 (fun w' => BlS wo w') (by kernel_rfl) rfl ?_
          generalize wo.drew = Y0 at *
          refine HeadAt.take (i := 0) (.agg #[.slice ab X.bs.length cb, .slice ast X.st.length cs, .slice ae X.er.length ce, .slice ak X.ks.length ck, .int .i64 X.ch]) rfl (by kernel_rfl) (.inl ⟨rfl, fun w' z => ?_⟩) S0 ?_
          · (have z0 := (xo.below z).cell 0 rfl; have z1 := (xo.below z).cell 1 rfl; have z2 := (xo.below z).cell 2 rfl; have z3 := (xo.below z).cell 3 rfl; have z4 := (xo.below z).cell 4 rfl; simp [go_sem, z0, z1, z2, z3, z4])
          (try simp only [Act.put, List.getElem_toArray, List.getElem_cons_succ, List.getElem_cons_zero, List.setIfInBounds_toArray, List.set_cons_succ, List.set_cons_zero])
          refine HeadAt.take (i := 1) (.slice (some ⟨b, off, none⟩) nF cF) rfl (by kernel_rfl) (.inl ⟨rfl, fun _ _ => by simp [go_sem]⟩) S0 ?_
          (try simp only [Act.put, List.getElem_toArray, List.getElem_cons_succ, List.getElem_cons_zero, List.setIfInBounds_toArray, List.set_cons_succ, List.set_cons_zero])
          refine HeadAt.take (i := 2) (.int .i64 (i : Int)) rfl (by kernel_rfl) (.inl ⟨rfl, fun _ _ => by simp [go_sem]⟩) S0 ?_
          (try simp only [Act.put, List.getElem_toArray, List.getElem_cons_succ, List.getElem_cons_zero, List.setIfInBounds_toArray, List.set_cons_succ, List.set_cons_zero])
          refine HeadAt.take (i := 3) (.pointer (some ⟨b, off + i, none⟩)) rfl (by kernel_rfl) (.inl ⟨rfl, fun w' z => ?_⟩) S0 ?_
          · (simp [go_sem, hiI, hi0])
          (try simp only [Act.put, List.getElem_toArray, List.getElem_cons_succ, List.getElem_cons_zero, List.setIfInBounds_toArray, List.set_cons_succ, List.set_cons_zero])
          refine HeadAt.take (i := 4) (.slice a' m c') rfl (by kernel_rfl) (.inl ⟨rfl, fun w' z => ?_⟩) S0 ?_
          · (have z0 := (hcc.below z).1; simp [go_sem, z0])
          (try simp only [Act.put, List.getElem_toArray, List.getElem_cons_succ, List.getElem_cons_zero, List.setIfInBounds_toArray, List.set_cons_succ, List.set_cons_zero])
          refine HeadAt.take (i := 6) (.int .i64 goal) rfl (by kernel_rfl) (.inl ⟨rfl, fun _ _ => by simp [go_sem]⟩) S0 ?_
          (try simp only [Act.put, List.getElem_toArray, List.getElem_cons_succ, List.getElem_cons_zero, List.setIfInBounds_toArray, List.set_cons_succ, List.set_cons_zero])
          refine HeadAt.one (i := 5) rfl (by kernel_rfl) ?_
          generalize hK : Upto _ _ = K0
          (try simp only [Act.put, List.getElem_toArray, List.getElem_cons_succ, List.getElem_cons_zero, List.setIfInBounds_toArray, List.set_cons_succ, List.set_cons_zero])
          go_wp2_with fail
          refine (hei _ S0).mono ?_
          rintro e V1 ⟨rfl, hb3⟩
          go_wp2_with fail
          have S1 : BlS wo V1 := Below.trans S0 (hb3.mono (Below.size S0))
          subst hK
          refine ⟨S1, ?_⟩
          (try simp only [Act.put, List.getElem_toArray, List.getElem_cons_succ, List.getElem_cons_zero, List.setIfInBounds_toArray, List.set_cons_succ, List.set_cons_zero])
          clear S0 hb3
          have S0 := S1
          clear S1
          refine HeadAt.take (i := 7) (.bool true) rfl (by kernel_rfl) (.inl ⟨rfl, fun w' z => ?_⟩) S0 ?_
          · (simp [go_sem, hge])
          (try simp only [Act.put, List.getElem_toArray, List.getElem_cons_succ, List.getElem_cons_zero, List.setIfInBounds_toArray, List.set_cons_succ, List.set_cons_zero])
          refine HeadAt.take (i := 8) (.bool true) rfl (by kernel_rfl) (.inl ⟨rfl, fun _ _ => by simp [go_sem]⟩) S0 ?_
          (try simp only [Act.put, List.getElem_toArray, List.getElem_cons_succ, List.getElem_cons_zero, List.setIfInBounds_toArray, List.set_cons_succ, List.set_cons_zero])
          refine HeadAt.take (i := 9) (.int .i64 bb) rfl (by kernel_rfl) (.inl ⟨rfl, fun _ _ => by simp [go_sem]⟩) S0 ?_
          (try simp only [Act.put, List.getElem_toArray, List.getElem_cons_succ, List.getElem_cons_zero, List.setIfInBounds_toArray, List.set_cons_succ, List.set_cons_zero])
          refine HeadAt.take (i := 10) (.bool true) rfl (by kernel_rfl) (.inl ⟨rfl, fun w' z => ?_⟩) S0 ?_
          · (simp [go_sem, hb0])
          (try simp only [Act.put, List.getElem_toArray, List.getElem_cons_succ, List.getElem_cons_zero, List.setIfInBounds_toArray, List.set_cons_succ, List.set_cons_zero])
          refine HeadAt.take (i := 11) (.bool true) rfl (by kernel_rfl) (.inl ⟨rfl, fun _ _ => by simp [go_sem]⟩) S0 ?_
          (try simp only [Act.put, List.getElem_toArray, List.getElem_cons_succ, List.getElem_cons_zero, List.setIfInBounds_toArray, List.set_cons_succ, List.set_cons_zero])
          refine HeadAt.take (i := 12) undef rfl (by kernel_rfl) (.inr ⟨by kernel_rfl, rfl⟩) S0 ?_
          (try simp only [Act.put, List.getElem_toArray, List.getElem_cons_succ, List.getElem_cons_zero, List.setIfInBounds_toArray, List.set_cons_succ, List.set_cons_zero])
          refine HeadAt.take (i := 13) undef rfl (by kernel_rfl) (.inr ⟨by kernel_rfl, rfl⟩) S0 ?_
          (try simp only [Act.put, List.getElem_toArray, List.getElem_cons_succ, List.getElem_cons_zero, List.setIfInBounds_toArray, List.set_cons_succ, List.set_cons_zero])
          refine HeadAt.take (i := 14) undef rfl (by kernel_rfl) (.inr ⟨by kernel_rfl, rfl⟩) S0 ?_
          (try simp only [Act.put, List.getElem_toArray, List.getElem_cons_succ, List.getElem_cons_zero, List.setIfInBounds_toArray, List.set_cons_succ, List.set_cons_zero])
          refine HeadAt.take (i := 15) (.bool true) rfl (by kernel_rfl) (.inl ⟨rfl, fun _ _ => by simp [go_sem]⟩) S0 ?_
          (try simp only [Act.put, List.getElem_toArray, List.getElem_cons_succ, List.getElem_cons_zero, List.setIfInBounds_toArray, List.set_cons_succ, List.set_cons_zero])
          refine HeadAt.done (by kernel_rfl) ?_
          (try simp only [Act.put, List.drop_succ_cons, List.drop_zero, List.getElem_toArray, List.getElem_cons_succ, List.getElem_cons_zero])
          go_wp2_with fail
          refine NoPanic.normal ?_
          have hb4 := hbo.trans (Below.mono S0 hbo.size)
          clear S0
          go_wp2
          go_roundw
          case rel => exact ⟨i + 1, by omega, by simp, by rw [HS1.out], hb4⟩
          case measure => simp [intOf]; omega
        · by_cases hlt : ac < bb
          · have HS1 := hid (show fwF X goal (FF.take (i + 1)) = ac by rw [HS.out, if_pos ⟨hge, .inr hlt⟩])
            clear HS
            go_upto_region 11 with fail
            have S0 : BlS wo wo.drew := (Below.refl wo.heap.size wo).drew
            refine wp_region_head 16 (fun w' => BlS wo w') (by kernel_rfl) rfl ?_
            generalize wo.drew = Y0 at *
            refine HeadAt.take (i := 0) (.agg #[.slice ab X.bs.length cb, .slice ast X.st.length cs, .slice ae X.er.length ce, .slice ak X.ks.length ck, .int .i64 X.ch]) rfl (by kernel_rfl) (.inl ⟨rfl, fun w' z => ?_⟩) S0 ?_
            · (have z0 := (xo.below z).cell 0 rfl; have z1 := (xo.below z).cell 1 rfl; have z2 := (xo.below z).cell 2 rfl; have z3 := (xo.below z).cell 3 rfl; have z4 := (xo.below z).cell 4 rfl; simp [go_sem, z0, z1, z2, z3, z4])
            (try simp only [Act.put, List.getElem_toArray, List.getElem_cons_succ, List.getElem_cons_zero, List.setIfInBounds_toArray, List.set_cons_succ, List.set_cons_zero])
            refine HeadAt.take (i := 1) (.slice (some ⟨b, off, none⟩) nF cF) rfl (by kernel_rfl) (.inl ⟨rfl, fun _ _ => by simp [go_sem]⟩) S0 ?_
            (try simp only [Act.put, List.getElem_toArray, List.getElem_cons_succ, List.getElem_cons_zero, List.setIfInBounds_toArray, List.set_cons_succ, List.set_cons_zero])
            refine HeadAt.take (i := 2) (.int .i64 (i : Int)) rfl (by kernel_rfl) (.inl ⟨rfl, fun _ _ => by simp [go_sem]⟩) S0 ?_
            (try simp only [Act.put, List.getElem_toArray, List.getElem_cons_succ, List.getElem_cons_zero, List.setIfInBounds_toArray, List.set_cons_succ, List.set_cons_zero])
            refine HeadAt.take (i := 3) (.pointer (some ⟨b, off + i, none⟩)) rfl (by kernel_rfl) (.inl ⟨rfl, fun w' z => ?_⟩) S0 ?_
            · (simp [go_sem, hiI, hi0])
            (try simp only [Act.put, List.getElem_toArray, List.getElem_cons_succ, List.getElem_cons_zero, List.setIfInBounds_toArray, List.set_cons_succ, List.set_cons_zero])
            refine HeadAt.take (i := 4) (.slice a' m c') rfl (by kernel_rfl) (.inl ⟨rfl, fun w' z => ?_⟩) S0 ?_
            · (have z0 := (hcc.below z).1; simp [go_sem, z0])
            (try simp only [Act.put, List.getElem_toArray, List.getElem_cons_succ, List.getElem_cons_zero, List.setIfInBounds_toArray, List.set_cons_succ, List.set_cons_zero])
            refine HeadAt.take (i := 6) (.int .i64 goal) rfl (by kernel_rfl) (.inl ⟨rfl, fun _ _ => by simp [go_sem]⟩) S0 ?_
            (try simp only [Act.put, List.getElem_toArray, List.getElem_cons_succ, List.getElem_cons_zero, List.setIfInBounds_toArray, List.set_cons_succ, List.set_cons_zero])
            refine HeadAt.one (i := 5) rfl (by kernel_rfl) ?_
            generalize hK : Upto _ _ = K0
            (try simp only [Act.put, List.getElem_toArray, List.getElem_cons_succ, List.getElem_cons_zero, List.setIfInBounds_toArray, List.set_cons_succ, List.set_cons_zero])
            go_wp2_with fail
            refine (hei _ S0).mono ?_
            rintro e V1 ⟨rfl, hb3⟩
            go_wp2_with fail
            have S1 : BlS wo V1 := Below.trans S0 (hb3.mono (Below.size S0))
            subst hK
            refine ⟨S1, ?_⟩
            (try simp only [Act.put, List.getElem_toArray, List.getElem_cons_succ, List.getElem_cons_zero, List.setIfInBounds_toArray, List.set_cons_succ, List.set_cons_zero])
            clear S0 hb3
            have S0 := S1
            clear S1
            refine HeadAt.take (i := 7) (.bool true) rfl (by kernel_rfl) (.inl ⟨rfl, fun w' z => ?_⟩) S0 ?_
            · (simp [go_sem, hge])
            (try simp only [Act.put, List.getElem_toArray, List.getElem_cons_succ, List.getElem_cons_zero, List.setIfInBounds_toArray, List.set_cons_succ, List.set_cons_zero])
            refine HeadAt.take (i := 8) (.bool true) rfl (by kernel_rfl) (.inl ⟨rfl, fun _ _ => by simp [go_sem]⟩) S0 ?_
            (try simp only [Act.put, List.getElem_toArray, List.getElem_cons_succ, List.getElem_cons_zero, List.setIfInBounds_toArray, List.set_cons_succ, List.set_cons_zero])
            refine HeadAt.take (i := 9) (.int .i64 bb) rfl (by kernel_rfl) (.inl ⟨rfl, fun _ _ => by simp [go_sem]⟩) S0 ?_
            (try simp only [Act.put, List.getElem_toArray, List.getElem_cons_succ, List.getElem_cons_zero, List.setIfInBounds_toArray, List.set_cons_succ, List.set_cons_zero])
            refine HeadAt.take (i := 10) (.bool false) rfl (by kernel_rfl) (.inl ⟨rfl, fun w' z => ?_⟩) S0 ?_
            · (simp [go_sem, hb0])
            (try simp only [Act.put, List.getElem_toArray, List.getElem_cons_succ, List.getElem_cons_zero, List.setIfInBounds_toArray, List.set_cons_succ, List.set_cons_zero])
            refine HeadAt.take (i := 11) (.bool false) rfl (by kernel_rfl) (.inl ⟨rfl, fun _ _ => by simp [go_sem]⟩) S0 ?_
            (try simp only [Act.put, List.getElem_toArray, List.getElem_cons_succ, List.getElem_cons_zero, List.setIfInBounds_toArray, List.set_cons_succ, List.set_cons_zero])
            refine HeadAt.take (i := 12) (.int .i64 ac) rfl (by kernel_rfl) (.inl ⟨rfl, fun _ _ => by simp [go_sem]⟩) S0 ?_
            (try simp only [Act.put, List.getElem_toArray, List.getElem_cons_succ, List.getElem_cons_zero, List.setIfInBounds_toArray, List.set_cons_succ, List.set_cons_zero])
            refine HeadAt.take (i := 13) (.int .i64 bb) rfl (by kernel_rfl) (.inl ⟨rfl, fun _ _ => by simp [go_sem]⟩) S0 ?_
            (try simp only [Act.put, List.getElem_toArray, List.getElem_cons_succ, List.getElem_cons_zero, List.setIfInBounds_toArray, List.set_cons_succ, List.set_cons_zero])
            refine HeadAt.take (i := 14) (.bool true) rfl (by kernel_rfl) (.inl ⟨rfl, fun w' z => ?_⟩) S0 ?_
            · (simp [go_sem, hlt])
            (try simp only [Act.put, List.getElem_toArray, List.getElem_cons_succ, List.getElem_cons_zero, List.setIfInBounds_toArray, List.set_cons_succ, List.set_cons_zero])
            refine HeadAt.take (i := 15) (.bool true) rfl (by kernel_rfl) (.inl ⟨rfl, fun _ _ => by simp [go_sem]⟩) S0 ?_
            (try simp only [Act.put, List.getElem_toArray, List.getElem_cons_succ, List.getElem_cons_zero, List.setIfInBounds_toArray, List.set_cons_succ, List.set_cons_zero])
            refine HeadAt.done (by kernel_rfl) ?_
            (try simp only [Act.put, List.drop_succ_cons, List.drop_zero, List.getElem_toArray, List.getElem_cons_succ, List.getElem_cons_zero])
            go_wp2_with fail
            refine NoPanic.normal ?_
            have hb4 := hbo.trans (Below.mono S0 hbo.size)
            clear S0
            go_wp2
            go_roundw
            case rel => exact ⟨i + 1, by omega, by simp, by rw [HS1.out], hb4⟩
            case measure => simp [intOf]; omega
          · have HS1 := hid (show fwF X goal (FF.take (i + 1)) = bb by rw [HS.out, if_neg (fun h => h.2.elim hb0 hlt)])
            clear HS
            go_upto_region 11 with fail
            have S0 : BlS wo wo.drew := (Below.refl wo.heap.size wo).drew
            refine wp_region_head 16 (fun w' => BlS wo w') (by kernel_rfl) rfl ?_
            generalize wo.drew = Y0 at *
            refine HeadAt.take (i := 0) (.agg #[.slice ab X.bs.length cb, .slice ast X.st.length cs, .slice ae X.er.length ce, .slice ak X.ks.length ck, .int .i64 X.ch]) rfl (by kernel_rfl) (.inl ⟨rfl, fun w' z => ?_⟩) S0 ?_
            · (have z0 := (xo.below z).cell 0 rfl; have z1 := (xo.below z).cell 1 rfl; have z2 := (xo.below z).cell 2 rfl; have z3 := (xo.below z).cell 3 rfl; have z4 := (xo.below z).cell 4 rfl; simp [go_sem, z0, z1, z2, z3, z4])
            (try simp only [Act.put, List.getElem_toArray, List.getElem_cons_succ, List.getElem_cons_zero, List.setIfInBounds_toArray, List.set_cons_succ, List.set_cons_zero])
            refine HeadAt.take (i := 1) (.slice (some ⟨b, off, none⟩) nF cF) rfl (by kernel_rfl) (.inl ⟨rfl, fun _ _ => by simp [go_sem]⟩) S0 ?_
            (try simp only [Act.put, List.getElem_toArray, List.getElem_cons_succ, List.getElem_cons_zero, List.setIfInBounds_toArray, List.set_cons_succ, List.set_cons_zero])
            refine HeadAt.take (i := 2) (.int .i64 (i : Int)) rfl (by kernel_rfl) (.inl ⟨rfl, fun _ _ => by simp [go_sem]⟩) S0 ?_
            (try simp only [Act.put, List.getElem_toArray, List.getElem_cons_succ, List.getElem_cons_zero, List.setIfInBounds_toArray, List.set_cons_succ, List.set_cons_zero])
            refine HeadAt.take (i := 3) (.pointer (some ⟨b, off + i, none⟩)) rfl (by kernel_rfl) (.inl ⟨rfl, fun w' z => ?_⟩) S0 ?_
            · (simp [go_sem, hiI, hi0])
            (try simp only [Act.put, List.getElem_toArray, List.getElem_cons_succ, List.getElem_cons_zero, List.setIfInBounds_toArray, List.set_cons_succ, List.set_cons_zero])
            refine HeadAt.take (i := 4) (.slice a' m c') rfl (by kernel_rfl) (.inl ⟨rfl, fun w' z => ?_⟩) S0 ?_
            · (have z0 := (hcc.below z).1; simp [go_sem, z0])
            (try simp only [Act.put, List.getElem_toArray, List.getElem_cons_succ, List.getElem_cons_zero, List.setIfInBounds_toArray, List.set_cons_succ, List.set_cons_zero])
            refine HeadAt.take (i := 6) (.int .i64 goal) rfl (by kernel_rfl) (.inl ⟨rfl, fun _ _ => by simp [go_sem]⟩) S0 ?_
            (try simp only [Act.put, List.getElem_toArray, List.getElem_cons_succ, List.getElem_cons_zero, List.setIfInBounds_toArray, List.set_cons_succ, List.set_cons_zero])
            refine HeadAt.one (i := 5) rfl (by kernel_rfl) ?_
            generalize hK : Upto _ _ = K0
            (try simp only [Act.put, List.getElem_toArray, List.getElem_cons_succ, List.getElem_cons_zero, List.setIfInBounds_toArray, List.set_cons_succ, List.set_cons_zero])
            go_wp2_with fail
            refine (hei _ S0).mono ?_
            rintro e V1 ⟨rfl, hb3⟩
            go_wp2_with fail
            have S1 : BlS wo V1 := Below.trans S0 (hb3.mono (Below.size S0))
            subst hK
            refine ⟨S1, ?_⟩
            (try simp only [Act.put, List.getElem_toArray, List.getElem_cons_succ, List.getElem_cons_zero, List.setIfInBounds_toArray, List.set_cons_succ, List.set_cons_zero])
            clear S0 hb3
            have S0 := S1
            clear S1
            refine HeadAt.take (i := 7) (.bool true) rfl (by kernel_rfl) (.inl ⟨rfl, fun w' z => ?_⟩) S0 ?_
            · (simp [go_sem, hge])
            (try simp only [Act.put, List.getElem_toArray, List.getElem_cons_succ, List.getElem_cons_zero, List.setIfInBounds_toArray, List.set_cons_succ, List.set_cons_zero])
            refine HeadAt.take (i := 8) (.bool true) rfl (by kernel_rfl) (.inl ⟨rfl, fun _ _ => by simp [go_sem]⟩) S0 ?_
            (try simp only [Act.put, List.getElem_toArray, List.getElem_cons_succ, List.getElem_cons_zero, List.setIfInBounds_toArray, List.set_cons_succ, List.set_cons_zero])
            refine HeadAt.take (i := 9) (.int .i64 bb) rfl (by kernel_rfl) (.inl ⟨rfl, fun _ _ => by simp [go_sem]⟩) S0 ?_
            (try simp only [Act.put, List.getElem_toArray, List.getElem_cons_succ, List.getElem_cons_zero, List.setIfInBounds_toArray, List.set_cons_succ, List.set_cons_zero])
            refine HeadAt.take (i := 10) (.bool false) rfl (by kernel_rfl) (.inl ⟨rfl, fun w' z => ?_⟩) S0 ?_
            · (simp [go_sem, hb0])
            (try simp only [Act.put, List.getElem_toArray, List.getElem_cons_succ, List.getElem_cons_zero, List.setIfInBounds_toArray, List.set_cons_succ, List.set_cons_zero])
            refine HeadAt.take (i := 11) (.bool false) rfl (by kernel_rfl) (.inl ⟨rfl, fun _ _ => by simp [go_sem]⟩) S0 ?_
            (try simp only [Act.put, List.getElem_toArray, List.getElem_cons_succ, List.getElem_cons_zero, List.setIfInBounds_toArray, List.set_cons_succ, List.set_cons_zero])
            refine HeadAt.take (i := 12) (.int .i64 ac) rfl (by kernel_rfl) (.inl ⟨rfl, fun _ _ => by simp [go_sem]⟩) S0 ?_
            (try simp only [Act.put, List.getElem_toArray, List.getElem_cons_succ, List.getElem_cons_zero, List.setIfInBounds_toArray, List.set_cons_succ, List.set_cons_zero])
            refine HeadAt.take (i := 13) (.int .i64 bb) rfl (by kernel_rfl) (.inl ⟨rfl, fun _ _ => by simp [go_sem]⟩) S0 ?_
            (try simp only [Act.put, List.getElem_toArray, List.getElem_cons_succ, List.getElem_cons_zero, List.setIfInBounds_toArray, List.set_cons_succ, List.set_cons_zero])
            refine HeadAt.take (i := 14) (.bool false) rfl (by kernel_rfl) (.inl ⟨rfl, fun w' z => ?_⟩) S0 ?_
            · (simp [go_sem, hlt])
            (try simp only [Act.put, List.getElem_toArray, List.getElem_cons_succ, List.getElem_cons_zero, List.setIfInBounds_toArray, List.set_cons_succ, List.set_cons_zero])
            refine HeadAt.take (i := 15) (.bool false) rfl (by kernel_rfl) (.inl ⟨rfl, fun _ _ => by simp [go_sem]⟩) S0 ?_
            (try simp only [Act.put, List.getElem_toArray, List.getElem_cons_succ, List.getElem_cons_zero, List.setIfInBounds_toArray, List.set_cons_succ, List.set_cons_zero])
            refine HeadAt.done (by kernel_rfl) ?_
            (try simp only [Act.put, List.drop_succ_cons, List.drop_zero, List.getElem_toArray, List.getElem_cons_succ, List.getElem_cons_zero])
            go_wp2_with fail
            refine NoPanic.normal ?_
            have hb4 := hbo.trans (Below.mono S0 hbo.size)
            clear S0
            go_wp2
            go_roundw
            case rel => exact ⟨i + 1, by omega, by simp, by rw [HS1.out], hb4⟩
            case measure => simp [intOf]; omega
      · have HS1 := hid (show fwF X goal (FF.take (i + 1)) = bb by rw [HS.out, if_neg (fun h => hge h.1)])
        clear HS
        go_upto_region 11 with fail
        have S0 : BlS wo wo.drew := (Below.refl wo.heap.size wo).drew
        refine wp_region_head 16 (fun w' => BlS wo w') (by kernel_rfl) rfl ?_
        generalize wo.drew = Y0 at *
        refine HeadAt.take (i := 0) (.agg #[.slice ab X.bs.length cb, .slice ast X.st.length cs, .slice ae X.er.length ce, .slice ak X.ks.length ck, .int .i64 X.ch]) rfl (by kernel_rfl) (.inl ⟨rfl, fun w' z => ?_⟩) S0 ?_
        · (have z0 := (xo.below z).cell 0 rfl; have z1 := (xo.below z).cell 1 rfl; have z2 := (xo.below z).cell 2 rfl; have z3 := (xo.below z).cell 3 rfl; have z4 := (xo.below z).cell 4 rfl; simp [go_sem, z0, z1, z2, z3, z4])
        (try simp only [Act.put, List.getElem_toArray, List.getElem_cons_succ, List.getElem_cons_zero, List.setIfInBounds_toArray, List.set_cons_succ, List.set_cons_zero])
        refine HeadAt.take (i := 1) (.slice (some ⟨b, off, none⟩) nF cF) rfl (by kernel_rfl) (.inl ⟨rfl, fun _ _ => by simp [go_sem]⟩) S0 ?_
        (try simp only [Act.put, List.getElem_toArray, List.getElem_cons_succ, List.getElem_cons_zero, List.setIfInBounds_toArray, List.set_cons_succ, List.set_cons_zero])
        refine HeadAt.take (i := 2) (.int .i64 (i : Int)) rfl (by kernel_rfl) (.inl ⟨rfl, fun _ _ => by simp [go_sem]⟩) S0 ?_
        (try simp only [Act.put, List.getElem_toArray, List.getElem_cons_succ, List.getElem_cons_zero, List.setIfInBounds_toArray, List.set_cons_succ, List.set_cons_zero])
        refine HeadAt.take (i := 3) (.pointer (some ⟨b, off + i, none⟩)) rfl (by kernel_rfl) (.inl ⟨rfl, fun w' z => ?_⟩) S0 ?_
        · (simp [go_sem, hiI, hi0])
        (try simp only [Act.put, List.getElem_toArray, List.getElem_cons_succ, List.getElem_cons_zero, List.setIfInBounds_toArray, List.set_cons_succ, List.set_cons_zero])
        refine HeadAt.take (i := 4) (.slice a' m c') rfl (by kernel_rfl) (.inl ⟨rfl, fun w' z => ?_⟩) S0 ?_
        · (have z0 := (hcc.below z).1; simp [go_sem, z0])
        (try simp only [Act.put, List.getElem_toArray, List.getElem_cons_succ, List.getElem_cons_zero, List.setIfInBounds_toArray, List.set_cons_succ, List.set_cons_zero])
        refine HeadAt.take (i := 6) (.int .i64 goal) rfl (by kernel_rfl) (.inl ⟨rfl, fun _ _ => by simp [go_sem]⟩) S0 ?_
        (try simp only [Act.put, List.getElem_toArray, List.getElem_cons_succ, List.getElem_cons_zero, List.setIfInBounds_toArray, List.set_cons_succ, List.set_cons_zero])
        refine HeadAt.one (i := 5) rfl (by kernel_rfl) ?_
        generalize hK : Upto _ _ = K0
        (try simp only [Act.put, List.getElem_toArray, List.getElem_cons_succ, List.getElem_cons_zero, List.setIfInBounds_toArray, List.set_cons_succ, List.set_cons_zero])
        go_wp2_with fail
        refine (hei _ S0).mono ?_
        rintro e V1 ⟨rfl, hb3⟩
        go_wp2_with fail
        have S1 : BlS wo V1 := Below.trans S0 (hb3.mono (Below.size S0))
        subst hK
        refine ⟨S1, ?_⟩
        (try simp only [Act.put, List.getElem_toArray, List.getElem_cons_succ, List.getElem_cons_zero, List.setIfInBounds_toArray, List.set_cons_succ, List.set_cons_zero])
        clear S0 hb3
        have S0 := S1
        clear S1
        refine HeadAt.take (i := 7) (.bool false) rfl (by kernel_rfl) (.inl ⟨rfl, fun w' z => ?_⟩) S0 ?_
        · (simp [go_sem, hge])
        (try simp only [Act.put, List.getElem_toArray, List.getElem_cons_succ, List.getElem_cons_zero, List.setIfInBounds_toArray, List.set_cons_succ, List.set_cons_zero])
        refine HeadAt.take (i := 8) (.bool false) rfl (by kernel_rfl) (.inl ⟨rfl, fun _ _ => by simp [go_sem]⟩) S0 ?_
        (try simp only [Act.put, List.getElem_toArray, List.getElem_cons_succ, List.getElem_cons_zero, List.setIfInBounds_toArray, List.set_cons_succ, List.set_cons_zero])
        refine HeadAt.take (i := 9) undef rfl (by kernel_rfl) (.inr ⟨by kernel_rfl, rfl⟩) S0 ?_
        (try simp only [Act.put, List.getElem_toArray, List.getElem_cons_succ, List.getElem_cons_zero, List.setIfInBounds_toArray, List.set_cons_succ, List.set_cons_zero])
        refine HeadAt.take (i := 10) undef rfl (by kernel_rfl) (.inr ⟨by kernel_rfl, rfl⟩) S0 ?_
        (try simp only [Act.put, List.getElem_toArray, List.getElem_cons_succ, List.getElem_cons_zero, List.setIfInBounds_toArray, List.set_cons_succ, List.set_cons_zero])
        refine HeadAt.take (i := 11) undef rfl (by kernel_rfl) (.inr ⟨by kernel_rfl, rfl⟩) S0 ?_
        (try simp only [Act.put, List.getElem_toArray, List.getElem_cons_succ, List.getElem_cons_zero, List.setIfInBounds_toArray, List.set_cons_succ, List.set_cons_zero])
        refine HeadAt.take (i := 12) undef rfl (by kernel_rfl) (.inr ⟨by kernel_rfl, rfl⟩) S0 ?_
        (try simp only [Act.put, List.getElem_toArray, List.getElem_cons_succ, List.getElem_cons_zero, List.setIfInBounds_toArray, List.set_cons_succ, List.set_cons_zero])
        refine HeadAt.take (i := 13) undef rfl (by kernel_rfl) (.inr ⟨by kernel_rfl, rfl⟩) S0 ?_
        (try simp only [Act.put, List.getElem_toArray, List.getElem_cons_succ, List.getElem_cons_zero, List.setIfInBounds_toArray, List.set_cons_succ, List.set_cons_zero])
        refine HeadAt.take (i := 14) undef rfl (by kernel_rfl) (.inr ⟨by kernel_rfl, rfl⟩) S0 ?_
        (try simp only [Act.put, List.getElem_toArray, List.getElem_cons_succ, List.getElem_cons_zero, List.setIfInBounds_toArray, List.set_cons_succ, List.set_cons_zero])
        refine HeadAt.take (i := 15) undef rfl (by kernel_rfl) (.inr ⟨by kernel_rfl, rfl⟩) S0 ?_
        (try simp only [Act.put, List.getElem_toArray, List.getElem_cons_succ, List.getElem_cons_zero, List.setIfInBounds_toArray, List.set_cons_succ, List.set_cons_zero])
        refine HeadAt.done (by kernel_rfl) ?_
        (try simp only [Act.put, List.drop_succ_cons, List.drop_zero, List.getElem_toArray, List.getElem_cons_succ, List.getElem_cons_zero])
        go_wp2_with fail
        refine NoPanic.normal ?_
        have hb4 := hbo.trans (Below.mono S0 hbo.size)
        clear S0
        go_wp2
        go_roundw
        case rel => exact ⟨i + 1, by omega, by simp, by rw [HS1.out], hb4⟩
        case measure => simp [intOf]; omega
    · obtain rfl : i = nF := by omega
      have hfin : fwF X goal (FF.take i) = fwF X goal FF := by rw [List.take_of_length_le (by rw [← HNF.out]; omega)]
      rw [hfin]
      generalize fwF X goal FF = bb at *
      have hbF := hb.trans (hb1.mono hWs)
      clear hfin
      by_cases hb0 : bb < 0
      · have h1 := HE1.out
        rw [if_pos hb0] at h1
        have h2 := HER.out
        rw [HE2.out.1 hb0] at h2
        replace h2 : e1 = 3 := h2
        subst h1 h2
        go_wp2
        go_ret2
        exact ⟨rfl, hbF⟩
      · have h1 := HE1.out
        rw [if_neg hb0] at h1
        have ho : o = true := by
          cases o with
          | true => rfl
          | false => exact absurd (HE2.out.2 rfl) hb0
        have h2 := HER.out
        rw [ho] at h2
        replace h2 : e1 = 0 := h2
        subst h1 h2
        clear HE1 HE2 HER ho
        go_wp2
        go_ret2
        exact ⟨rfl, hbF⟩
end Go.Proofs.Ytipdohpbilabiaa
/-! What depends on the bounds of a visit, said again with a copy and a change more. -/
namespace Go.Proofs.Ytipdohpbilabiaa.Two
set_option linter.unusedSimpArgs false
set_option linter.unusedVariables false
open Go Go.RowKit

structure XOk (X : Sw) : Prop where
  nb3 : X.bs.length ≤ 3
  t6 : X.st.length ≤ 6
  k4 : X.ks.length ≤ 4
  b3 : ∀ i, i < X.bs.length → (X.bs.getD i []).length ≤ 3 ∧ risB (ntI X) (X.bs.getD i []) = true
  kp : ∀ i, i < X.ks.length → keepI X i = true
  st9 : ∀ x ∈ X.st, 0 ≤ x ∧ x ≤ 10
  er1 : X.er.length = X.st.length
  er2 : ∀ i, i < X.er.length → (X.er.getD i []).length = X.bs.length ∧ ∀ x ∈ X.er.getD i [], 0 ≤ x ∧ x ≤ 999
  ch3 : 0 ≤ X.ch ∧ X.ch ≤ 4
theorem XOk.title {X : Sw} (h : XOk X) : ∀ l ∈ X.bs, ∀ x ∈ l, 0 ≤ x ∧ x < (X.st.length : Int) := fun l hl x hx => by
  obtain ⟨i, hi, rfl⟩ := mem_getD [] hl
  have := ris_mem (h.b3 i hi).2 x hx
  unfold ntI at this
  omega
theorem XOk.keep {X : Sw} (h : XOk X) : ∀ k ∈ X.ks, 0 ≤ k.1 ∧ k.1 < (X.bs.length : Int) ∧ 0 ≤ k.2 ∧ k.2 < (X.st.length : Int) := fun k hk => by
  obtain ⟨i, hi, rfl⟩ := mem_getD (0, 0) hk
  have := h.kp i hi
  unfold keepI at this
  simp only [Bool.and_eq_true] at this
  obtain ⟨h1, h2⟩ := this
  have h1 := inI_iff.1 h1
  unfold inL at h2
  obtain ⟨y, hy, e⟩ := List.any_eq_true.1 h2
  have e : (X.ks.getD i (0, 0)).2 = y := by simpa using e
  have := h.title _ (getD_mem' X.bs [] (i := (X.ks.getD i (0, 0)).1.toNat) (by omega)) y hy
  rw [← e] at this
  omega
theorem vz_ok {X : Sw} (h : XOk X) : VOk X.vz :=
  ⟨h.nb3, h.t6, fun x hx => by have := h.st9 x hx; omega, h.er1, fun r hr => by
    obtain ⟨i, hi, rfl⟩ := mem_getD [] hr
    exact (h.er2 i hi).1, fun r hr => by
    obtain ⟨i, hi, rfl⟩ := mem_getD [] hr
    exact (h.er2 i hi).2, ⟨h.ch3.1, by have := h.ch3.2; show X.ch ≤ 4; omega⟩, planM_ok h.title, stayF_ok _ fun k hk => (h.keep k hk).2.2⟩
theorem plB_title {X : Sw} {P : List (List Int)} (hok : XOk X) (h : plB X P = true) : P.length = X.bs.length ∧ ∀ l ∈ P, ∀ x ∈ l, 0 ≤ x ∧ x < (X.st.length : Int) := by
  unfold plB at h
  simp only [Bool.and_eq_true, decide_eq_true_eq] at h
  refine ⟨h.1, fun l hl x hx => ?_⟩
  obtain ⟨i, hi, rfl⟩ := mem_getD [] hl
  have := all_at h.2 hi
  unfold plI at this
  simp only [Bool.and_eq_true, decide_eq_true_eq] at this
  have := ris_mem this.2 x hx
  unfold ntI at this
  omega
theorem eiF_le {X : Sw} (hok : XOk X) (k : Nat) (l : List Int) : 0 ≤ eiF X k l ∧ eiF X k l ≤ 999 * (l.length : Int) := by
  have h := sumE_le (vz_ok hok) k (l.map Int.toNat)
  rw [List.length_map] at h
  exact h
set_option maxRecDepth 100000 in
set_option maxHeartbeats 3000000 in
theorem EarnsIn_any (ab ast ae ak : Option Addr) (cb cs ce ck : Nat) (X : Sw) (hok : XOk X) (k : Nat) (hk : k < X.bs.length) (al : Option Addr) (cl : Nat) (l : List Int) (hl : ∀ x ∈ l, 0 ≤ x ∧ x < (X.st.length : Int)) (hll : l.length ≤ 6) (w : World) (hX : Swp w ab ast ae ak X) (hI : Ints w al l) : Calls Try.prog 59 #[.agg #[.slice ab X.bs.length cb, .slice ast X.st.length cs, .slice ae X.er.length ce, .slice ak X.ks.length ck, .int .i64 X.ch], .int .i64 (k : Int), .slice al l.length cl] w fun e w' => e = .returned (.int .i64 (eiF X k l)) ∧ Below w.heap.size w w' := by
  obtain ⟨W, hW, hb, _, x0⟩ := boxes1 w #[.slice ab X.bs.length cb, .slice ast X.st.length cs, .slice ae X.er.length ce, .slice ak X.ks.length ck, .int .i64 X.ch] 26
  have hE := hX.2.2.1
  have hbd : ∀ j, 0 ≤ eiF X k (l.take j) ∧ eiF X k (l.take j) ≤ 5994 := fun j => by
    have h := eiF_le hok k (l.take j)
    have h2 : (l.take j).length ≤ 6 := by rw [List.length_take]; omega
    omega
  have HBD := hid hbd
  have HER := hid hok.er2
  have HE1 := hid hok.er1
  have HL := hid hl
  have HK := hid hk
  clear hX hbd hok hl hk
  obtain ⟨n, hn⟩ : ∃ n, n = l.length := ⟨_, rfl⟩
  rw [← hn] at hll ⊢
  have HN := hid hn
  clear hn
  have c0 := x0.cell 0 rfl; have c1 := x0.cell 1 rfl; have c2 := x0.cell 2 rfl; have c3 := x0.cell 3 rfl; have c4 := x0.cell 4 rfl
  go_enter Try.func59, Try.ntmps59
  go_wp2
  clear hW c0 c1 c2 c3 c4
  go_loopw [7, 8] (fun v7 v8 wr => ∃ j : Nat, j ≤ n ∧ v8 = .int .i64 (j : Int) ∧ v7 = .int .i64 (eiF X k (l.take j)) ∧ Below W.heap.size W wr) (fun _ v8 _ => n - (intOf v8).toNat)
  case atStart => exact ⟨0, Nat.zero_le _, rfl, rfl, Below.refl _ _⟩
  case round =>
    obtain ⟨j, hj, rfl, rfl, hb1⟩ := hrel
    by_cases hlt : j < n
    · have hbr := hb.trans (hb1.mono hb.size)
      have hI1 := hI.below hbr (Nat.le_refl _)
      have hE1 := hE.below hbr (Nat.le_refl _)
      replace x0 := x0.below hb1
      obtain ⟨b, off, x, rfl, hbl, hc, hx1, hx2, hg, _⟩ := hI1.at (k := j) (by rw [← HN.out]; exact hlt)
      have hxm : x ∈ l := List.mem_of_getElem? hg.out
      obtain ⟨hxa, hxb⟩ := HL.out x hxm
      obtain ⟨i, rfl⟩ : ∃ i : Nat, x = (i : Int) := ⟨x.toNat, by omega⟩
      have hie : i < X.er.length := by rw [HE1.out]; omega
      obtain ⟨b2, off2, a2, c2, hae, hbl2, hc2, hI2⟩ := hE1.at (k := i) hie
      subst hae
      obtain ⟨hrl, hr9⟩ := HER.out i hie
      obtain ⟨b3, off3, y, hae, hbl3, hc3, hy1, hy2, hg3, _⟩ := hI2.at (k := k) (by rw [hrl]; exact HK.out)
      subst hae
      have hy9 := hr9 y (List.mem_of_getElem? hg3.out)
      have hkl : (k : Int) < ((X.er.getD i []).length : Int) := by rw [hrl]; have := HK.out; omega
      have hk0 : (0 : Int) ≤ (k : Int) := by omega
      have hjI : (j : Int) < n := by omega
      have hj0 : (0 : Int) ≤ (j : Int) := by omega
      have hieI : (i : Int) < (X.er.length : Int) := by omega
      have hi0 : (0 : Int) ≤ (i : Int) := by omega
      have hsn : eiF X k (l.take (j + 1)) = eiF X k (l.take j) + y := by
        have hjl : j < l.length := by rw [← HN.out]; exact hlt
        rw [List.take_add_one, hg.out, Option.toList_some, eiF_snoc, Int.toNat_natCast, List.getD_eq_getElem?_getD (l := X.er.getD i []), hg3.out]
        rfl
      have hs1 := HBD.out (j + 1)
      rw [hsn] at hs1
      have HS := hid hsn
      generalize eiF X k (l.take j) = sj at *
      have hwr : IntKind.i64.wrap (sj + y) = sj + y := IntWalk.i64_in _ (by omega)
      have e2 := x0.ext 2 rfl
      have f1 := fun t => Ext.cell hc t
      have f2 := fun t => Ext.cell hc2 t
      have f3 := fun t => Ext.cell hc3 t
      generalize (X.er.getD i []).length = m at *
      clear hsn hs1 hy9 hr9 hrl hg hg3 hxm hI1 hE1 hI2 hI hE hbl hbl2 hbl3 hxa hxb hx1 hx2 hy1 hy2
      go_upto_region 5 with fail
      refine wp_region_ext_lit (by kernel_rfl) (by kernel_rfl) ?_
      repeat (quiet_step (fail))
      refine wpQuiet_nil ?_
      intro _ hw'
      obtain ⟨t, rfl⟩ := hw'
      have hb14 := hb1.trans (t.below.mono hb1.size)
      go_wp2
      go_roundw
      case rel => exact ⟨j + 1, by omega, by simp, by rw [HS.out], hb14⟩
      case measure => simp [intOf]; omega
    · obtain rfl : j = n := by omega
      have hA : l.take j = l := List.take_of_length_le (by rw [← HN.out]; exact Nat.le_refl _)
      rw [hA]
      have HA := hid hA
      clear hA
      go_wp2
      go_ret
      exact ⟨rfl, hb.trans (hb1.mono hb.size)⟩
theorem eaF_le {X : Sw} (hok : XOk X) (P : List (List Int)) (hP : ∀ l ∈ P, l.length ≤ 6) : ∀ k, k ≤ P.length → 0 ≤ eaF X P k ∧ eaF X P k ≤ 6000 * (k : Int) := by
  intro k
  induction k with
  | zero => intro _; simp [eaF]
  | succ k ih =>
    intro hk
    have h := ih (by omega)
    rw [eaF_succ]
    have h2 := eiF_le hok k (P.getD k [])
    have h3 : (P.getD k []).length ≤ 6 := hP _ (by rw [List.getD_eq_getElem?_getD, List.getElem?_eq_getElem (show k < P.length by omega)]; exact List.getElem_mem _)
    omega
set_option maxRecDepth 100000 in
set_option maxHeartbeats 3000000 in
theorem EarnsAll_any (ab ast ae ak : Option Addr) (cb cs ce ck : Nat) (X : Sw) (hok : XOk X) (ap : Option Addr) (cp : Nat) (P : List (List Int)) (hPl : P.length = X.bs.length) (hP : ∀ l ∈ P, l.length ≤ 6 ∧ ∀ x ∈ l, 0 ≤ x ∧ x < (X.st.length : Int)) (w : World) (hX : Swp w ab ast ae ak X) (hL : Lss w ap P) : Calls Try.prog 37 #[.agg #[.slice ab X.bs.length cb, .slice ast X.st.length cs, .slice ae X.er.length ce, .slice ak X.ks.length ck, .int .i64 X.ch], .slice ap P.length cp] w fun e w' => e = .returned (.int .i64 (eaF X P P.length)) ∧ Below w.heap.size w w' := by
  obtain ⟨W, hW, hb, _, x0⟩ := boxes1 w #[.slice ab X.bs.length cb, .slice ast X.st.length cs, .slice ae X.er.length ce, .slice ak X.ks.length ck, .int .i64 X.ch] 26
  have hn3 : P.length ≤ 3 := by rw [hPl]; exact hok.nb3
  have hbd : ∀ j, j ≤ P.length → 0 ≤ eaF X P j ∧ eaF X P j ≤ 18000 := fun j hj => by
    have h := eaF_le hok P (fun l hl => (hP l hl).1) j hj
    omega
  have HBD := hid hbd
  have HE : ∀ (k : Nat) (V : World) (al : Option Addr) (cl : Nat), k < P.length → Below w.heap.size w V → Ints V al (P.getD k []) → Calls Try.prog 59 #[.agg #[.slice ab X.bs.length cb, .slice ast X.st.length cs, .slice ae X.er.length ce, .slice ak X.ks.length ck, .int .i64 X.ch], .int .i64 (k : Int), .slice al (P.getD k []).length cl] V fun e w' => e = .returned (.int .i64 (eiF X k (P.getD k []))) ∧ Below V.heap.size V w' := fun k V al cl hk hV hI => by
    have hm : P.getD k [] ∈ P := by rw [List.getD_eq_getElem?_getD, List.getElem?_eq_getElem hk]; exact List.getElem_mem _
    exact EarnsIn_any ab ast ae ak cb cs ce ck X hok k (by rw [← hPl]; exact hk) al cl _ (hP _ hm).2 (hP _ hm).1 V (hX.below hV (Nat.le_refl _)) hI
  have HEH := hid HE
  have HBB := hid hb
  clear hX hbd hok hP hPl HE
  obtain ⟨n, hn⟩ : ∃ n, n = P.length := ⟨_, rfl⟩
  rw [← hn] at hn3 ⊢
  have HN := hid hn
  clear hn
  have c0 := x0.cell 0 rfl; have c1 := x0.cell 1 rfl; have c2 := x0.cell 2 rfl; have c3 := x0.cell 3 rfl; have c4 := x0.cell 4 rfl
  go_enter Try.func37, Try.ntmps37
  go_wp2
  clear hW c0 c1 c2 c3 c4
  go_loopw [5, 6] (fun v5 v6 wr => ∃ j : Nat, j ≤ n ∧ v6 = .int .i64 (j : Int) ∧ v5 = .int .i64 (eaF X P j) ∧ Below W.heap.size W wr) (fun _ v6 _ => n - (intOf v6).toNat)
  case atStart => exact ⟨0, Nat.zero_le _, rfl, rfl, Below.refl _ _⟩
  case round =>
    obtain ⟨j, hj, rfl, rfl, hb1⟩ := hrel
    by_cases hlt : j < n
    · have hbr := hb.trans (hb1.mono hb.size)
      have hL1 := hL.below hbr (Nat.le_refl _)
      replace x0 := x0.below hb1
      obtain ⟨b, off, a', c', hap, hbl, hc, hI⟩ := hL1.at (k := j) (by rw [← HN.out]; exact hlt)
      subst hap
      have hjI : (j : Int) < n := by omega
      have hj0 : (0 : Int) ≤ (j : Int) := by omega
      have hei := fun (t : Ext wr) => HEH.out j t.w a' c' (by rw [← HN.out]; exact hlt) (hbr.trans (t.below.mono hbr.size)) (hI.below t.below (Nat.le_refl _))
      have hsn := eaF_succ X P j
      have hs1 := HBD.out (j + 1) (by rw [← HN.out]; omega)
      have hs0 := HBD.out j (by rw [← HN.out]; omega)
      rw [hsn] at hs1
      have HS := hid hsn
      generalize eaF X P j = sj at *
      generalize eiF X j (P.getD j []) = y at *
      generalize (P.getD j []).length = m at *
      have hwr : IntKind.i64.wrap (sj + y) = sj + y := IntWalk.i64_in _ (by omega)
      have d0 := x0.ext 0 rfl; have d1 := x0.ext 1 rfl; have d2 := x0.ext 2 rfl; have d3 := x0.ext 3 rfl; have d4 := x0.ext 4 rfl; 
      have f1 := fun t => Ext.cell hc t
      clear hsn hs1 hs0 hL1 hI hL hbl
      go_upto_region 5 with fail
      refine wp_region_ext_lit (by kernel_rfl) (by kernel_rfl) ?_
      repeat (quiet_step (first | (go_at_call 59; exact quiet_ext (hei _))))
      refine wpQuiet_nil ?_
      intro _ hw'
      obtain ⟨t, rfl⟩ := hw'
      have hb14 := hb1.trans (t.below.mono hb1.size)
      go_wp2
      go_roundw
      case rel => exact ⟨j + 1, by omega, by simp, by rw [HS.out], hb14⟩
      case measure => simp [intOf]; omega
    · obtain rfl : j = n := by omega
      go_wp2
      go_ret
      exact ⟨rfl, hb.trans (hb1.mono hb.size)⟩
theorem XOk.kmem {X : Sw} (h : XOk X) : ∀ k ∈ X.ks, 0 ≤ k.1 ∧ k.1 < (X.bs.length : Int) ∧ k.2 ∈ X.bs.getD k.1.toNat [] := fun k hk => by
  obtain ⟨i, hi, rfl⟩ := mem_getD (0, 0) hk
  have := h.kp i hi
  unfold keepI at this
  rw [Bool.and_eq_true] at this
  have h1 := inI_iff.1 this.1
  exact ⟨h1.1, by omega, inL_mem this.2⟩
theorem now_in {X : Sw} (hok : XOk X) : X.vz.now ∈ plansV X.vz := by
  have hn3 := hok.nb3
  have hms : ∀ k, k < X.bs.length → mask (X.bs.getD k []) < 2 ^ X.st.length := fun k hk => by
    rw [← now_get X.bs hk hn3]
    exact (planM_ok hok.title).get k
  have hst := stay_in X.bs hn3 _ X.ks rfl hok.kmem
  have hC : hasC X.vz X.vz.now = true := by
    unfold hasC
    rw [List.all_eq_true]
    intro i hi
    have hi' : i < X.st.length := List.mem_range.1 hi
    have := hok.st9 _ (getD_mem' X.st 0 hi')
    unfold hasI
    rw [decide_eq_true_eq]
    show _ ≤ X.st.getD i 0 + _
    omega
  suffices h : ∀ (r box : Nat), box + r = X.bs.length → X.vz.now ∈ plansF X.vz r (planL X.bs box) box by
    have h0 := h X.bs.length 0 (by omega)
    exact h0
  intro r
  induction r with
  | zero =>
    intro box hb
    have e : planL X.bs box = X.vz.now := by rw [show box = X.bs.length by omega]; rfl
    rw [e]
    unfold plansF
    rw [if_pos hC]
    exact List.mem_singleton.2 rfl
  | succ r ih =>
    intro box hb
    have hbox : box < X.bs.length := by omega
    have hb3 : box < 3 := by omega
    unfold plansF
    rw [List.mem_flatMap]
    have hg : X.vz.now.get box = mask (X.bs.getD box []) := now_get X.bs hbox hn3
    refine ⟨mask (X.bs.getD box []), List.mem_range.2 (hms box hbox), ?_⟩
    have hf : fitB X.vz ((planL X.bs box).set box (mask (X.bs.getD box []))) box = true := by
      unfold fitB chO
      rw [Pl.get_set hb3, hg, wo_self]
      have hs : wo (X.vz.stay.get box) (mask (X.bs.getD box [])) = 0 := hst box hb3
      rw [hs, Bool.and_eq_true, decide_eq_true_eq]
      exact ⟨hok.ch3.1, rfl⟩
    rw [hg, hf, beq_self_eq_true, Bool.and_true, if_pos rfl, ← planL_succ X.bs hb3]
    exact ih (box + 1) (by omega)
set_option maxRecDepth 100000 in
set_option maxHeartbeats 6000000 in
theorem DoesFit_any (ab ast ae ak : Option Addr) (cb cs ce ck : Nat) (X : Sw) (hok : XOk X) (ap : Option Addr) (cp : Nat) (P : List (List Int)) (hPl : P.length = X.bs.length) (w : World) (hX : Swp w ab ast ae ak X) (hL : Lss w ap P) : Calls Try.prog 36 #[.agg #[.slice ab X.bs.length cb, .slice ast X.st.length cs, .slice ae X.er.length ce, .slice ak X.ks.length ck, .int .i64 X.ch], .slice ap P.length cp] w fun e w' => e = .returned (.bool (dfB X P)) ∧ Below w.heap.size w w' := by
  obtain ⟨W, hW, hb, _, x0⟩ := boxes1 w #[.slice ab X.bs.length cb, .slice ast X.st.length cs, .slice ae X.er.length ce, .slice ak X.ks.length ck, .int .i64 X.ch] 26
  have hn3 : P.length ≤ 3 := by rw [hPl]; exact hok.nb3
  have hk4 := hok.k4
  have ht6 := hok.t6
  have HKM := hid hok.kmem
  have HS9 := hid hok.st9
  have hd1 : ∀ k, k < P.length → df1 X P k = false → dfB X P = false := fun k hk h => by unfold dfB; rw [all_range_no _ hk h]; rfl
  have hd2 : ∀ k, k < X.ks.length → df2 X P k = false → dfB X P = false := fun k hk h => by unfold dfB; rw [all_range_no _ hk h]; simp
  have hd3 : ∀ k, k < X.st.length → df3 X P k = false → dfB X P = false := fun k hk h => by unfold dfB; rw [all_range_no _ hk h]; simp
  have hall : (List.range P.length).all (df1 X P) = true → (List.range X.ks.length).all (df2 X P) = true → (List.range X.st.length).all (df3 X P) = true → dfB X P = true := fun e1 e2 e3 => by unfold dfB; rw [e1, e2, e3]; rfl
  have hi1 : ∀ i, df1 X P i = decide ((coF (P.getD i []) (X.bs.getD i []) : Int) ≤ X.ch) := fun i => rfl
  have hi2 : ∀ i, df2 X P i = inL (X.ks.getD i (0, 0)).2 (P.getD (X.ks.getD i (0, 0)).1.toNat []) := fun i => rfl
  have hi3 : ∀ i, df3 X P i = decide ((cnF P (i : Int) : Int) ≤ X.st.getD i 0 + (cnF X.bs (i : Int) : Int)) := fun i => rfl
  have hcb : ∀ t, cnF X.bs t ≤ 3 := fun t => Nat.le_trans (cnF_le _ _) hok.nb3
  obtain ⟨v, hv⟩ : ∃ v, v = dfB X P := ⟨_, rfl⟩
  rw [← hv] at hd1 hd2 hd3 hall ⊢
  have hgX : ∀ W', Below W.heap.size W W' → Swp W' ab ast ae ak X := fun W' h => (hX.below hb (Nat.le_refl _)).below h (Nat.le_refl _)
  have hgL : ∀ W', Below W.heap.size W W' → Lss W' ap P := fun W' h => (hL.below hb (Nat.le_refl _)).below h (Nat.le_refl _)
  have HPL := hid hPl
  clear hX hL hPl hv hok
  obtain ⟨n, hn⟩ : ∃ n, n = P.length := ⟨_, rfl⟩
  rw [← hn] at hn3 hd1 hall ⊢
  have HN := hid hn
  clear hn
  have H2 := hid (And.intro hd2 hi2)
  have H3 := hid (And.intro hd3 (And.intro hi3 hcb))
  clear hd2 hi2 hd3 hi3 hcb
  have c0 := x0.cell 0 rfl; have c1 := x0.cell 1 rfl; have c2 := x0.cell 2 rfl; have c3 := x0.cell 3 rfl; have c4 := x0.cell 4 rfl
  go_enter Try.func36, Try.ntmps36
  go_wp2
  clear hW c0 c1 c2 c3 c4
  go_loopw [4, 5] (fun v4 v5 wr => ∃ j : Nat, j ≤ n ∧ v5 = .int .i64 (j : Int) ∧ Hid ((List.range j).all (df1 X P) = true) ∧ Below W.heap.size W wr) (fun _ v5 _ => n - (intOf v5).toNat)
  case atStart => exact ⟨0, Nat.zero_le _, rfl, hid rfl, Below.refl _ _⟩
  case round =>
    obtain ⟨j, hj, rfl, HA, hb1⟩ := hrel
    by_cases hlt : j < n
    · have hbr := hb.trans (hb1.mono hb.size)
      have hjb : j < X.bs.length := by rw [← HPL.out, ← HN.out]; exact hlt
      obtain ⟨b, off, a', c', hap, hbl, hc, hI⟩ := (hgL _ hb1).at (k := j) (by rw [← HN.out]; exact hlt)
      subst hap
      obtain ⟨b2, off2, a2, c2, hab, hbl2, hc2, hI2⟩ := (hgX _ hb1).1.at (k := j) hjb
      subst hab
      replace x0 := x0.below hb1
      have hjI : (j : Int) < n := by omega
      have hjB : (j : Int) < (X.bs.length : Int) := by omega
      have hj0 : (0 : Int) ≤ (j : Int) := by omega
      have hij := hi1 j
      have hdj := hd1 j hlt
      have hco := fun (t : Ext wr) => ChangesOf_any a2 a' c2 c' _ _ t.w (hI2.below t.below (Nat.le_refl _)) (hI.below t.below (Nat.le_refl _))
      generalize coF (P.getD j []) (X.bs.getD j []) = s at *
      generalize (X.bs.getD j []).length = m2 at *
      generalize (P.getD j []).length = m at *
      have e1 := x0.ext 0 rfl
      have e2 := x0.ext 4 rfl
      have f1 := fun t => Ext.cell hc t
      have f2 := fun t => Ext.cell hc2 t
      clear hI hI2 hjb hbl hbl2 hgX hgL hi1 hd1 hall
      by_cases hsc : (s : Int) ≤ X.ch
      · rw [decide_eq_true hsc] at hij
        have HR := hid (show (List.range (j + 1)).all (df1 X P) = true by rw [all_range_succ, HA.out, hij]; rfl)
        clear hij hdj
        go_upto_region 4 with fail
        refine wp_region_ext_lit (by kernel_rfl) (by kernel_rfl) ?_
        repeat (quiet_step (first | (go_at_call 68; exact quiet_ext ((hco _).mono (fun e w' h => ⟨h.1, Below.of_eq h.2⟩)))))
        refine wpQuiet_nil ?_
        intro _ hw'
        obtain ⟨t, rfl⟩ := hw'
        have hb14 := hb1.trans (t.below.mono hb1.size)
        clear e1 e2 f1 f2 hc hc2 x0 hco
        go_wp2
        go_roundw
        case rel => exact ⟨j + 1, by omega, by simp, HR, hb14⟩
        case measure => simp [intOf]; omega
      · rw [decide_eq_false hsc] at hij
        have hsc' : X.ch < (s : Int) := by omega
        have HR := hid (hdj hij)
        clear hij hdj hsc
        go_upto_region 4 with fail
        refine wp_region_ext_lit (by kernel_rfl) (by kernel_rfl) ?_
        repeat (quiet_step (first | (go_at_call 68; exact quiet_ext ((hco _).mono (fun e w' h => ⟨h.1, Below.of_eq h.2⟩)))))
        refine wpQuiet_nil ?_
        intro _ hw'
        obtain ⟨t, rfl⟩ := hw'
        have hbr4 := hbr.trans (t.below.mono hbr.size)
        clear e1 e2 f1 f2 hc hc2 x0 hco
        go_wp2
        go_ret
        exact ⟨ret_bool (by rw [HR.out]), hbr4⟩
    · have hjn : j = n := by omega
      have hA := HA.out
      rw [hjn] at hA
      replace hall := hall hA
      have hjI : ¬ (j : Int) < n := by omega
      replace x0 := x0.below hb1
      clear hA HA hd1 hi1
      go_wp2
      have hgX2 : ∀ W', Below wr.heap.size wr W' → Swp W' ab ast ae ak X := fun W' h => hgX W' (hb1.trans (h.mono hb1.size))
      have hgL2 : ∀ W', Below wr.heap.size wr W' → Lss W' ap P := fun W' h => hgL W' (hb1.trans (h.mono hb1.size))
      replace hb := hb.trans (hb1.mono hb.size)
      clear hgX hgL hb1 hj hlt hjI hjn
      obtain ⟨nk, hnk⟩ : ∃ n, n = X.ks.length := ⟨_, rfl⟩
      have HNK := hid hnk
      clear hnk
      obtain ⟨wo, rfl⟩ : ∃ wo : World, wo = wr := ⟨_, rfl⟩
      go_loopw [4, 6] (fun v4 v6 wr => ∃ k : Nat, k ≤ nk ∧ v6 = .int .i64 (k : Int) ∧ Hid ((List.range k).all (df2 X P) = true) ∧ Below wo.heap.size wo wr) (fun _ v6 _ => nk - (intOf v6).toNat)
      case atStart => exact ⟨0, Nat.zero_le _, rfl, hid rfl, Below.refl _ _⟩
      case round =>
        obtain ⟨k, hk, rfl, HA, hb1⟩ := hrel
        by_cases hlt : k < nk
        · have hkl : k < X.ks.length := by rw [← HNK.out]; exact hlt
          have hXr := hgX2 _ hb1
          have hLr := hgL2 _ hb1
          obtain ⟨b, off, kb, kt, hak, hbl, hc, hd, hk1, hk2, hg, _⟩ := hXr.2.2.2.at (k := k) hkl
          subst hak
          have hkI : (k : Int) < (X.ks.length : Int) := by omega
          have hk0 : (0 : Int) ≤ (k : Int) := by omega
          have hgk : X.ks.getD k (0, 0) = (kb, kt) := by rw [List.getD_eq_getElem?_getD, hg.out]; rfl
          obtain ⟨q0, q1, _⟩ := HKM.out (kb, kt) (List.mem_of_getElem? hg.out)
          replace q0 : 0 ≤ kb := q0
          replace q1 : kb < (X.bs.length : Int) := q1
          obtain ⟨j, rfl⟩ := Int.eq_ofNat_of_zero_le q0
          have hjP : j < P.length := by rw [HPL.out]; omega
          have hjn : (j : Int) < (n : Int) := by have := HN.out; omega
          have hj0 : (0 : Int) ≤ (j : Int) := by omega
          obtain ⟨b2, off2, a2, c2, hap, hbl2, hc2, hI2⟩ := hLr.at (k := j) hjP
          subst hap
          have hik := H2.out.2 k
          rw [hgk] at hik
          replace hik : df2 X P k = inL kt (P.getD j []) := hik
          have hdk := H2.out.1 k hkl
          have hbr := hb.trans (hb1.mono hb.size)
          replace x0 := x0.below hb1
          have hin := fun (t : Ext wr) => in_any a2 c2 _ kt t.w (hI2.below t.below (Nat.le_refl _))
          obtain ⟨L, hLd⟩ : ∃ L, L = P.getD j [] := ⟨_, rfl⟩
          rw [← hLd] at hik hin hc2
          clear hLd hI2 hLr hXr hgk hg q0 q1 hjP hbl hbl2 hkl hgX2 hgL2
          obtain ⟨m, hm⟩ : ∃ m, m = L.length := ⟨_, rfl⟩
          rw [← hm] at hin hc2
          clear hm
          have c0 := x0.cell 0 rfl; have c1 := x0.cell 1 rfl; have c2 := x0.cell 2 rfl; have c3 := x0.cell 3 rfl; have c4 := x0.cell 4 rfl
          have e1 := x0.ext 3 rfl
          have f1 := fun t => Ext.cell hc t
          have f2 := fun t => Ext.cell hd t
          have f3 := fun t => Ext.cell hc2 t
          cases hr : inL kt L
          · rw [hr] at hik
            simp only [hr] at hin
            have HR := hid (hdk hik)
            clear hik hdk hr hall
            go_upto_region 9 with fail
            refine wp_region_ext_lit (by kernel_rfl) (by kernel_rfl) ?_
            repeat (quiet_step (first | (go_at_call 52; exact quiet_ext ((hin _).mono (fun e w' h => ⟨h.1, Below.of_eq h.2⟩)))))
            refine wpQuiet_nil ?_
            intro _ hw'
            obtain ⟨t, rfl⟩ := hw'
            have hbr4 := hbr.trans (t.below.mono hbr.size)
            clear e1 f1 f2 f3 hc hd hc2 x0 hin c0 c1 c2 c3 c4
            go_wp2
            go_ret
            exact ⟨ret_bool (by rw [HR.out]), hbr4⟩
          · rw [hr] at hik
            simp only [hr] at hin
            have HR := hid (show (List.range (k + 1)).all (df2 X P) = true by rw [all_range_succ, HA.out, hik]; rfl)
            clear hik hdk hr hall
            go_upto_region 9 with fail
            refine wp_region_ext_lit (by kernel_rfl) (by kernel_rfl) ?_
            repeat (quiet_step (first | (go_at_call 52; exact quiet_ext ((hin _).mono (fun e w' h => ⟨h.1, Below.of_eq h.2⟩)))))
            refine wpQuiet_nil ?_
            intro _ hw'
            obtain ⟨t, rfl⟩ := hw'
            have hb14 := hb1.trans (t.below.mono hb1.size)
            clear e1 f1 f2 f3 hc hd hc2 x0 hin c0 c1 c2 c3 c4
            go_wp2
            go_roundw
            case rel => exact ⟨k + 1, by omega, by simp, HR, hb14⟩
            case measure => simp [intOf]; omega
        · have hkn : k = nk := by omega
          have hA := HA.out
          rw [hkn, HNK.out] at hA
          replace hall := hall hA
          have hkI : ¬ (k : Int) < (X.ks.length : Int) := by rw [← HNK.out]; omega
          replace x0 := x0.below hb1
          have c0 := x0.cell 0 rfl; have c1 := x0.cell 1 rfl; have c2 := x0.cell 2 rfl; have c3 := x0.cell 3 rfl; have c4 := x0.cell 4 rfl
          clear hA HA H2
          go_wp2
          clear c0 c1 c2 c3 c4
          have hgX : ∀ W', Below wr.heap.size wr W' → Swp W' ab ast ae ak X := fun W' h => hgX2 W' (hb1.trans (h.mono hb1.size))
          have hgL : ∀ W', Below wr.heap.size wr W' → Lss W' ap P := fun W' h => hgL2 W' (hb1.trans (h.mono hb1.size))
          replace hb := hb.trans (hb1.mono hb.size)
          clear hgX2 hgL2 hb1 hk hlt hkI hkn
          obtain ⟨nt, hnt⟩ : ∃ n, n = X.st.length := ⟨_, rfl⟩
          have HNT := hid hnt
          clear hnt
          obtain ⟨wo2, rfl⟩ : ∃ wo : World, wo = wr := ⟨_, rfl⟩
          go_loopw [4, 7] (fun v4 v7 wr => ∃ k : Nat, k ≤ nt ∧ v7 = .int .i64 (k : Int) ∧ Hid ((List.range k).all (df3 X P) = true) ∧ Below wo2.heap.size wo2 wr) (fun _ v7 _ => nt - (intOf v7).toNat)
          case atStart => exact ⟨0, Nat.zero_le _, rfl, hid rfl, Below.refl _ _⟩
          case round =>
            obtain ⟨k, hk, rfl, HA, hb1⟩ := hrel
            by_cases hlt : k < nt
            · have hkl : k < X.st.length := by rw [← HNT.out]; exact hlt
              have hXr := hgX _ hb1
              have hLr := hgL _ hb1
              have hc1 := fun (t : Ext wr) => count_lists ap cp P (k : Int) t.w (hLr.below t.below (Nat.le_refl _))
              have hc2 := fun (t : Ext wr) => count_lists ab cb X.bs (k : Int) t.w (hXr.1.below t.below (Nat.le_refl _))
              rw [← HN.out] at hc1
              obtain ⟨b, off, x, has, hbl, hc, hx1, hx2, hg, _⟩ := hXr.2.1.at (k := k) hkl
              subst has
              have hx9 := HS9.out x (List.mem_of_getElem? hg.out)
              have hgx : X.st.getD k 0 = x := by rw [List.getD_eq_getElem?_getD, hg.out]; rfl
              have hkI : (k : Int) < (X.st.length : Int) := by omega
              have hk0 : (0 : Int) ≤ (k : Int) := by omega
              have hik := H3.out.2.1 k
              have hdk := H3.out.1 k hkl
              have hcb := H3.out.2.2 (k : Int)
              rw [hgx] at hik
              have hbr := hb.trans (hb1.mono hb.size)
              replace x0 := x0.below hb1
              generalize cnF P (k : Int) = s1 at *
              generalize cnF X.bs (k : Int) = s2 at *
              have hwr : IntKind.i64.wrap (x + (s2 : Int)) = x + (s2 : Int) := IntWalk.i64_in _ (by omega)
              clear hLr hXr hgx hg hkl hgX hgL hbl hx1 hx2
              have c0 := x0.cell 0 rfl; have c1 := x0.cell 1 rfl; have c2 := x0.cell 2 rfl; have c3 := x0.cell 3 rfl; have c4 := x0.cell 4 rfl
              have e1 := x0.ext 0 rfl
              have e2 := x0.ext 1 rfl
              have f1 := fun t => Ext.cell hc t
              by_cases hss : (s1 : Int) ≤ x + (s2 : Int)
              · rw [decide_eq_true hss] at hik
                have HR := hid (show (List.range (k + 1)).all (df3 X P) = true by rw [all_range_succ, HA.out, hik]; rfl)
                clear hik hdk hall
                go_upto_region 14 with fail
                refine wp_region_ext_lit (by kernel_rfl) (by kernel_rfl) ?_
                iterate 3 (quiet_step (first | (go_at_call 69; exact quiet_ext ((hc1 _).mono (fun e w' h => ⟨h.1, Below.of_eq h.2⟩)))))
                repeat (quiet_step (first | (go_at_call 69; exact quiet_ext ((hc2 _).mono (fun e w' h => ⟨h.1, Below.of_eq h.2⟩)))))
                refine wpQuiet_nil ?_
                intro _ hw'
                obtain ⟨t, rfl⟩ := hw'
                have hb14 := hb1.trans (t.below.mono hb1.size)
                clear e1 e2 f1 hc x0 hc1 hc2 c0 c1 c2 c3 c4
                go_wp2
                go_roundw
                case rel => exact ⟨k + 1, by omega, by simp, HR, hb14⟩
                case measure => simp [intOf]; omega
              · rw [decide_eq_false hss] at hik
                have hss' : x + (s2 : Int) < (s1 : Int) := by omega
                have HR := hid (hdk hik)
                clear hik hdk hall hss
                go_upto_region 14 with fail
                refine wp_region_ext_lit (by kernel_rfl) (by kernel_rfl) ?_
                iterate 3 (quiet_step (first | (go_at_call 69; exact quiet_ext ((hc1 _).mono (fun e w' h => ⟨h.1, Below.of_eq h.2⟩)))))
                repeat (quiet_step (first | (go_at_call 69; exact quiet_ext ((hc2 _).mono (fun e w' h => ⟨h.1, Below.of_eq h.2⟩)))))
                refine wpQuiet_nil ?_
                intro _ hw'
                obtain ⟨t, rfl⟩ := hw'
                have hbr4 := hbr.trans (t.below.mono hbr.size)
                clear e1 e2 f1 hc x0 hc1 hc2 c0 c1 c2 c3 c4
                go_wp2
                go_ret
                exact ⟨ret_bool (by rw [HR.out]), hbr4⟩
            · have hkn : k = nt := by omega
              have hA := HA.out
              rw [hkn, HNT.out] at hA
              have HV := hid (hall hA)
              have hkI : ¬ (k : Int) < (X.st.length : Int) := by rw [← HNT.out]; omega
              replace x0 := x0.below hb1
              have hbr := hb.trans (hb1.mono hb.size)
              have c0 := x0.cell 0 rfl; have c1 := x0.cell 1 rfl; have c2 := x0.cell 2 rfl; have c3 := x0.cell 3 rfl; have c4 := x0.cell 4 rfl
              clear hA HA H3 hall hkn
              go_wp2
              go_ret
              exact ⟨ret_bool (by rw [HV.out]), hbr⟩
theorem chO_co {X : Sw} (hok : XOk X) {P : List (List Int)} (hpl : plB X P = true) {k : Nat} (hk : k < X.bs.length) : chO X.vz (planM P) k = coF (P.getD k []) (X.bs.getD k []) := by
  obtain ⟨hl, hp⟩ := plB_parts hpl
  have hkP : k < P.length := by omega
  obtain ⟨hlen, hr⟩ := hp k hkP
  obtain ⟨hb3, hbr⟩ := hok.b3 k hk
  have hn3 := hok.nb3
  have h6 : ntI X < 6 := by unfold ntI; have := hok.t6; omega
  have hg1 : (planM P).get k = mask (P.getD k []) := now_get P hkP (by omega)
  have hg2 : X.vz.now.get k = mask (X.bs.getD k []) := now_get X.bs hk hn3
  have hm1 := ris_mem hr
  have hm2 := ris_mem hbr
  unfold chO cnt coF
  rw [hg1, hg2, bits_wo, bits_mask hr h6 (by omega), List.filter_map, List.length_map]
  congr 1
  refine List.filter_congr fun x hx => ?_
  show (!(mask (X.bs.getD k [])).testBit x.toNat) = !inL x (X.bs.getD k [])
  rw [mask_test (fun y hy => (hm2 y hy).1), Int.toNat_of_nonneg (hm1 x hx).1]
/-- Lists fit just if their masks do. -/
theorem dfB_fit {X : Sw} (hok : XOk X) {P : List (List Int)} (hpl : plB X P = true) : dfB X P = fitA X.vz (planM P) := by
  obtain ⟨hl, hp⟩ := plB_parts hpl
  have hn3 := hok.nb3
  have hPn : ∀ l ∈ P, ∀ x ∈ l, 0 ≤ x := fun l hl' x hx => by
    obtain ⟨k, hk, rfl⟩ := mem_getD [] hl'
    exact (ris_mem (hp k hk).2 x hx).1
  have hbn : ∀ l ∈ X.bs, ∀ x ∈ l, 0 ≤ x := fun l hl' x hx => (hok.title l hl' x hx).1
  have hkm := hok.kmem
  have hks := hok.keep
  have hst := stay_bits _ X.ks rfl (fun k hk => ⟨(hks k hk).1, by have := (hks k hk).2.1; omega, (hks k hk).2.2.1⟩)
  rw [Bool.eq_iff_iff]
  unfold dfB fitA hasC
  simp only [Bool.and_eq_true, List.all_eq_true, List.mem_range]
  have h3 : ∀ i, df3 X P i = hasI X.vz (planM P) i := fun i => by
    unfold df3 hasI
    rw [cop_cn (by omega) hPn, show X.vz.now = planM X.bs from rfl, cop_cn hn3 hbn]
    rfl
  have hget : ∀ k, k < X.bs.length → (planM P).get k = mask (P.getD k []) := fun k hk => now_get P (by omega) (by omega)
  have hPm : ∀ k, k < X.bs.length → ∀ x ∈ P.getD k [], 0 ≤ x := fun k hk x hx => (ris_mem (hp k (by omega)).2 x hx).1
  constructor
  · rintro ⟨⟨a1, a2⟩, a3⟩
    refine ⟨fun k hk => ?_, fun i hi => by rw [← h3 i]; exact a3 i hi⟩
    have hk' : k < X.bs.length := hk
    have b1 := a1 k (by omega)
    unfold df1 at b1
    rw [decide_eq_true_eq] at b1
    unfold fitB
    rw [Bool.and_eq_true, decide_eq_true_eq, beq_iff_eq, chO_co hok hpl hk']
    refine ⟨b1, wo_zero.2 fun i hi => ?_⟩
    rw [hget k hk', mask_test (hPm k hk')]
    have hi' : ((stayF X.ks).get k).testBit i = true := hi
    rw [hst k (by omega) i, List.any_eq_true] at hi'
    obtain ⟨q, hq, e⟩ := hi'
    simp only [Bool.and_eq_true, beq_iff_eq] at e
    obtain ⟨j, hj, rfl⟩ := mem_getD (0, 0) hq
    have b2 := a2 j hj
    unfold df2 at b2
    rw [e.1, e.2, Int.toNat_natCast] at b2
    exact b2
  · rintro ⟨a1, a3⟩
    refine ⟨⟨fun k hk => ?_, fun j hj => ?_⟩, fun i hi => by rw [h3 i]; exact a3 i hi⟩
    · have hk' : k < X.bs.length := by omega
      have b1 := a1 k hk'
      unfold fitB at b1
      rw [Bool.and_eq_true, decide_eq_true_eq, chO_co hok hpl hk'] at b1
      unfold df1
      rw [decide_eq_true_eq]
      exact b1.1
    · obtain ⟨q0, q1, q2⟩ := hks _ (getD_mem' X.ks (0, 0) hj)
      have hkb : (X.ks.getD j (0, 0)).1.toNat < X.bs.length := by omega
      have b1 := a1 _ hkb
      unfold fitB at b1
      rw [Bool.and_eq_true, beq_iff_eq] at b1
      have b2 := wo_zero.1 b1.2 (X.ks.getD j (0, 0)).2.toNat (by
        show ((stayF X.ks).get _).testBit _ = true
        rw [hst _ (by omega) _, List.any_eq_true]
        refine ⟨_, getD_mem' X.ks (0, 0) hj, ?_⟩
        simp only [Bool.and_eq_true, beq_iff_eq]
        omega)
      rw [hget _ hkb, mask_test (hPm _ hkb), Int.toNat_of_nonneg q2.1] at b2
      exact b2
theorem fit_in {X : Sw} (hok : XOk X) {P : List (List Int)} (hpl : plB X P = true) (hf : fitA X.vz (planM P) = true) : planM P ∈ plansV X.vz := by
  obtain ⟨hl, hp⟩ := plB_parts hpl
  have hn3 := hok.nb3
  have h6 : ntI X < 6 := by unfold ntI; have := hok.t6; omega
  have htl : ∀ l ∈ P, ∀ x ∈ l, 0 ≤ x ∧ x < (X.st.length : Int) := fun l hl' x hx => by
    obtain ⟨k, hk, rfl⟩ := mem_getD [] hl'
    have h := ris_mem (hp k hk).2 x hx
    unfold ntI at h
    omega
  have hget : ∀ k, k < X.bs.length → (planM P).get k = mask (P.getD k []) := fun k hk => now_get P (by omega) (by omega)
  have hms : ∀ k, k < X.bs.length → mask (P.getD k []) < 2 ^ X.st.length := fun k hk => by
    rw [← hget k hk]
    exact (planM_ok htl).get k
  unfold fitA at hf
  simp only [Bool.and_eq_true, List.all_eq_true, List.mem_range] at hf
  obtain ⟨hfb, hC⟩ := hf
  suffices h : ∀ (r box : Nat), box + r = X.bs.length → planM P ∈ plansF X.vz r (planL P box) box by
    have h0 := h X.bs.length 0 (by omega)
    exact h0
  intro r
  induction r with
  | zero =>
    intro box hb
    have e : planL P box = planM P := by rw [show box = P.length by omega]; rfl
    rw [e]
    unfold plansF
    rw [if_pos hC]
    exact List.mem_singleton.2 rfl
  | succ r ih =>
    intro box hb
    have hbox : box < X.bs.length := by omega
    have hb3 : box < 3 := by omega
    unfold plansF
    rw [List.mem_flatMap]
    have hg : X.vz.now.get box = mask (X.bs.getD box []) := now_get X.bs hbox hn3
    refine ⟨mask (P.getD box []), List.mem_range.2 (hms box hbox), ?_⟩
    have hcnt : (cnt (mask (P.getD box [])) == cnt (mask (X.bs.getD box []))) = true := by
      rw [beq_iff_eq]
      obtain ⟨h3, hr⟩ := hok.b3 box hbox
      obtain ⟨hlen, hr'⟩ := hp box (by omega)
      unfold cnt
      rw [bits_mask hr h6 h3, bits_mask hr' h6 (by omega), List.length_map, List.length_map]
      exact hlen
    have hfit : fitB X.vz ((planL P box).set box (mask (P.getD box []))) box = true := by
      have h := hfb box hbox
      unfold fitB chO at h ⊢
      rw [Pl.get_set hb3]
      rw [hget box hbox] at h
      exact h
    rw [hg, hcnt, hfit, Bool.and_true, if_pos rfl, ← planL_succ P hb3]
    exact ih (box + 1) (by omega)
theorem best_in {X : Sw} (hok : XOk X) : bestP X.vz ∈ plansV X.vz := by
  rcases (best_max X.vz (plansV X.vz)).1 with h | h
  · unfold bestP; rw [h]; exact now_in hok
  · exact h
theorem earn_ea {X : Sw} (hok : XOk X) {P : List (List Int)} (hpl : plB X P = true) : eaF X P P.length = earn X.vz (planM P) := by
  obtain ⟨hl, hp⟩ := plB_parts hpl
  have hn3 := hok.nb3
  have h6 : ntI X < 6 := by unfold ntI; have := hok.t6; omega
  unfold eaF earn earL
  rw [show X.vz.nb = P.length from hl.symm]
  congr 1
  refine List.map_congr_left fun k hk => ?_
  have hk' : k < P.length := List.mem_range.1 hk
  obtain ⟨hlen, hr⟩ := hp k hk'
  have h3 := (hok.b3 k (by omega)).1
  unfold eiF earB
  rw [show (planM P).get k = mask (P.getD k []) from now_get P hk' (by omega), bits_mask hr h6 (by omega)]
/-- The lists of a plan that fits are a plan, and that plan. -/
theorem lists_plan {X : Sw} (hok : XOk X) {p : Pl} (hp : p ∈ plansV X.vz) : plB X (listsL p X.bs.length) = true ∧ planM (listsL p X.bs.length) = p := by
  have hn3 := hok.nb3
  have h6 : ntI X < 6 := by unfold ntI; have := hok.t6; omega
  obtain ⟨h1, h2, _⟩ := (plans_mem hn3 p).1 hp
  have hp6 : 2 ^ X.st.length ≤ 64 := Nat.pow_le_pow_right (n := 2) (by omega) hok.t6
  have hgk : ∀ k, k < X.bs.length → p.get k < 2 ^ X.st.length := fun k hk => (h2 k hk).1
  constructor
  · unfold plB
    rw [listsL_len, decide_eq_true rfl, Bool.true_and, List.all_eq_true]
    intro k hk
    have hk' : k < X.bs.length := List.mem_range.1 hk
    unfold plI
    rw [listsL_get p hk', Bool.and_eq_true, decide_eq_true_eq]
    obtain ⟨c1, c2, _⟩ := h2 k hk'
    refine ⟨?_, ris_bitL X.st.length (by have := hok.t6; omega) _ (by have := hgk k hk'; omega) (hgk k hk')⟩
    obtain ⟨h3, hr⟩ := hok.b3 k hk'
    rw [show X.vz.now.get k = mask (X.bs.getD k []) from now_get X.bs hk' hn3, cnt_mask hr h6 h3] at c2
    unfold bitL
    rw [List.length_map]
    exact c2
  · refine Pl.ext_get fun j hj => ?_
    rcases Nat.lt_or_ge j X.bs.length with h | h
    · rw [show (planM (listsL p X.bs.length)).get j = mask ((listsL p X.bs.length).getD j []) from now_get _ (by rw [listsL_len]; exact h) (by rw [listsL_len]; exact hn3), listsL_get p h]
      exact mask_bitL _ (by have := hgk j h; omega)
    · rw [h1 j hj h]
      unfold planM planL
      rw [listsL_len]
      match j, hj with
      | 0, _ => show (if 0 < _ then _ else _) = _; rw [if_neg (by omega)]
      | 1, _ => show (if 1 < _ then _ else _) = _; rw [if_neg (by omega)]
      | 2, _ => show (if 2 < _ then _ else _) = _; rw [if_neg (by omega)]
theorem now_cnt {X : Sw} (hok : XOk X) {b : Nat} (hb : b < X.bs.length) : cnt (X.vz.now.get b) = (X.bs.getD b []).length := by
  have h6 : ntI X < 6 := by unfold ntI; have := hok.t6; omega
  obtain ⟨h3, hr⟩ := hok.b3 b hb
  rw [show X.vz.now.get b = mask (X.bs.getD b []) from now_get X.bs hb hok.nb3]
  unfold cnt
  rw [bits_mask hr h6 h3, List.length_map]
theorem ft_sound {X : Sw} (hok : XOk X) : ∀ (r : Nat) (P : List (List Int)), P.length + r = X.bs.length → (∀ k, k < P.length → plI X P k = true) → ∀ Q ∈ ftL X r P, plB X Q = true ∧ dfB X Q = true
  | 0, P, hl, hp, Q, hQ => by
    unfold ftL at hQ
    split at hQ
    · rename_i h
      simp at hQ; subst hQ
      refine ⟨?_, h⟩
      unfold plB
      rw [Bool.and_eq_true, List.all_eq_true]
      exact ⟨by simp; omega, fun k hk => hp k (List.mem_range.1 hk)⟩
    · simp at hQ
  | r + 1, P, hl, hp, Q, hQ => by
    unfold ftL at hQ
    simp only [List.mem_flatMap] at hQ
    obtain ⟨l, hlm, hQ⟩ := hQ
    split at hQ
    · refine ft_sound hok r (P ++ [l]) (by simp; omega) (fun k hk => ?_) Q hQ
      have h3 := hok.b3 P.length (by omega)
      have h1 := List.all_eq_true.1 (chL_ris X.st.length (by have := hok.t6; omega) (X.bs.getD P.length []).length (by omega)) l hlm
      simp only [Bool.and_eq_true, beq_iff_eq] at h1
      rw [List.length_append, List.length_singleton] at hk
      rcases Nat.lt_or_ge k P.length with h | h
      · have := hp k h
        unfold plI at this ⊢
        rw [show (P ++ [l]).getD k [] = P.getD k [] by rw [List.getD_eq_getElem?_getD, List.getD_eq_getElem?_getD, List.getElem?_append_left h]]
        exact this
      · have e : k = P.length := by omega
        subst e
        unfold plI
        rw [show (P ++ [l]).getD P.length [] = l by rw [List.getD_eq_getElem?_getD]; simp]
        simp only [Bool.and_eq_true, decide_eq_true_eq]
        exact ⟨h1.2, h1.1⟩
    · simp at hQ
theorem ft_all {X : Sw} (hok : XOk X) {p : Pl} (hp : p ∈ plansV X.vz) : ∀ r, r ≤ X.bs.length → listsL p X.bs.length ∈ ftL X r ((listsL p X.bs.length).take (X.bs.length - r)) := by
  obtain ⟨hpl, hpm⟩ := lists_plan hok hp
  obtain ⟨_, hq, _⟩ := (plans_mem hok.nb3 p).1 hp
  intro r
  induction r with
  | zero =>
    intro _
    rw [Nat.sub_zero, List.take_of_length_le (by rw [listsL_len]; omega)]
    unfold ftL
    rw [dfB_fit hok hpl, hpm, plans_fit hok.nb3 hp]
    simp
  | succ r ih =>
    intro hr
    obtain ⟨k, hk⟩ : ∃ k, k = X.bs.length - (r + 1) := ⟨_, rfl⟩
    have hkl : k < X.bs.length := by omega
    have ih := ih (by omega)
    rw [← hk]
    have hlen : ((listsL p X.bs.length).take k).length = k := by rw [List.length_take, listsL_len]; omega
    have hg : (listsL p X.bs.length)[k]? = some (bitL (p.get k)) := by
      have := listsL_get p hkl
      rw [List.getD_eq_getElem?_getD, List.getElem?_eq_getElem (by rw [listsL_len]; exact hkl)] at this
      rw [List.getElem?_eq_getElem (by rw [listsL_len]; exact hkl)]
      simpa using this
    unfold ftL
    rw [List.mem_flatMap, hlen]
    obtain ⟨h1, h2, h3⟩ := hq k hkl
    have hc : cnt (p.get k) = (X.bs.getD k []).length := h2.trans (now_cnt hok hkl)
    have hb3 := (hok.b3 k hkl).1
    refine ⟨bitL (p.get k), ?_, ?_⟩
    · have := List.all_eq_true.1 (chL_all X.st.length (by have := hok.t6; omega)) (p.get k) (List.mem_range.2 h1)
      rw [Bool.or_eq_true] at this
      rcases this with h | h
      · have := of_decide_eq_true h; omega
      · rw [hc] at h; simpa using h
    · have hch : (coF (bitL (p.get k)) (X.bs.getD k []) : Int) ≤ X.ch := by
        have e := chO_co hok hpl hkl
        rw [hpm, listsL_get p hkl] at e
        unfold fitB at h3
        rw [Bool.and_eq_true, e] at h3
        exact of_decide_eq_true h3.1
      rw [if_pos hch]
      have e : (listsL p X.bs.length).take k ++ [bitL (p.get k)] = (listsL p X.bs.length).take (X.bs.length - r) := by
        rw [show X.bs.length - r = k + 1 by omega, List.take_add_one, hg]; rfl
      rw [e]; exact ih
theorem mst_best {X : Sw} (hok : XOk X) : mstF X (ftL X X.bs.length []) = earn X.vz (bestP X.vz) := by
  obtain ⟨h1, h2, h3⟩ := mst_facts X (ftL X X.bs.length []) 0
  have hb := best_in hok
  have hin : listsL (bestP X.vz) X.bs.length ∈ ftL X X.bs.length [] := by
    have := ft_all hok hb X.bs.length (Nat.le_refl _)
    rw [Nat.sub_self, List.take_zero] at this
    exact this
  obtain ⟨hpl, hpm⟩ := lists_plan hok hb
  have h4 := h2 _ hin
  rw [earn_ea hok hpl, hpm] at h4
  refine Int.le_antisymm ?_ h4
  rcases h3 with h3 | ⟨P, hP, h3⟩
  · have h5 := (earn_le (vz_ok hok) (bestP X.vz)).1
    show mstF X _ ≤ _
    unfold mstF
    omega
  · obtain ⟨g1, g2⟩ := ft_sound hok X.bs.length [] (by simp) (fun k hk => by simp at hk) P hP
    show mstF X _ ≤ _
    unfold mstF
    rw [h3, earn_ea hok g1]
    exact earn_bestP (fit_in hok g1 (by rw [← dfB_fit hok g1]; exact g2))
theorem ftL_len {X : Sw} (hok : XOk X) : ∀ (r : Nat) (P : List (List Int)), (ftL X r P).length ≤ 216 ^ r
  | 0, P => by
    rw [ftL]
    split <;> simp
  | r + 1, P => by
    rw [ftL, Nat.pow_succ, Nat.mul_comm]
    have h1 := chL_le hok.t6 (X.bs.getD P.length []).length 0
    have h3 : (X.bs.getD P.length []).length ≤ 3 := by
      rcases Nat.lt_or_ge P.length X.bs.length with hl | hl
      · exact (hok.b3 _ hl).1
      · rw [List.getD_eq_getElem?_getD, List.getElem?_eq_none hl]; simp
    have h4 : (6 : Nat) ^ (X.bs.getD P.length []).length ≤ 6 ^ 3 := Nat.pow_le_pow_right (by omega) h3
    have h2 := flat_le (fun l => if (coF l (X.bs.getD P.length []) : Int) ≤ X.ch then ftL X r (P ++ [l]) else []) (216 ^ r) (chL X.st.length (X.bs.getD P.length []).length 0) (fun l _ => by
      split
      · exact ftL_len hok r _
      · simp)
    refine Nat.le_trans h2 (Nat.mul_le_mul_right _ ?_)
    have : (6 : Nat) ^ 3 = 216 := by decide
    omega
set_option maxRecDepth 100000 in
set_option maxHeartbeats 3000000 in
theorem fitting_rec (ab ast ae ak : Option Addr) (cb cs ce ck : Nat) (X : Sw) (hok : XOk X) : ∀ (r : Nat) (P : List (List Int)) (aP : Option Addr) (cP : Nat) (w : World), P.length + r = X.bs.length → Swp w ab ast ae ak X → Py w aP P → Calls Try.prog 62 #[.agg #[.slice ab X.bs.length cb, .slice ast X.st.length cs, .slice ae X.er.length ce, .slice ak X.ks.length ck, .int .i64 X.ch], .slice aP P.length cP] w (FtP (ftL X r P) w) := by
  obtain ⟨i0, hi0, iz0, iz1, iz2⟩ := info_parts info23
  obtain ⟨j0, hj0, jz0, jz1, jz2⟩ := info_parts info22
  intro r
  induction r with
  | zero =>
    intro P aP cP w hl hX hP
    obtain ⟨W, hW, hb, _, x0⟩ := boxes1 w #[.slice ab X.bs.length cb, .slice ast X.st.length cs, .slice ae X.er.length ce, .slice ak X.ks.length ck, .int .i64 X.ch] 26
    have hXW := hX.below hb (Nat.le_refl _)
    have hPW := hP.below hb (Nat.le_refl _)
    have hdf := fun V hx hl => DoesFit_any ab ast ae ak cb cs ce ck X hok aP cP P (by omega) V hx hl
    have HT := hid (show ftL X 0 P = if dfB X P = true then [P] else [] from rfl)
    obtain ⟨d, hd⟩ : ∃ d, d = dfB X P := ⟨_, rfl⟩
    rw [← hd] at hdf HT
    generalize ftL X 0 P = T at *
    obtain ⟨k, hk⟩ : ∃ k, k = P.length := ⟨_, rfl⟩
    rw [← hk] at hdf hl ⊢
    have HK := hid hk
    rw [Nat.add_zero] at hl
    obtain ⟨nB, hnB⟩ : ∃ nB, nB = X.bs.length := ⟨_, rfl⟩
    rw [← hnB] at x0 hW hl ⊢
    have hdf2 := fun V hx hl => hdf V hx hl
    rw [← hnB] at hdf2
    clear hd hk hX hP hdf hnB
    subst hl
    have c0 := x0.cell 0 rfl; have c1 := x0.cell 1 rfl; have c2 := x0.cell 2 rfl; have c3 := x0.cell 3 rfl; have c4 := x0.cell 4 rfl
    go_enter Try.func62, Try.ntmps62
    go_wp2_with fail
    refine (hdf2 _ hXW hPW.lss).mono ?_
    rintro e V1 ⟨rfl, hb1⟩
    replace hb := hb.trans (hb1.mono hb.size)
    have hPV := hPW.below hb1 (Nat.le_refl _)
    clear hW hb1 c0 c1 c2 c3 c4 x0 hdf2 hXW hPW
    cases d with
    | false =>
      have HR := hid (show FtP T w (.returned (.slice none 0 0)) V1 by rw [HT.out]; exact ⟨hb, none, 0, rfl, [], fun j u h => by simp at h, RwG.nil _⟩)
      clear hPV hb HT
      go_wp2
      go_ret
      exact HR.out
    | true =>
      have hba := below_one (w := V1) (.cells #[.slice aP k cP] 22)
      have hrw : RwG Py List.length (V1.alloc (.cells #[.slice aP k cP] 22)) [.slice aP k cP] [P] := by
        have := RwG.single (R := Py) (len := List.length) (c := cP) (hPV.below hba (Nat.le_refl _))
        rw [← HK.out] at this; exact this
      have HR := hid (show FtP T w (.returned (.slice (some ⟨V1.heap.size, 0, none⟩) 1 1)) (V1.alloc (.cells #[.slice aP k cP] 22)) by rw [HT.out]; exact ⟨hb.trans (hba.mono hb.size), _, 1, rfl, _, Cls.of_bx (Bx.new V1 #[.slice aP k cP] 22), hrw⟩)
      clear hPV hb hba hrw HT
      go_wp2
      go_ret
      exact HR.out
  | succ r ih =>
    intro P aP cP w hl hX hP
    obtain ⟨W, hW, hb, _, x0⟩ := boxes1 w #[.slice ab X.bs.length cb, .slice ast X.st.length cs, .slice ae X.er.length ce, .slice ak X.ks.length ck, .int .i64 X.ch] 26
    have hXW := hX.below hb (Nat.le_refl _)
    have hPW := hP.below hb (Nat.le_refl _)
    have hkB : P.length < X.bs.length := by omega
    have hnb3 := hok.nb3
    have ht6 := hok.t6
    obtain ⟨bB, oB, aN, cN, hab, hblN, hcN, hIN⟩ := hXW.1.at hkB
    subst hab
    have hr2 : r ≤ 2 := by omega
    have hTl : (ftL X (r + 1) P).length ≤ 10077696 := by
      refine Nat.le_trans (ftL_len hok (r + 1) P) (Nat.le_trans (Nat.pow_le_pow_right (by omega) (show r + 1 ≤ 3 by omega)) (by decide))
    have h3 : (X.bs.getD P.length []).length ≤ 3 := by
      have hl := hkB
      exact (hok.b3 _ hl).1
    obtain ⟨now, hnow⟩ : ∃ now, now = X.bs.getD P.length [] := ⟨_, rfl⟩
    rw [← hnow] at h3 hcN hIN
    have HT0 := hid (show ftL X (r + 1) P = (chL X.st.length now.length 0).flatMap fun l => if (coF l now : Int) ≤ X.ch then ftL X r (P ++ [l]) else [] by rw [ftL, ← hnow])
    have hch := fun V => choices_any X.st.length ht6 now.length 0 V h3 (by omega)
    have hcl6 := Nat.le_trans (chL_le ht6 now.length 0) (show 6 ^ now.length ≤ 216 from Nat.le_trans (Nat.pow_le_pow_right (by omega) h3) (by decide))
    unfold ClP at hch
    obtain ⟨T, hT⟩ : ∃ T, T = ftL X (r + 1) P := ⟨_, rfl⟩
    rw [← hT] at hTl HT0 ⊢
    obtain ⟨L, hL⟩ : ∃ L, L = chL X.st.length now.length 0 := ⟨_, rfl⟩
    rw [← hL] at HT0 hch hcl6
    obtain ⟨nl, hnl⟩ : ∃ nl, nl = L.length := ⟨_, rfl⟩
    rw [← hnl] at hcl6
    have HNL := hid hnl
    obtain ⟨k, hk⟩ : ∃ k, k = P.length := ⟨_, rfl⟩
    rw [← hk] at hl hkB hcN ⊢
    have HK := hid hk
    obtain ⟨nw, hnw⟩ : ∃ nw, nw = now.length := ⟨_, rfl⟩
    rw [← hnw] at hcN hch h3
    have HNW := hid hnw
    obtain ⟨nB, hnB⟩ : ∃ nB, nB = X.bs.length := ⟨_, rfl⟩
    have HNB := hid hnB
    rw [← hnB] at x0 hW hkB hnb3 hl ⊢
    have hB : ((k : Int) == (nB : Int)) = false := by rw [beq_eq_false_iff_ne]; omega
    have hkI : (k : Int) < (nB : Int) := by omega
    have hkne : ¬ (k : Int) = (nB : Int) := by omega
    have hk0 : (0 : Int) ≤ (k : Int) := by omega
    have hccN : ClB W bB (oB + k) (.slice aN nw cN) := ⟨hcN, hblN⟩
    obtain ⟨hP1, ⟨vsP, hclP, hrwP⟩, htyP⟩ := hPW
    have hvl : vsP.length = k := by rw [hrwP.1, HK.out]
    have hvo := hrwP.one
    have HIH := hid ih
    have HLR := hid hl
    have HVL := hid hvl
    rw [show (0 : Nat) = 0 from rfl] at hch
    have hWs := hb.size
    clear hT hL hnl hk hnw hnow hcN hblN hX hP ih hnB hl hvl
    have c0 := x0.cell 0 rfl; have c1 := x0.cell 1 rfl; have c2 := x0.cell 2 rfl; have c3 := x0.cell 3 rfl; have c4 := x0.cell 4 rfl
    go_enter Try.func62, Try.ntmps62
    go_upto_region 7 with fail
    clear hW c0 c1 c2 c3 c4
    have S0 : BlS W W.drew := (Below.refl W.heap.size W).drew
    refine wp_region_head 10 (fun w' => BlS W w') (by kernel_rfl) rfl ?_
    generalize W.drew = Y0 at *
    refine HeadAt.take (i := 0) (.pointer (some ⟨w.heap.size, 1, none⟩)) rfl (by kernel_rfl) (.inl ⟨rfl, fun _ _ => by simp [go_sem]⟩) S0 ?_
    (try simp only [Act.put, List.getElem_toArray, List.getElem_cons_succ, List.getElem_cons_zero, List.setIfInBounds_toArray, List.set_cons_succ, List.set_cons_zero])
    refine HeadAt.take (i := 1) (.slice ast X.st.length cs) rfl (by kernel_rfl) (.inl ⟨rfl, fun w' z => ?_⟩) S0 ?_
    · (have z0 := (x0.below z).cell 1 rfl; simp [go_sem, z0])
    (try simp only [Act.put, List.getElem_toArray, List.getElem_cons_succ, List.getElem_cons_zero, List.setIfInBounds_toArray, List.set_cons_succ, List.set_cons_zero])
    refine HeadAt.take (i := 2) (.int .i64 (X.st.length : Int)) rfl (by kernel_rfl) (.inl ⟨rfl, fun _ _ => by simp [go_sem]⟩) S0 ?_
    (try simp only [Act.put, List.getElem_toArray, List.getElem_cons_succ, List.getElem_cons_zero, List.setIfInBounds_toArray, List.set_cons_succ, List.set_cons_zero])
    refine HeadAt.take (i := 3) (.pointer (some ⟨w.heap.size, 0, none⟩)) rfl (by kernel_rfl) (.inl ⟨rfl, fun _ _ => by simp [go_sem]⟩) S0 ?_
    (try simp only [Act.put, List.getElem_toArray, List.getElem_cons_succ, List.getElem_cons_zero, List.setIfInBounds_toArray, List.set_cons_succ, List.set_cons_zero])
    refine HeadAt.take (i := 4) (.slice (some ⟨bB, oB, none⟩) nB cb) rfl (by kernel_rfl) (.inl ⟨rfl, fun w' z => ?_⟩) S0 ?_
    · (have z0 := (x0.below z).cell 0 rfl; simp [go_sem, z0])
    (try simp only [Act.put, List.getElem_toArray, List.getElem_cons_succ, List.getElem_cons_zero, List.setIfInBounds_toArray, List.set_cons_succ, List.set_cons_zero])
    refine HeadAt.take (i := 5) (.int .i64 (k : Int)) rfl (by kernel_rfl) (.inl ⟨rfl, fun _ _ => by simp [go_sem]⟩) S0 ?_
    (try simp only [Act.put, List.getElem_toArray, List.getElem_cons_succ, List.getElem_cons_zero, List.setIfInBounds_toArray, List.set_cons_succ, List.set_cons_zero])
    refine HeadAt.take (i := 6) (.pointer (some ⟨bB, oB + k, none⟩)) rfl (by kernel_rfl) (.inl ⟨rfl, fun w' z => ?_⟩) S0 ?_
    · (simp [go_sem, hkI, hk0])
    (try simp only [Act.put, List.getElem_toArray, List.getElem_cons_succ, List.getElem_cons_zero, List.setIfInBounds_toArray, List.set_cons_succ, List.set_cons_zero])
    refine HeadAt.take (i := 7) (.slice aN nw cN) rfl (by kernel_rfl) (.inl ⟨rfl, fun w' z => ?_⟩) S0 ?_
    · (have z0 := (hccN.below z).1; simp [go_sem, z0])
    (try simp only [Act.put, List.getElem_toArray, List.getElem_cons_succ, List.getElem_cons_zero, List.setIfInBounds_toArray, List.set_cons_succ, List.set_cons_zero])
    refine HeadAt.take (i := 8) (.int .i64 (nw : Int)) rfl (by kernel_rfl) (.inl ⟨rfl, fun _ _ => by simp [go_sem]⟩) S0 ?_
    (try simp only [Act.put, List.getElem_toArray, List.getElem_cons_succ, List.getElem_cons_zero, List.setIfInBounds_toArray, List.set_cons_succ, List.set_cons_zero])
    refine HeadAt.one (i := 9) rfl (by kernel_rfl) ?_
    generalize hK : Upto _ _ = K0
    (try simp only [Act.put, List.getElem_toArray, List.getElem_cons_succ, List.getElem_cons_zero, List.setIfInBounds_toArray, List.set_cons_succ, List.set_cons_zero])
    go_wp2_with fail
    refine (hch _).mono ?_
    rintro e V1 ⟨hb1, aL, cL, us, rfl, hownL, hrcL⟩
    go_wp2_with fail
    have S1 : BlS W V1 := Below.trans S0 (hb1.mono (Below.size S0))
    subst hK
    refine ⟨S1, ?_⟩
    (try simp only [Act.put, List.getElem_toArray, List.getElem_cons_succ, List.getElem_cons_zero, List.setIfInBounds_toArray, List.set_cons_succ, List.set_cons_zero])
    refine HeadAt.done (by kernel_rfl) ?_
    (try simp only [Act.put, List.drop_succ_cons, List.drop_zero, List.getElem_toArray, List.getElem_cons_succ, List.getElem_cons_zero])
    go_wp2_with fail
    refine NoPanic.normal ?_
    have hPL : Py V1 aL L := Py.of_own hownL (rc_iy hrcL) (by rw [← HNL.out]; omega)
    have hbV : Below W.heap.size W V1 := S1
    rw [← HNL.out]
    clear S0 S1 hb1 hownL hrcL hch
    go_wp2
    go_loopw [6, 8] (fun v6 v8 wr => ∃ (i q : Nat) (a : Option Addr) (c : Nat) (vs : List Value) (SS : List (List (List Int))), i ≤ nl ∧ Hid (q = SS.length) ∧ v8 = .int .i64 (i : Int) ∧ v6 = .slice a q c ∧ wr.ownsRow W.heap.size 22 1 (.slice a q c) q vs ∧ Below W.heap.size W wr ∧ RwG Py List.length wr vs SS ∧ Py wr aL L ∧ Hid (T = SS ++ (L.drop i).flatMap fun l => if (coF l now : Int) ≤ X.ch then ftL X r (P ++ [l]) else [])) (fun _ v8 _ => nl - (intOf v8).toNat)
    case atStart => exact ⟨0, 0, none, 0, [], [], Nat.zero_le _, hid rfl, rfl, rfl, World.ownsRow_nil _ _ _ _, hbV, RwG.nil _, hPL, hid (by rw [HT0.out]; rfl)⟩
    case round =>
      clear hbV hPL
      obtain ⟨i, q, a, c, vs, SS, hi, HQ, rfl, rfl, hown, hbr, hrw, hPL, HT⟩ := hrel
      obtain ⟨wo, rfl⟩ : ∃ wo : World, wo = wr := ⟨_, rfl⟩
      by_cases hil : i < nl
      · obtain ⟨bL, oL, l, a', c', rfl, hblL, hcL, hIl, hml, hgl⟩ := hPL.at (k := i) (by rw [← HNL.out]; exact hil)
        have hiI : (i : Int) < (nl : Int) := by omega
        have hi0' : (0 : Int) ≤ (i : Int) := by omega
        obtain ⟨ll, hll⟩ : ∃ ll, ll = l.length := ⟨_, rfl⟩
        rw [← hll] at hcL
        have HLL := hid hll
        have hdrop : L.drop i = l :: L.drop (i + 1) := by
          obtain ⟨h1, h2⟩ := List.getElem?_eq_some_iff.1 hgl.out
          rw [List.drop_eq_getElem_cons h1, h2]
        have HT2 := hid (show T = SS ++ ((if (coF l now : Int) ≤ X.ch then ftL X r (P ++ [l]) else []) ++ (L.drop (i + 1)).flatMap fun l => if (coF l now : Int) ≤ X.ch then ftL X r (P ++ [l]) else []) by
          rw [HT.out, hdrop, List.flatMap_cons])
        have hcc : ClB wo bL (oL + i) (.slice a' ll c') := ⟨hcL, hblL⟩
        have hco := fun V h1 h2 => ChangesOf_any aN a' cN c' now l V h1 h2
        rw [← HNW.out, ← HLL.out] at hco
        have hnr := hIN.below hbr (Nat.le_refl _)
        have xr := x0.below hbr
        have hcr := hccN.below hbr
        obtain ⟨co, hcoe⟩ : ∃ co, co = coF l now := ⟨_, rfl⟩
        rw [← hcoe] at hco HT2
        clear hcL hll hml hgl hdrop HT hcoe
        go_upto_region 11 with fail
        have S0 : BlS wo wo.drew := (Below.refl wo.heap.size wo).drew
        refine wp_region_head 12 (fun w' => BlS wo w') (by kernel_rfl) rfl ?_
        generalize wo.drew = Y0 at *
        refine HeadAt.take (i := 0) (.pointer (some ⟨w.heap.size, 0, none⟩)) rfl (by kernel_rfl) (.inl ⟨rfl, fun _ _ => by simp [go_sem]⟩) S0 ?_
        (try simp only [Act.put, List.getElem_toArray, List.getElem_cons_succ, List.getElem_cons_zero, List.setIfInBounds_toArray, List.set_cons_succ, List.set_cons_zero])
        refine HeadAt.take (i := 1) (.slice (some ⟨bB, oB, none⟩) nB cb) rfl (by kernel_rfl) (.inl ⟨rfl, fun w' z => ?_⟩) S0 ?_
        · (have z0 := (xr.below z).cell 0 rfl; simp [go_sem, z0])
        (try simp only [Act.put, List.getElem_toArray, List.getElem_cons_succ, List.getElem_cons_zero, List.setIfInBounds_toArray, List.set_cons_succ, List.set_cons_zero])
        refine HeadAt.take (i := 2) (.int .i64 (k : Int)) rfl (by kernel_rfl) (.inl ⟨rfl, fun _ _ => by simp [go_sem]⟩) S0 ?_
        (try simp only [Act.put, List.getElem_toArray, List.getElem_cons_succ, List.getElem_cons_zero, List.setIfInBounds_toArray, List.set_cons_succ, List.set_cons_zero])
        refine HeadAt.take (i := 3) (.pointer (some ⟨bB, oB + k, none⟩)) rfl (by kernel_rfl) (.inl ⟨rfl, fun w' z => ?_⟩) S0 ?_
        · (simp [go_sem, hkI, hk0])
        (try simp only [Act.put, List.getElem_toArray, List.getElem_cons_succ, List.getElem_cons_zero, List.setIfInBounds_toArray, List.set_cons_succ, List.set_cons_zero])
        refine HeadAt.take (i := 4) (.slice aN nw cN) rfl (by kernel_rfl) (.inl ⟨rfl, fun w' z => ?_⟩) S0 ?_
        · (have z0 := (hcr.below z).1; simp [go_sem, z0])
        (try simp only [Act.put, List.getElem_toArray, List.getElem_cons_succ, List.getElem_cons_zero, List.setIfInBounds_toArray, List.set_cons_succ, List.set_cons_zero])
        refine HeadAt.take (i := 5) (.slice (some ⟨bL, oL, none⟩) nl cL) rfl (by kernel_rfl) (.inl ⟨rfl, fun _ _ => by simp [go_sem]⟩) S0 ?_
        (try simp only [Act.put, List.getElem_toArray, List.getElem_cons_succ, List.getElem_cons_zero, List.setIfInBounds_toArray, List.set_cons_succ, List.set_cons_zero])
        refine HeadAt.take (i := 6) (.int .i64 (i : Int)) rfl (by kernel_rfl) (.inl ⟨rfl, fun _ _ => by simp [go_sem]⟩) S0 ?_
        (try simp only [Act.put, List.getElem_toArray, List.getElem_cons_succ, List.getElem_cons_zero, List.setIfInBounds_toArray, List.set_cons_succ, List.set_cons_zero])
        refine HeadAt.take (i := 7) (.pointer (some ⟨bL, oL + i, none⟩)) rfl (by kernel_rfl) (.inl ⟨rfl, fun w' z => ?_⟩) S0 ?_
        · (simp [go_sem, hiI, hi0'])
        (try simp only [Act.put, List.getElem_toArray, List.getElem_cons_succ, List.getElem_cons_zero, List.setIfInBounds_toArray, List.set_cons_succ, List.set_cons_zero])
        refine HeadAt.take (i := 8) (.slice a' ll c') rfl (by kernel_rfl) (.inl ⟨rfl, fun w' z => ?_⟩) S0 ?_
        · (have z0 := (hcc.below z).1; simp [go_sem, z0])
        (try simp only [Act.put, List.getElem_toArray, List.getElem_cons_succ, List.getElem_cons_zero, List.setIfInBounds_toArray, List.set_cons_succ, List.set_cons_zero])
        refine HeadAt.take (i := 10) (.pointer (some ⟨w.heap.size, 4, none⟩)) rfl (by kernel_rfl) (.inl ⟨rfl, fun _ _ => by simp [go_sem]⟩) S0 ?_
        (try simp only [Act.put, List.getElem_toArray, List.getElem_cons_succ, List.getElem_cons_zero, List.setIfInBounds_toArray, List.set_cons_succ, List.set_cons_zero])
        refine HeadAt.take (i := 11) (.int .i64 X.ch) rfl (by kernel_rfl) (.inl ⟨rfl, fun w' z => ?_⟩) S0 ?_
        · (have z0 := (xr.below z).cell 4 rfl; simp [go_sem, z0])
        (try simp only [Act.put, List.getElem_toArray, List.getElem_cons_succ, List.getElem_cons_zero, List.setIfInBounds_toArray, List.set_cons_succ, List.set_cons_zero])
        refine HeadAt.one (i := 9) rfl (by kernel_rfl) ?_
        generalize hK : Upto _ _ = K0
        (try simp only [Act.put, List.getElem_toArray, List.getElem_cons_succ, List.getElem_cons_zero, List.setIfInBounds_toArray, List.set_cons_succ, List.set_cons_zero])
        go_wp2_with fail
        refine (hco _ (hnr.below (show Below wo.heap.size wo Y0 from S0) (Nat.le_refl _)) (hIl.1.below (show Below wo.heap.size wo Y0 from S0) (Nat.le_refl _))).mono ?_
        rintro e V2 ⟨rfl, rfl⟩
        go_wp2_with fail
        subst hK
        refine ⟨S0, ?_⟩
        (try simp only [Act.put, List.getElem_toArray, List.getElem_cons_succ, List.getElem_cons_zero, List.setIfInBounds_toArray, List.set_cons_succ, List.set_cons_zero])
        refine HeadAt.done (by kernel_rfl) ?_
        (try simp only [Act.put, List.drop_succ_cons, List.drop_zero, List.getElem_toArray, List.getElem_cons_succ, List.getElem_cons_zero])
        go_wp2_with fail
        refine NoPanic.normal ?_
        have hbY : Below wo.heap.size wo Y0 := S0
        replace hown := own_below2 hown hbY
        replace hrw := hrw.map (w' := Y0) fun _ _ k => k.below hbY (Nat.le_refl _)
        replace hPL := hPL.below hbY (Nat.le_refl _)
        replace hbr := hbr.trans (hbY.mono hbr.size)
        replace hIl := hIl.below hbY (Nat.le_refl _)
        replace hcc := hcc.below hbY
        clear S0 hco hnr hcr hbY xr
        by_cases hcm : (co : Int) ≤ X.ch
        · have HT3 := hid (show T = (SS ++ ftL X r (P ++ [l])) ++ (L.drop (i + 1)).flatMap fun l => if (coF l now : Int) ≤ X.ch then ftL X r (P ++ [l]) else [] by
            have := HT2.out
            rw [if_pos hcm] at this
            rw [this, List.append_assoc])
          clear HT2
          obtain ⟨TT, hTT⟩ : ∃ TT, TT = ftL X r (P ++ [l]) := ⟨_, rfl⟩
          have HTT := hid hTT
          rw [← hTT] at HT3
          have hpl : q + TT.length ≤ 10077696 := by
            have := congrArg List.length HT3.out
            simp only [List.length_append] at this
            have := HQ.out
            omega
          clear hTT
          go_upto_region 12 with fail
          have hbd := (Below.refl Y0.heap.size Y0).drew
          replace hown := own_below2 hown hbd
          replace hrw := hrw.map (w' := Y0.drew) fun _ _ k => k.below hbd (Nat.le_refl _)
          replace hPL := hPL.below hbd (Nat.le_refl _)
          replace hbr := hbr.trans (hbd.mono hbr.size)
          replace hIl := hIl.below hbd (Nat.le_refl _)
          replace hcc := hcc.below hbd
          clear hbd
          have S0 : Below W.heap.size W Y0.drew ∧ Y0.drew.cell? ⟨bL, oL + i, none⟩ = some (.slice a' ll c') := ⟨hbr, hcc.1⟩
          refine wp_region_head 13 (fun w' => Below W.heap.size W w' ∧ w'.cell? ⟨bL, oL + i, none⟩ = some (.slice a' ll c')) (by kernel_rfl) rfl ?_
          generalize Y0.drew = Y1 at *
          refine HeadAt.take (i := 0) (.slice a q c) rfl (by kernel_rfl) (.inl ⟨rfl, fun _ _ => by simp [go_sem]⟩) S0 ?_
          (try simp only [Act.put, List.getElem_toArray, List.getElem_cons_succ, List.getElem_cons_zero, List.setIfInBounds_toArray, List.set_cons_succ, List.set_cons_zero])
          refine HeadAt.take (i := 1) (.agg #[.slice (some ⟨bB, oB, none⟩) nB cb, .slice ast X.st.length cs, .slice ae X.er.length ce, .slice ak X.ks.length ck, .int .i64 X.ch]) rfl (by kernel_rfl) (.inl ⟨rfl, fun w' z => ?_⟩) S0 ?_
          · (have z0 := (x0.below z.1).cell 0 rfl; have z1 := (x0.below z.1).cell 1 rfl; have z2 := (x0.below z.1).cell 2 rfl; have z3 := (x0.below z.1).cell 3 rfl; have z4 := (x0.below z.1).cell 4 rfl; simp [go_sem, z0, z1, z2, z3, z4])
          (try simp only [Act.put, List.getElem_toArray, List.getElem_cons_succ, List.getElem_cons_zero, List.setIfInBounds_toArray, List.set_cons_succ, List.set_cons_zero])
          refine HeadAt.take (i := 3) (.slice aP k cP) rfl (by kernel_rfl) (.inl ⟨rfl, fun _ _ => by simp [go_sem]⟩) S0 ?_
          (try simp only [Act.put, List.getElem_toArray, List.getElem_cons_succ, List.getElem_cons_zero, List.setIfInBounds_toArray, List.set_cons_succ, List.set_cons_zero])
          refine HeadAt.take (i := 5) (.slice (some ⟨bL, oL, none⟩) nl cL) rfl (by kernel_rfl) (.inl ⟨rfl, fun _ _ => by simp [go_sem]⟩) S0 ?_
          (try simp only [Act.put, List.getElem_toArray, List.getElem_cons_succ, List.getElem_cons_zero, List.setIfInBounds_toArray, List.set_cons_succ, List.set_cons_zero])
          refine HeadAt.take (i := 6) (.int .i64 (i : Int)) rfl (by kernel_rfl) (.inl ⟨rfl, fun _ _ => by simp [go_sem]⟩) S0 ?_
          (try simp only [Act.put, List.getElem_toArray, List.getElem_cons_succ, List.getElem_cons_zero, List.setIfInBounds_toArray, List.set_cons_succ, List.set_cons_zero])
          refine HeadAt.take (i := 7) (.pointer (some ⟨bL, oL + i, none⟩)) rfl (by kernel_rfl) (.inl ⟨rfl, fun w' z => ?_⟩) S0 ?_
          · (simp [go_sem, hiI, hi0'])
          (try simp only [Act.put, List.getElem_toArray, List.getElem_cons_succ, List.getElem_cons_zero, List.setIfInBounds_toArray, List.set_cons_succ, List.set_cons_zero])
          refine HeadAt.take (i := 8) (.slice a' ll c') rfl (by kernel_rfl) (.inl ⟨rfl, fun w' z => ?_⟩) S0 ?_
          · (have z0 := z.2; simp [go_sem, z0])
          (try simp only [Act.put, List.getElem_toArray, List.getElem_cons_succ, List.getElem_cons_zero, List.setIfInBounds_toArray, List.set_cons_succ, List.set_cons_zero])
          refine HeadAt.rg4 (f0 := 3) [2, 4, 9] 3 (fun u => { tmps := #[.agg #[.slice (some ⟨bB, oB, none⟩) nB cb, .slice ast X.st.length cs, .slice ae X.er.length ce, .slice ak X.ks.length ck, .int .i64 X.ch], .slice aP k cP, .pointer (some ⟨w.heap.size, 0, none⟩), undef, .slice none 0 0, .int .i64 (k : Int), .slice a q c, .slice (some ⟨bL, oL, none⟩) nl cL, .int .i64 (i : Int), .slice aP k cP, .int .i64 (k : Int), .int .i64 (k : Int), .pointer (some ⟨w.heap.size, 0, none⟩), .slice (some ⟨bB, oB, none⟩) nB cb, .int .i64 (nB : Int), .bool false, undef, undef, undef, undef, undef, .pointer (some ⟨w.heap.size, 1, none⟩), .slice ast X.st.length cs, .int .i64 (X.st.length : Int), .pointer (some ⟨w.heap.size, 0, none⟩), .slice (some ⟨bB, oB, none⟩) nB cb, .int .i64 (k : Int), .pointer (some ⟨bB, oB + k, none⟩), .slice aN nw cN, .int .i64 (nw : Int), .slice (some ⟨bL, oL, none⟩) nl cL, .int .i64 (i : Int), .slice (some ⟨bL, oL, none⟩) nl cL, .int .i64 (nl : Int), .bool true, u35, u36, .pointer (some ⟨w.heap.size, 0, none⟩), .slice (some ⟨bB, oB, none⟩) nB cb, .int .i64 (k : Int), .pointer (some ⟨bB, oB + k, none⟩), .slice aN nw cN, .slice (some ⟨bL, oL, none⟩) nl cL, .int .i64 (i : Int), .pointer (some ⟨bL, oL + i, none⟩), .slice a' ll c', .int .i64 (co : Int), .pointer (some ⟨w.heap.size, 4, none⟩), .int .i64 X.ch, .bool (decide ((co : Int) ≤ X.ch)), .slice a q c, .agg #[.slice (some ⟨bB, oB, none⟩) nB cb, .slice ast X.st.length cs, .slice ae X.er.length ce, .slice ak X.ks.length ck, .int .i64 X.ch], u 2, .slice aP k cP, u 4, .slice (some ⟨bL, oL, none⟩) nl cL, .int .i64 (i : Int), .pointer (some ⟨bL, oL + i, none⟩), .slice a' ll c', u 9, u60, u61, u62, undef], defers := [] }) (RsI k vsP (.slice a' ll c') Y1) (updU (updU (updU (fun _ => undef) 2 u52) 4 u54) 9 u59) (by kernel_rfl) ?step ?done S0 ⟨fun h => (by cases h), fun h => (by cases h), fun h => (by cases h), fun h => (by cases h), Below.refl _ _, by decide⟩
          case step =>
            intro z hq o ho s u V hS hI hs0 hpre
            simp only [List.mem_cons, List.not_mem_nil, or_false] at hq
            generalize hK : Upto _ _ = K0
            rcases hq with rfl | rfl | rfl
            · cases ho
              go_wp2_with fail
              subst hK
              exact ⟨_, (by simp [updU] <;> omega), ⟨hS.1.trans ((below_one _).mono hS.1.size), Below.keep (below_one _) hS.2⟩, hI.two⟩
            · have h2 := hpre 2 (by kernel_rfl)
              obtain ⟨b2, e2, ho2, hl2⟩ := hI.c2 h2 hs0
              have hge2 := own_ge2 ho2
              have hY2 : Y1.heap.size ≤ b2 := hge2 b2 rfl
              have hbs := hI.bl.size
              have hcl := hclP.below hS.1 (Nat.le_refl _)
              have hfl : vsP.length = k * 1 := by rw [HVL.out]; omega
              have HI := hid hI
              have HS := hid hS
              clear hpre hI hS
              cases ho
              rw [show u 2 = _ from e2]
              refine wpList_app rfl (.tmp 52) (.tmp 53) 22 rfl Y1.heap.size 23 i0 (.slice none 0 0) 1 24 under22 hi0 iz0 iz1 iz2 rfl (by decide) _ 0 [] rfl ho2 aP k cP vsP rfl hfl hcl hvo (by unfold maxLen; omega) (by omega) hbs ?_
              intro v4 W4 hown4 hg4
              have hI := HI.out
              rw [Nat.zero_add, List.nil_append] at hown4
              have hI4 := hI.four e2 h2 hs0 hown4 hg4 hY2
              have HI4 := hid (And.intro (And.intro (hbr.trans (hI4.bl.mono hbr.size)) (Below.keep hI4.bl S0.2)) hI4)
              clear hI hI4 hown4 hg4 HI HS hcl hfl hge2 ho2
              go_wp2_with fail
              subst hK
              exact ⟨_, (by simp [updU, e2] <;> omega), HI4.out.1, HI4.out.2⟩
            · cases ho
              go_wp2_with fail
              subst hK
              exact ⟨_, (by simp [updU] <;> omega), ⟨hS.1.trans ((below_one _).mono hS.1.size), Below.keep (below_one _) hS.2⟩, hI.nine⟩
          case done =>
            intro u V hS hI
            have own4 := hI.c4 rfl
            obtain ⟨b9, e9, x9⟩ := hI.c9 rfl
            have hbl := hI.bl
            obtain ⟨a4, c4, e4⟩ := own_slice2 own4
            rw [e4] at own4
            simp only [e4, e9]
            clear hS hI e4 e9
            generalize u 2 = r2
            have hcl9 := Cls.of_bx x9
            have hge4 := own_ge2 own4
            have hbs4 := hbl.size
            (try simp only [Act.put, List.getElem_toArray, List.getElem_cons_succ, List.getElem_cons_zero, List.setIfInBounds_toArray, List.set_cons_succ, List.set_cons_zero])
            refine HeadAt.one (i := 10) rfl (by kernel_rfl) ?_
            generalize hK : Upto _ _ = K0
            (try simp only [Act.put, List.getElem_toArray, List.getElem_cons_succ, List.getElem_cons_zero, List.setIfInBounds_toArray, List.set_cons_succ, List.set_cons_zero])
            go_wp2_with (at_builtin; refine wpList_app rfl (.tmp 54) (.tmp 59) 22 rfl Y1.heap.size 23 i0 (.slice none 0 0) 1 24 under22 hi0 iz0 iz1 iz2 rfl (by decide) (.slice a4 k c4) k vsP rfl own4 (some ⟨b9, 0, none⟩) 1 1 [.slice a' ll c'] rfl rfl hcl9 (by simp; rfl) (by unfold maxLen; omega) (by omega) hbs4 ?_; intro v5 W5 hown5 hg5)
            have hb5 : Below Y1.heap.size Y1 W5 := hbl.grown hg5 hbs4 hge4
            obtain ⟨a5, c5, rfl⟩ := own_slice2 hown5
            have hl5 : (P ++ [l]).length = k + 1 := by rw [List.length_append, ← HK.out]; rfl
            have S1 : Below W.heap.size W W5 := hbr.trans (hb5.mono hbr.size)
            have hrw5 : RwG Iy List.length W5 (vsP ++ [.slice a' ll c']) (P ++ [l]) := by
              have h1 := RwG.single (len := List.length) (c := c') (hIl.below hb5 (Nat.le_refl _))
              rw [← HLL.out] at h1
              exact (hrwP.map (w' := W5) fun _ _ q => q.below S1 (Nat.le_refl _)).app h1
            have hpy5 : Py W5 a5 (P ++ [l]) := by
              rw [← hl5] at hown5
              exact Py.of_own hown5 hrw5 (by omega)
            have S1' := And.intro S1 (Below.keep hb5 S0.2)
            clear hown5 hg5 hcl9 x9 own4 hge4 hbs4 hbl hrw5
            subst hK
            refine ⟨S1', ?_⟩
            (try simp only [Act.put, List.getElem_toArray, List.getElem_cons_succ, List.getElem_cons_zero, List.setIfInBounds_toArray, List.set_cons_succ, List.set_cons_zero])
            refine HeadAt.one (i := 11) rfl (by kernel_rfl) ?_
            generalize hK : Upto _ _ = K0
            (try simp only [Act.put, List.getElem_toArray, List.getElem_cons_succ, List.getElem_cons_zero, List.setIfInBounds_toArray, List.set_cons_succ, List.set_cons_zero])
            have ihc := HIH.out (P ++ [l]) a5 c5 W5 (by rw [hl5, ← HNB.out]; have := HLR.out; omega) (hXW.below S1 (Nat.le_refl _)) hpy5
            rw [hl5, ← HTT.out, ← HNB.out] at ihc
            clear hl5 hpy5
            go_wp2_with fail
            refine ihc.mono ?_
            rintro e W6 ⟨hb6, a6, c6, rfl, ⟨us, hcl6, hrw6⟩⟩
            go_wp2_with fail
            have hb56 : Below Y1.heap.size Y1 W6 := hb5.trans (hb6.mono hb5.size)
            have S2 : Below W.heap.size W W6 := hbr.trans (hb56.mono hbr.size)
            have S2' := And.intro S2 (Below.keep hb56 S0.2)
            clear ihc hb5 hb6 S1 S1'
            subst hK
            refine ⟨S2', ?_⟩
            (try simp only [Act.put, List.getElem_toArray, List.getElem_cons_succ, List.getElem_cons_zero, List.setIfInBounds_toArray, List.set_cons_succ, List.set_cons_zero])
            refine HeadAt.one (i := 12) rfl (by kernel_rfl) ?_
            generalize hK : Upto _ _ = K0
            (try simp only [Act.put, List.getElem_toArray, List.getElem_cons_succ, List.getElem_cons_zero, List.setIfInBounds_toArray, List.set_cons_succ, List.set_cons_zero])
            have hown6 := own_below2 hown hb56
            have hrwo := hrw.map (w' := W6) fun _ _ q => q.below hb56 (Nat.le_refl _)
            have hPL6 := hPL.below hb56 (Nat.le_refl _)
            have hge := own_ge2 hown6
            have hoth := Oth.of_own hown6
            have hsz := S2.size
            have hul := hrw6.1
            have huo := hrw6.one
            go_wp2_with (at_builtin; refine wpList_appAt rfl (.tmp 50) (.tmp 61) 82 rfl W.heap.size 22 j0 (.slice none 0 0) 1 24 under82 hj0 jz0 jz1 jz2 rfl (by decide) (.slice a q c) q vs rfl hown6 a6 TT.length c6 us rfl (by omega) hcl6 huo (by unfold maxLen; omega) (by omega) hsz ?_; intro v7 W7 hown7 hg7 hat)
            obtain ⟨a7, c7, rfl⟩ := own_slice2 hown7
            have hb7 := S2.grown hg7 hsz hge
            have hrw7 : RwG Py List.length W7 (vs ++ us) (SS ++ TT) := (hrwo.map (w' := W7) fun _ _ q => q.gro hg7 hoth).app (hrw6.map (w' := W7) fun _ _ q => q.gro hg7 hoth)
            have hPL7 := hPL6.gro hg7 hoth
            have hneL := hPL6.2.2.ne (w' := W7) (by decide) hoth _ rfl
            have hcc7 : W7.cell? ⟨bL, oL + i, none⟩ = some (.slice a' ll c') := by
              rw [← S2'.2]; exact World.cell?_of_block (w := W6) (hg7.block bL (cell_lt S2'.2) (fun e => hneL (by first | exact e | exact e.symm)))
            have hq7 := hid (show q + TT.length = (SS ++ TT).length by rw [List.length_append, HQ.out])
            have HX := hid (And.intro hown7 (And.intro hb7 (And.intro hrw7 (And.intro hPL7 hcc7))))
            clear hown7 hrw7 hown6 hrwo hge hoth hsz hul huo hg7 hat hcl6 hrw6 hb56 S2 S2' hown hrw hbr hPL hPL6 hPL7 hneL hcc7 hcc hIl
            subst hK
            refine ⟨⟨HX.out.2.1, HX.out.2.2.2.2⟩, ?_⟩
            (try simp only [Act.put, List.getElem_toArray, List.getElem_cons_succ, List.getElem_cons_zero, List.setIfInBounds_toArray, List.set_cons_succ, List.set_cons_zero])
            refine HeadAt.done (by kernel_rfl) ?_
            (try simp only [Act.put, List.drop_succ_cons, List.drop_zero, List.getElem_toArray, List.getElem_cons_succ, List.getElem_cons_zero])
            go_wp2_with fail
            refine NoPanic.normal ?_
            go_wp2
            go_roundw
            case rel =>
              obtain ⟨hown, hb, hrw, hPL, _⟩ := HX.out
              exact ⟨i + 1, q + TT.length, a7, c7, vs ++ us, SS ++ TT, by omega, hq7, by go_num, rfl, hown, hb, hrw, hPL, HT3⟩
            case measure => simp [intOf]; omega
        · have HT3 := hid (show T = SS ++ (L.drop (i + 1)).flatMap fun l => if (coF l now : Int) ≤ X.ch then ftL X r (P ++ [l]) else [] by
            have := HT2.out
            rw [if_neg hcm] at this
            exact this)
          have HX := hid (And.intro hown (And.intro hbr (And.intro hrw hPL)))
          clear HT2 hown hbr hrw hPL hIl hcc
          go_wp2
          go_roundw
          case rel => exact ⟨i + 1, q, a, c, vs, SS, by omega, HQ, by go_num, rfl, HX.out.1, HX.out.2.1, HX.out.2.2.1, HX.out.2.2.2, HT3⟩
          case measure => simp [intOf]; omega
      · obtain rfl : i = nl := by omega
        have hiI : ¬ (i : Int) < (i : Int) := by omega
        have hres : FtP T w (.returned (.slice a q c)) wo := by
          have e : T = SS := by
            rw [HT.out, List.drop_of_length_le (by rw [← HNL.out]; omega), List.flatMap_nil, List.append_nil]
          rw [e]
          exact FtP.of_own (hb.trans (hbr.mono hWs)) (own_base hown hWs) HQ.out hrw
        have HRS := hid hres
        clear hres hown hrw HIH hPL
        go_wp2
        go_ret
        exact HRS.out
theorem plB_six {X : Sw} (hok : XOk X) {P : List (List Int)} (hpl : plB X P = true) : ∀ l ∈ P, l.length ≤ 6 := fun l hl => by
  obtain ⟨i, hi, rfl⟩ := mem_getD [] hl
  have hpp := plB_parts hpl
  have h2 := hpp.2 i hi
  have h4 := (hok.b3 i (by omega)).1
  omega
theorem EarnsAll_pl (ab ast ae ak : Option Addr) (cb cs ce ck : Nat) (X : Sw) (hok : XOk X) (ap : Option Addr) (cp : Nat) (P : List (List Int)) (hpl : plB X P = true) (w : World) (hX : Swp w ab ast ae ak X) (hP : Lss w ap P) : Calls Try.prog 37 #[.agg #[.slice ab X.bs.length cb, .slice ast X.st.length cs, .slice ae X.er.length ce, .slice ak X.ks.length ck, .int .i64 X.ch], .slice ap P.length cp] w fun e w' => e = .returned (.int .i64 (eaF X P P.length)) ∧ Below w.heap.size w w' :=
  EarnsAll_any ab ast ae ak cb cs ce ck X hok ap cp P (plB_title hok hpl).1 (fun l hl => ⟨plB_six hok hpl l hl, (plB_title hok hpl).2 l hl⟩) w hX hP
theorem ftL_small {X : Sw} (hok : XOk X) : (ftL X X.bs.length []).length ≤ 10077696 :=
  Nat.le_trans (ftL_len hok _ []) (Nat.le_trans (Nat.pow_le_pow_right (by omega) hok.nb3) (by decide))
theorem ft_pl {X : Sw} (hok : XOk X) : ∀ P ∈ ftL X X.bs.length [], plB X P = true ∧ dfB X P = true := fun P hP =>
  ft_sound hok X.bs.length [] (by simp) (fun k hk => by simp at hk) P hP
/-- All of them. -/
theorem fitting_all (ab ast ae ak : Option Addr) (cb cs ce ck : Nat) (X : Sw) (hok : XOk X) (w : World) (hX : Swp w ab ast ae ak X) : Calls Try.prog 62 #[.agg #[.slice ab X.bs.length cb, .slice ast X.st.length cs, .slice ae X.er.length ce, .slice ak X.ks.length ck, .int .i64 X.ch], .slice none 0 0] w (FtP (ftL X X.bs.length []) w) :=
  fitting_rec ab ast ae ak cb cs ce ck X hok X.bs.length [] none 0 w (by simp) hX (Py.nil w)
set_option maxRecDepth 100000 in
set_option maxHeartbeats 3000000 in
theorem mst_any (ab ast ae ak : Option Addr) (cb cs ce ck : Nat) (X : Sw) (hok : XOk X) (ap : Option Addr) (cp : Nat) (SS : List (List (List Int))) (hSS : ∀ P ∈ SS, plB X P = true) (hn : SS.length ≤ 10077696) (w : World) (hX : Swp w ab ast ae ak X) (hR : Rat w ap SS) : Calls Try.prog 61 #[.agg #[.slice ab X.bs.length cb, .slice ast X.st.length cs, .slice ae X.er.length ce, .slice ak X.ks.length ck, .int .i64 X.ch], .slice ap SS.length cp] w fun e w' => e = .returned (.int .i64 (mstF X SS)) ∧ Below w.heap.size w w' := by
  obtain ⟨W, hW, hb, _, x0⟩ := boxes1 w #[.slice ab X.bs.length cb, .slice ast X.st.length cs, .slice ae X.er.length ce, .slice ak X.ks.length ck, .int .i64 X.ch] 26
  have HE : ∀ (V : World) (al : Option Addr) (cl : Nat) (P : List (List Int)), P ∈ SS → Below w.heap.size w V → Py V al P → Calls Try.prog 37 #[.agg #[.slice ab X.bs.length cb, .slice ast X.st.length cs, .slice ae X.er.length ce, .slice ak X.ks.length ck, .int .i64 X.ch], .slice al P.length cl] V fun e w' => e = .returned (.int .i64 (eaF X P P.length)) ∧ Below V.heap.size V w' := fun V al cl P hP hV hI =>
    EarnsAll_pl ab ast ae ak cb cs ce ck X hok al cl P (hSS P hP) V (hX.below hV (Nat.le_refl _)) hI.lss
  have HEH := hid HE
  clear hX hok hSS HE
  obtain ⟨n, hnn⟩ : ∃ n, n = SS.length := ⟨_, rfl⟩
  rw [← hnn] at hn ⊢
  have HN := hid hnn
  clear hnn
  have c0 := x0.cell 0 rfl; have c1 := x0.cell 1 rfl; have c2 := x0.cell 2 rfl; have c3 := x0.cell 3 rfl; have c4 := x0.cell 4 rfl
  go_enter Try.func61, Try.ntmps61
  go_wp2
  clear hW c0 c1 c2 c3 c4
  go_loopw [5, 6] (fun v5 v6 wr => ∃ j : Nat, j ≤ n ∧ v6 = .int .i64 (j : Int) ∧ v5 = .int .i64 (mstF X (SS.take j)) ∧ Below W.heap.size W wr) (fun _ v6 _ => n - (intOf v6).toNat)
  case atStart => exact ⟨0, Nat.zero_le _, rfl, rfl, Below.refl _ _⟩
  case round =>
    obtain ⟨j, hj, rfl, rfl, hb1⟩ := hrel
    by_cases hlt : j < n
    · have hbr := hb.trans (hb1.mono hb.size)
      have hR1 := hR.below hbr (Nat.le_refl _)
      replace x0 := x0.below hb1
      obtain ⟨b, off, s, a', c', hap, hbl, hc, hI, hmem, _, htk⟩ := hR1.at (k := j) (by rw [← HN.out]; exact hlt)
      subst hap
      have hjI : (j : Int) < n := by omega
      have hj0 : (0 : Int) ≤ (j : Int) := by omega
      have hei := fun (t : Ext wr) => HEH.out t.w a' c' s hmem (hbr.trans (t.below.mono hbr.size)) (hI.below t.below (Nat.le_refl _))
      have HS := hid (mstF_take (X := X) htk.out)
      generalize mstF X (SS.take j) = sj at *
      generalize eaF X s s.length = y at *
      generalize s.length = m at *
      have d0 := x0.ext 0 rfl; have d1 := x0.ext 1 rfl; have d2 := x0.ext 2 rfl; have d3 := x0.ext 3 rfl; have d4 := x0.ext 4 rfl; 
      have f1 := fun t => Ext.cell hc t
      clear hR1 hI hbl hmem htk
      go_upto_region 5 with fail
      refine wp_region_ext_lit (by kernel_rfl) (by kernel_rfl) ?_
      repeat (quiet_step (first | (go_at_call 37; exact quiet_ext (hei _))))
      refine wpQuiet_nil ?_
      intro _ hw'
      obtain ⟨t, rfl⟩ := hw'
      have hb14 := hb1.trans (t.below.mono hb1.size)
      go_wp2
      go_roundw
      case rel => exact ⟨j + 1, by omega, by simp, by rw [HS.out, Int.max_def]; congr 1; split <;> split <;> omega, hb14⟩
      case measure => simp [intOf]; omega
    · obtain rfl : j = n := by omega
      have hfin := hid (show mstF X (SS.take j) = mstF X SS by rw [List.take_of_length_le (by rw [← HN.out]; omega)])
      generalize mstF X (SS.take j) = sj at *
      go_wp2
      go_ret
      exact ⟨by rw [hfin.out]; rfl, hb.trans (hb1.mono hb.size)⟩
end Go.Proofs.Ytipdohpbilabiaa.Two
/-! The reference's Change and Copy. -/
namespace Go.Proofs.Ytipdohpbilabiaa
set_option linter.unusedSimpArgs false
set_option linter.unusedVariables false
open Go Go.RowKit

theorem two_ch {X : Sw} (hok : XOk X) : Two.XOk { X with ch := X.ch + 1 } :=
  ⟨hok.nb3, hok.t6, hok.k4, hok.b3, hok.kp, fun x hx => by have := hok.st9 x hx; omega, hok.er1, hok.er2, by have := hok.ch3; show 0 ≤ X.ch + 1 ∧ X.ch + 1 ≤ 4; omega⟩
theorem two_st {X : Sw} (hok : XOk X) (t : Nat) (ht : t < X.st.length) : Two.XOk { X with st := X.st.set t (X.st.getD t 0 + 1) } := by
  have hl : (X.st.set t (X.st.getD t 0 + 1)).length = X.st.length := List.length_set
  have hn : ntI { X with st := X.st.set t (X.st.getD t 0 + 1) } = ntI X := by unfold ntI; rw [hl]
  refine ⟨hok.nb3, by show (X.st.set t (X.st.getD t 0 + 1)).length ≤ 6; rw [hl]; exact hok.t6, hok.k4, fun i hi => ?_, hok.kp, fun x hx => ?_, by show X.er.length = (X.st.set t (X.st.getD t 0 + 1)).length; rw [hl]; exact hok.er1, hok.er2, by have := hok.ch3; show 0 ≤ X.ch ∧ X.ch ≤ 4; omega⟩
  · rw [hn]; exact hok.b3 i hi
  · have hx : x ∈ X.st.set t (X.st.getD t 0 + 1) := hx
    have h1 := hok.st9 _ (getD_mem' X.st 0 ht)
    rcases List.mem_or_eq_of_mem_set hx with h | h
    · have := hok.st9 x h; omega
    · omega
/-- The reference's Best of a visit, region by region: what fits, and the most of it. -/
theorem two_ft (ab ast ae ak : Option Addr) (cb cs ce ck : Nat) (X : Sw) (hok : Two.XOk X) (w : World) (hX : Swp w ab ast ae ak X) : Calls Try.prog 62 #[.agg #[.slice ab X.bs.length cb, .slice ast X.st.length cs, .slice ae X.er.length ce, .slice ak X.ks.length ck, .int .i64 X.ch], .slice none 0 0] w (FtP (ftL X X.bs.length []) w) := Two.fitting_all ab ast ae ak cb cs ce ck X hok w hX
theorem two_ms (ab ast ae ak : Option Addr) (cb cs ce ck : Nat) (X : Sw) (hok : Two.XOk X) (w : World) (hX : Swp w ab ast ae ak X) (a : Option Addr) (c : Nat) (hR : Rat w a (ftL X X.bs.length [])) : Calls Try.prog 61 #[.agg #[.slice ab X.bs.length cb, .slice ast X.st.length cs, .slice ae X.er.length ce, .slice ak X.ks.length ck, .int .i64 X.ch], .slice a (ftL X X.bs.length []).length c] w fun e w' => e = .returned (.int .i64 (earn X.vz (bestP X.vz))) ∧ Below w.heap.size w w' := by
  have h := Two.mst_any ab ast ae ak cb cs ce ck X hok a c (ftL X X.bs.length []) (fun P hP => (Two.ft_pl hok P hP).1) (Two.ftL_small hok) w hX hR
  rw [Two.mst_best hok] at h
  exact h
theorem two_len {X : Sw} (hok : Two.XOk X) : (ftL X X.bs.length []).length ≤ 10077696 := Two.ftL_small hok
theorem one_two {X : Sw} (hok : XOk X) : Two.XOk X :=
  ⟨hok.nb3, hok.t6, hok.k4, hok.b3, hok.kp, fun x hx => by have := hok.st9 x hx; omega, hok.er1, hok.er2, by have := hok.ch3; omega⟩

set_option maxRecDepth 100000 in
set_option maxHeartbeats 2000000 in
theorem RChange_bad (ab ast ae ak : Option Addr) (cb cs ce ck : Nat) (X : Sw) (w : World) (hX : Swp w ab ast ae ak X) (hv : vB X = false) : Calls Try.prog 43 #[.agg #[.slice ab X.bs.length cb, .slice ast X.st.length cs, .slice ae X.er.length ce, .slice ak X.ks.length ck, .int .i64 X.ch]] w fun e w' => e = .returned (.tuple #[.int .i64 0, .int .i64 70]) ∧ Below w.heap.size w w' := by
  obtain ⟨W, hW, hb, _, x0⟩ := boxes1 w #[.slice ab X.bs.length cb, .slice ast X.st.length cs, .slice ae X.er.length ce, .slice ak X.ks.length ck, .int .i64 X.ch] 26
  have hck := fun V (h : Below w.heap.size w V) => Check_any ab ast ae ak cb cs ce ck X V (hX.below h (Nat.le_refl _))
  rw [hv, show cod false = 70 from rfl] at hck
  clear hX hv
  have c0 := x0.cell 0 rfl; have c1 := x0.cell 1 rfl; have c2 := x0.cell 2 rfl; have c3 := x0.cell 3 rfl; have c4 := x0.cell 4 rfl
  go_enter Try.func43, Try.ntmps43
  go_wp2_with fail
  refine (hck _ hb).mono ?_
  rintro e W1 ⟨rfl, hb1⟩
  replace hb := hb.trans (hb1.mono hb.size)
  clear hW c0 c1 c2 c3 c4 hb1 hck x0
  go_wp2
  go_ret2
  exact ⟨rfl, hb⟩

set_option maxRecDepth 100000 in
set_option maxHeartbeats 4000000 in
theorem RChange_ok (ab ast ae ak : Option Addr) (cb cs ce ck : Nat) (X : Sw) (w : World) (hX : Swp w ab ast ae ak X) (hv : vB X = true) : Calls Try.prog 43 #[.agg #[.slice ab X.bs.length cb, .slice ast X.st.length cs, .slice ae X.er.length ce, .slice ak X.ks.length ck, .int .i64 X.ch]] w fun e w' => e = .returned (.tuple #[.int .i64 (chgV X.vz), .int .i64 0]) ∧ Below w.heap.size w w' := by
  have hok := vB_iff hv
  obtain ⟨W, hW, hb, _, x0⟩ := boxes1 w #[.slice ab X.bs.length cb, .slice ast X.st.length cs, .slice ae X.er.length ce, .slice ak X.ks.length ck, .int .i64 X.ch] 26
  have hck := fun V (h : Below w.heap.size w V) => Check_any ab ast ae ak cb cs ce ck X V (hX.below h (Nat.le_refl _))
  rw [hv, show cod true = 0 from rfl] at hck
  have hgX := fun V (h : Below w.heap.size w V) => hX.below h (Nat.le_refl _)
  have hcl := fun V h => Clone_swp ab ast ae ak cb cs ce ck X V (hgX V h) (by have := hok.nb3; omega) (fun l hl => by obtain ⟨i, hi, rfl⟩ := mem_getD [] hl; have := (hok.b3 i hi).1; omega) (by have := hok.t6; omega) (by have := hok.t6; have := hok.er1; omega) (fun l hl => by obtain ⟨i, hi, rfl⟩ := mem_getD [] hl; have := (hok.er2 i hi).1; have := hok.nb3; omega) (by have := hok.k4; omega)
  have hft := fun V h => fitting_all ab ast ae ak cb cs ce ck X hok V (hgX V h)
  have hms := fun V h a c hR => two_ms ab ast ae ak cb cs ce ck X (one_two hok) V (hgX V h) a c hR
  have hftY : ∀ (ab ast ae ak : Option Addr) (cb cs ce ck : Nat) V, Swp V ab ast ae ak X → Calls Try.prog 62 #[.agg #[.slice ab X.bs.length cb, .slice ast X.st.length cs, .slice ae X.er.length ce, .slice ak X.ks.length ck, .int .i64 (X.ch + 1)], .slice none 0 0] V (FtP (ftL { X with ch := X.ch + 1 } X.bs.length []) V) := fun ab ast ae ak cb cs ce ck V h =>
    two_ft ab ast ae ak cb cs ce ck { X with ch := X.ch + 1 } (two_ch hok) V h
  have hmsY : ∀ (ab ast ae ak : Option Addr) (cb cs ce ck : Nat) V, Swp V ab ast ae ak X → ∀ a c, Rat V a (ftL { X with ch := X.ch + 1 } X.bs.length []) → Calls Try.prog 61 #[.agg #[.slice ab X.bs.length cb, .slice ast X.st.length cs, .slice ae X.er.length ce, .slice ak X.ks.length ck, .int .i64 (X.ch + 1)], .slice a (ftL { X with ch := X.ch + 1 } X.bs.length []).length c] V fun e w' => e = .returned (.int .i64 (earn X.vz.mch (bestP X.vz.mch))) ∧ Below V.heap.size V w' := fun ab ast ae ak cb cs ce ck V h a c hR =>
    two_ms ab ast ae ak cb cs ce ck { X with ch := X.ch + 1 } (two_ch hok) V h a c hR
  have he1 := earn_le (vz_ok hok) (bestP X.vz)
  have he2 := earn_le (vzH_ok hok) (bestP X.vz.mch)
  have hch : IntKind.i64.wrap (X.ch + 1) = X.ch + 1 := IntWalk.i64_in _ (by have := hok.ch3; omega)
  unfold chgV
  generalize earn X.vz (bestP X.vz) = b0 at *
  generalize earn X.vz.mch (bestP X.vz.mch) = b1 at *
  have hwr : IntKind.i64.wrap (b1 - b0) = b1 - b0 := IntWalk.i64_in _ (by omega)
  obtain ⟨FY, hFY⟩ : ∃ F, F = ftL { X with ch := X.ch + 1 } X.bs.length [] := ⟨_, rfl⟩
  obtain ⟨FX, hFX⟩ : ∃ F, F = ftL X X.bs.length [] := ⟨_, rfl⟩
  rw [← hFY] at hftY hmsY
  rw [← hFX] at hft hms
  have hlX : FX.length ≤ 10077696 := by rw [hFX]; exact ftL_small hok
  have hlY : FY.length ≤ 10077696 := by rw [hFY]; exact two_len (two_ch hok)
  unfold FtP at hft hftY
  clear hFY hFX hX hv hok he1 he2
  obtain ⟨nX, hnX⟩ : ∃ n, n = FX.length := ⟨_, rfl⟩
  obtain ⟨nY, hnY⟩ : ∃ n, n = FY.length := ⟨_, rfl⟩
  rw [← hnX] at hft hms hlX
  rw [← hnY] at hftY hmsY hlY
  clear hnX hnY
  obtain ⟨ch1, hch1⟩ : ∃ c, c = X.ch + 1 := ⟨_, rfl⟩
  rw [← hch1] at hftY hmsY hch
  have HCH := hid (show IntKind.i64.wrap (X.ch + 1) = ch1 by rw [← hch1]; exact hch)
  have HCK := hid (And.intro hft (And.intro hms (And.intro hftY hmsY)))
  clear hch hch1 hft hms hftY hmsY
  have c0 := x0.cell 0 rfl; have c1 := x0.cell 1 rfl; have c2 := x0.cell 2 rfl; have c3 := x0.cell 3 rfl; have c4 := x0.cell 4 rfl
  go_enter Try.func43, Try.ntmps43
  go_wp2_with fail
  refine (hck _ hb).mono ?_
  rintro e W1 ⟨rfl, hb1⟩
  replace hb := hb.trans (hb1.mono hb.size)
  replace x0 := x0.below hb1
  clear hW c0 c1 c2 c3 c4 hb1 hck
  have c0 := x0.cell 0 rfl; have c1 := x0.cell 1 rfl; have c2 := x0.cell 2 rfl; have c3 := x0.cell 3 rfl; have c4 := x0.cell 4 rfl
  go_wp2_with fail
  refine (hcl _ hb).mono ?_
  rintro e V1 ⟨hb1, oab, oast, oae, oak, ocb, ocs, oce, ock, rfl, hO⟩
  replace hb := hb.trans (hb1.mono hb.size)
  replace x0 := x0.below hb1
  clear c0 c1 c2 c3 c4 hb1 hcl
  have hb1 := below_one (w := V1) (.cells #[.slice oab X.bs.length ocb, .slice oast X.st.length ocs, .slice oae X.er.length oce, .slice oak X.ks.length ock, .int .i64 X.ch] 26)
  have y0 := Bx.new V1 #[.slice oab X.bs.length ocb, .slice oast X.st.length ocs, .slice oae X.er.length oce, .slice oak X.ks.length ock, .int .i64 X.ch] 26
  have HH := hid (And.intro hb (And.intro (x0.below hb1) (And.intro y0 (And.intro hb1 hO))))
  have hVs : w.heap.size < V1.heap.size := x0.lt
  clear hb x0 y0 hO hb1
  go_upto_region 5 with fail
  obtain ⟨hb, x0, y0, hb1, hO⟩ := HH.out
  clear HH
  obtain ⟨g, hg⟩ : ∃ g, g = V1.heap.size := ⟨_, rfl⟩
  rw [← hg] at y0 hVs ⊢
  have HG := hid hg
  clear hg
  generalize V1.alloc _ = Va at *
  have hwC := HCH.out
  have z1 : Bx (Va.setCell ⟨g, 4, none⟩ (.int .i64 ch1)) g #[.slice oab X.bs.length ocb, .slice oast X.st.length ocs, .slice oae X.er.length oce, .slice oak X.ks.length ock, .int .i64 ch1] 26 := by simpa using y0.set 4 (.int .i64 ch1)
  have HH := hid (And.intro (hb.trans ((hb1.setCell (p := ⟨g, 4, none⟩) (by show V1.heap.size ≤ g; rw [HG.out]; exact Nat.le_refl _) (.int .i64 ch1)).mono hb.size)) (And.intro (x0.other (a := ⟨g, 4, none⟩) (by show w.heap.size ≠ g; omega) (.int .i64 ch1)) (And.intro z1 (hO.below (hb1.setCell (p := ⟨g, 4, none⟩) (by show V1.heap.size ≤ g; rw [HG.out]; exact Nat.le_refl _) (.int .i64 ch1)) (Nat.le_refl _)))))
  have d0 := y0.cell 0 rfl; have d1 := y0.cell 1 rfl; have d2 := y0.cell 2 rfl; have d3 := y0.cell 3 rfl; have d4 := y0.cell 4 rfl
  have f0 := y0.free 0; have f1 := y0.free 1; have f2 := y0.free 2; have f3 := y0.free 3; have f4 := y0.free 4
  clear hb x0 y0 z1 hb1 hO
  go_upto_region 6 with fail
  obtain ⟨hb, x0, y0, hO⟩ := HH.out
  clear HH d0 d1 d2 d3 d4 f0 f1 f2 f3 f4 hVs HG
  obtain ⟨hft, hms, hftY, hmsY⟩ := HCK.out
  clear HCK
  generalize World.setCell _ _ _ = Vb at *
  have S0 : BlS Vb Vb.drew := (Below.refl Vb.heap.size Vb).drew
  refine wp_region_head 9 (fun w' => BlS Vb w') (by kernel_rfl) rfl ?_
  generalize Vb.drew = Y0 at *
  refine HeadAt.take (i := 0) (.agg #[.slice oab X.bs.length ocb, .slice oast X.st.length ocs, .slice oae X.er.length oce, .slice oak X.ks.length ock, .int .i64 ch1]) rfl (by kernel_rfl) (.inl ⟨rfl, fun w' z => ?_⟩) S0 ?_
  · (have z0 := (y0.below z).cell 0 rfl; have z1 := (y0.below z).cell 1 rfl; have z2 := (y0.below z).cell 2 rfl; have z3 := (y0.below z).cell 3 rfl; have z4 := (y0.below z).cell 4 rfl; simp [go_sem, z0, z1, z2, z3, z4])
  (try simp only [Act.put, List.getElem_toArray, List.getElem_cons_succ, List.getElem_cons_zero, List.setIfInBounds_toArray, List.set_cons_succ, List.set_cons_zero])
  refine HeadAt.take (i := 1) (.agg #[.slice oab X.bs.length ocb, .slice oast X.st.length ocs, .slice oae X.er.length oce, .slice oak X.ks.length ock, .int .i64 ch1]) rfl (by kernel_rfl) (.inl ⟨rfl, fun w' z => ?_⟩) S0 ?_
  · (have z0 := (y0.below z).cell 0 rfl; have z1 := (y0.below z).cell 1 rfl; have z2 := (y0.below z).cell 2 rfl; have z3 := (y0.below z).cell 3 rfl; have z4 := (y0.below z).cell 4 rfl; simp [go_sem, z0, z1, z2, z3, z4])
  (try simp only [Act.put, List.getElem_toArray, List.getElem_cons_succ, List.getElem_cons_zero, List.setIfInBounds_toArray, List.set_cons_succ, List.set_cons_zero])
  refine HeadAt.take (i := 4) (.agg #[.slice ab X.bs.length cb, .slice ast X.st.length cs, .slice ae X.er.length ce, .slice ak X.ks.length ck, .int .i64 X.ch]) rfl (by kernel_rfl) (.inl ⟨rfl, fun w' z => ?_⟩) S0 ?_
  · (have z0 := (x0.below z).cell 0 rfl; have z1 := (x0.below z).cell 1 rfl; have z2 := (x0.below z).cell 2 rfl; have z3 := (x0.below z).cell 3 rfl; have z4 := (x0.below z).cell 4 rfl; simp [go_sem, z0, z1, z2, z3, z4])
  (try simp only [Act.put, List.getElem_toArray, List.getElem_cons_succ, List.getElem_cons_zero, List.setIfInBounds_toArray, List.set_cons_succ, List.set_cons_zero])
  refine HeadAt.take (i := 5) (.agg #[.slice ab X.bs.length cb, .slice ast X.st.length cs, .slice ae X.er.length ce, .slice ak X.ks.length ck, .int .i64 X.ch]) rfl (by kernel_rfl) (.inl ⟨rfl, fun w' z => ?_⟩) S0 ?_
  · (have z0 := (x0.below z).cell 0 rfl; have z1 := (x0.below z).cell 1 rfl; have z2 := (x0.below z).cell 2 rfl; have z3 := (x0.below z).cell 3 rfl; have z4 := (x0.below z).cell 4 rfl; simp [go_sem, z0, z1, z2, z3, z4])
  (try simp only [Act.put, List.getElem_toArray, List.getElem_cons_succ, List.getElem_cons_zero, List.setIfInBounds_toArray, List.set_cons_succ, List.set_cons_zero])
  refine HeadAt.one (i := 2) rfl (by kernel_rfl) ?_
  generalize hK : Upto _ _ = K0
  (try simp only [Act.put, List.getElem_toArray, List.getElem_cons_succ, List.getElem_cons_zero, List.setIfInBounds_toArray, List.set_cons_succ, List.set_cons_zero])
  go_wp2_with fail
  refine (hftY _ _ _ _ _ _ _ _ _ (hO.below (show Below Vb.heap.size Vb _ from S0) (Nat.le_refl _))).mono ?_
  rintro e V2 ⟨hb1, aY, gY, rfl, hRY⟩
  go_wp2_with fail
  have S1 : BlS Vb V2 := Below.trans S0 (hb1.mono (Below.size S0))
  subst hK
  refine ⟨S1, ?_⟩
  (try simp only [Act.put, List.getElem_toArray, List.getElem_cons_succ, List.getElem_cons_zero, List.setIfInBounds_toArray, List.set_cons_succ, List.set_cons_zero])
  clear S0
  have S0 := S1
  clear S1
  refine HeadAt.one (i := 3) rfl (by kernel_rfl) ?_
  generalize hK : Upto _ _ = K0
  (try simp only [Act.put, List.getElem_toArray, List.getElem_cons_succ, List.getElem_cons_zero, List.setIfInBounds_toArray, List.set_cons_succ, List.set_cons_zero])
  go_wp2_with fail
  refine (hmsY _ _ _ _ _ _ _ _ _ (hO.below (show Below Vb.heap.size Vb _ from S0) (Nat.le_refl _)) aY gY hRY).mono ?_
  rintro e V3 ⟨rfl, hb1⟩
  go_wp2_with fail
  have S1 : BlS Vb V3 := Below.trans S0 (hb1.mono (Below.size S0))
  subst hK
  refine ⟨S1, ?_⟩
  (try simp only [Act.put, List.getElem_toArray, List.getElem_cons_succ, List.getElem_cons_zero, List.setIfInBounds_toArray, List.set_cons_succ, List.set_cons_zero])
  clear S0
  have S0 := S1
  clear S1
  clear hRY
  refine HeadAt.one (i := 6) rfl (by kernel_rfl) ?_
  generalize hK : Upto _ _ = K0
  (try simp only [Act.put, List.getElem_toArray, List.getElem_cons_succ, List.getElem_cons_zero, List.setIfInBounds_toArray, List.set_cons_succ, List.set_cons_zero])
  go_wp2_with fail
  refine (hft _ (hb.trans (Below.mono S0 hb.size))).mono ?_
  rintro e V4 ⟨hb1, aX, gX, rfl, hRX⟩
  go_wp2_with fail
  have S1 : BlS Vb V4 := Below.trans S0 (hb1.mono (Below.size S0))
  subst hK
  refine ⟨S1, ?_⟩
  (try simp only [Act.put, List.getElem_toArray, List.getElem_cons_succ, List.getElem_cons_zero, List.setIfInBounds_toArray, List.set_cons_succ, List.set_cons_zero])
  clear S0
  have S0 := S1
  clear S1
  refine HeadAt.one (i := 7) rfl (by kernel_rfl) ?_
  generalize hK : Upto _ _ = K0
  (try simp only [Act.put, List.getElem_toArray, List.getElem_cons_succ, List.getElem_cons_zero, List.setIfInBounds_toArray, List.set_cons_succ, List.set_cons_zero])
  go_wp2_with fail
  refine (hms _ (hb.trans (Below.mono S0 hb.size)) aX gX hRX).mono ?_
  rintro e V5 ⟨rfl, hb1⟩
  go_wp2_with fail
  have S1 : BlS Vb V5 := Below.trans S0 (hb1.mono (Below.size S0))
  subst hK
  refine ⟨S1, ?_⟩
  (try simp only [Act.put, List.getElem_toArray, List.getElem_cons_succ, List.getElem_cons_zero, List.setIfInBounds_toArray, List.set_cons_succ, List.set_cons_zero])
  clear S0
  have S0 := S1
  clear S1
  refine HeadAt.take (i := 8) (.int .i64 (b1 - b0)) rfl (by kernel_rfl) (.inl ⟨rfl, fun w' z => ?_⟩) S0 ?_
  · (simp [go_sem, hwr])
  (try simp only [Act.put, List.getElem_toArray, List.getElem_cons_succ, List.getElem_cons_zero, List.setIfInBounds_toArray, List.set_cons_succ, List.set_cons_zero])
  refine HeadAt.done (by kernel_rfl) ?_
  (try simp only [Act.put, List.drop_succ_cons, List.drop_zero, List.getElem_toArray, List.getElem_cons_succ, List.getElem_cons_zero])
  go_wp2_with fail
  refine NoPanic.normal ?_
  have hbV := hb.trans (Below.mono S0 hb.size)
  clear S0 hft hms hftY hmsY hRX x0 y0 hO
  go_wp2
  go_ret2
  exact ⟨rfl, hbV⟩
end Go.Proofs.Ytipdohpbilabiaa
/-! The reference's Copy. -/
namespace Go.Proofs.Ytipdohpbilabiaa
set_option linter.unusedSimpArgs false
set_option linter.unusedVariables false
open Go Go.RowKit

set_option maxRecDepth 100000 in
set_option maxHeartbeats 2000000 in
theorem RCopy_bad (ab ast ae ak : Option Addr) (cb cs ce ck : Nat) (X : Sw) (t : Int) (w : World) (hX : Swp w ab ast ae ak X) (r : Int) (hr : r = if vB X then 1 else 70) (hb : vB X = true → inI 0 t (ntI X) = false) : Calls Try.prog 41 #[.agg #[.slice ab X.bs.length cb, .slice ast X.st.length cs, .slice ae X.er.length ce, .slice ak X.ks.length ck, .int .i64 X.ch], .int .i64 t] w fun e w' => e = .returned (.tuple #[.int .i64 0, .int .i64 r]) ∧ Below w.heap.size w w' := by
  obtain ⟨W, hW, hbw, _, x0⟩ := boxes1 w #[.slice ab X.bs.length cb, .slice ast X.st.length cs, .slice ae X.er.length ce, .slice ak X.ks.length ck, .int .i64 X.ch] 26
  have hck := fun V (h : Below w.heap.size w V) => Check_any ab ast ae ak cb cs ce ck X V (hX.below h (Nat.le_refl _))
  have hwi := fun V => within_any t 0 (ntI X) V
  have hln := hX.2.1.len
  cases hv : vB X with
  | false =>
    rw [hv] at hck hr
    rw [show cod false = 70 from rfl] at hck
    replace hr : r = 70 := hr
    subst hr
    clear hX hv hb hwi hln
    have c0 := x0.cell 0 rfl; have c1 := x0.cell 1 rfl; have c2 := x0.cell 2 rfl; have c3 := x0.cell 3 rfl; have c4 := x0.cell 4 rfl
    go_enter Try.func41, Try.ntmps41
    go_wp2_with fail
    refine (hck _ hbw).mono ?_
    rintro e W1 ⟨rfl, hb1⟩
    replace hb := hbw.trans (hb1.mono hbw.size)
    clear hW c0 c1 c2 c3 c4 hb1 hck x0
    go_wp2
    go_ret2
    exact ⟨rfl, hb⟩
  | true =>
    have hok := vB_iff hv
    have ht6 := hok.t6
    rw [hb hv] at hwi
    rw [hv] at hck hr
    rw [show cod true = 0 from rfl] at hck
    replace hr : r = 1 := hr
    subst hr
    unfold ntI at hwi
    have ewt : IntKind.i64.wrap ((X.st.length : Int) - 1) = (X.st.length : Int) - 1 := IntWalk.i64_in _ (by omega)
    clear hX hv hb hln hok
    have c0 := x0.cell 0 rfl; have c1 := x0.cell 1 rfl; have c2 := x0.cell 2 rfl; have c3 := x0.cell 3 rfl; have c4 := x0.cell 4 rfl
    go_enter Try.func41, Try.ntmps41
    go_wp2_with fail
    refine (hck _ hbw).mono ?_
    rintro e W1 ⟨rfl, hb1⟩
    replace hb := hbw.trans (hb1.mono hbw.size)
    replace x0 := x0.below hb1
    clear hW c0 c1 c2 c3 c4 hb1 hck
    have c0 := x0.cell 0 rfl; have c1 := x0.cell 1 rfl; have c2 := x0.cell 2 rfl; have c3 := x0.cell 3 rfl; have c4 := x0.cell 4 rfl
    go_wp2_with fail
    refine (hwi _).mono ?_
    rintro e W2 ⟨rfl, rfl⟩
    go_wp2
    go_ret2
    exact ⟨rfl, hb⟩

set_option maxRecDepth 100000 in
set_option maxHeartbeats 4000000 in
theorem RCopy_ok (ab ast ae ak : Option Addr) (cb cs ce ck : Nat) (X : Sw) (t : Int) (w : World) (hX : Swp w ab ast ae ak X) (hv : vB X = true) (ht : inI 0 t (ntI X) = true) : Calls Try.prog 41 #[.agg #[.slice ab X.bs.length cb, .slice ast X.st.length cs, .slice ae X.er.length ce, .slice ak X.ks.length ck, .int .i64 X.ch], .int .i64 t] w fun e w' => e = .returned (.tuple #[.int .i64 (copyV X.vz t.toNat), .int .i64 0]) ∧ Below w.heap.size w w' := by
  have hok := vB_iff hv
  obtain ⟨W, hW, hb, _, x0⟩ := boxes1 w #[.slice ab X.bs.length cb, .slice ast X.st.length cs, .slice ae X.er.length ce, .slice ak X.ks.length ck, .int .i64 X.ch] 26
  have hwi := fun V => within_any t 0 (ntI X) V
  rw [ht] at hwi
  unfold ntI at hwi
  obtain ⟨i, hi, hti⟩ : ∃ i : Nat, i < X.st.length ∧ t = (i : Int) := ⟨t.toNat, by have := inI_iff.1 ht; unfold ntI at this; omega, by have := inI_iff.1 ht; omega⟩
  subst hti
  rw [show ((i : Int).toNat) = i from rfl]
  have hck := fun V (h : Below w.heap.size w V) => Check_any ab ast ae ak cb cs ce ck X V (hX.below h (Nat.le_refl _))
  rw [hv, show cod true = 0 from rfl] at hck
  have hgX := fun V (h : Below w.heap.size w V) => hX.below h (Nat.le_refl _)
  have hcl := fun V h => CloneM_any ab ast ae ak cb cs ce ck X V (hgX V h) (by have := hok.nb3; omega) (fun l hl => by obtain ⟨i, hi, rfl⟩ := mem_getD [] hl; have := (hok.b3 i hi).1; omega) (by have := hok.t6; omega) (by have := hok.t6; have := hok.er1; omega) (fun l hl => by obtain ⟨i, hi, rfl⟩ := mem_getD [] hl; have := (hok.er2 i hi).1; have := hok.nb3; omega) (by have := hok.k4; omega)
  have hft := fun V h => fitting_all ab ast ae ak cb cs ce ck X hok V (hgX V h)
  have hms := fun V h a c hR => two_ms ab ast ae ak cb cs ce ck X (one_two hok) V (hgX V h) a c hR
  obtain ⟨Y, hY⟩ : ∃ Y : Sw, Y = { X with st := X.st.set i (X.st.getD i 0 + 1) } := ⟨_, rfl⟩
  have hYo : Two.XOk Y := by rw [hY]; exact two_st hok i hi
  have hYl : Y.bs.length = X.bs.length ∧ Y.st.length = X.st.length ∧ Y.er.length = X.er.length ∧ Y.ks.length = X.ks.length ∧ Y.ch = X.ch := by rw [hY]; exact ⟨rfl, List.length_set, rfl, rfl, rfl⟩
  have hYv : Y.vz = X.vz.more i := by rw [hY]; rfl
  have hYw : ∀ (V : World) B v2 a6 c6 v9 v13, CMem V B v2 (.slice a6 X.st.length c6) v9 v13 { X with st := X.st.set i (X.st.getD i 0 + 1) } → ∃ (ab ast ae ak : Option Addr) (cb cs ce ck : Nat), v2 = .slice ab X.bs.length cb ∧ (Value.slice a6 X.st.length c6) = .slice ast X.st.length cs ∧ v9 = .slice ae X.er.length ce ∧ v13 = .slice ak X.ks.length ck ∧ Swp V ab ast ae ak Y := fun V B v2 a6 c6 v9 v13 h => by
    rw [← hY] at h
    obtain ⟨b1, b2, b3, b4, k1, k2, k3, k4, q1, q2, q3, q4, hO⟩ := h.swp (by have := hYo.nb3; omega) (by have := hYo.t6; omega) (by have := hYo.t6; have := hYo.er1; omega) (by have := hYo.k4; omega) (fun x hx => by have := hYo.st9 x hx; omega) (fun x hx => by rw [hY] at hx; exact hX.2.2.2.rng x hx)
    rw [hYl.1] at q1; rw [hYl.2.1] at q2; rw [hYl.2.2.1] at q3; rw [hYl.2.2.2.1] at q4
    exact ⟨b1, b2, b3, b4, k1, k2, k3, k4, q1, q2, q3, q4, hO⟩
  have hftY := fun (ab ast ae ak : Option Addr) (cb cs ce ck : Nat) V (h : Swp V ab ast ae ak Y) => two_ft ab ast ae ak cb cs ce ck Y hYo V h
  have hmsY := fun (ab ast ae ak : Option Addr) (cb cs ce ck : Nat) V (h : Swp V ab ast ae ak Y) a c (hR : Rat V a (ftL Y Y.bs.length [])) => two_ms ab ast ae ak cb cs ce ck Y hYo V h a c hR
  rw [hYv] at hmsY
  have hs9 := hok.st9 (X.st.getD i 0) (getD_mem' X.st 0 hi)
  have he1 := earn_le (vz_ok hok) (bestP X.vz)
  have he2 := earn_le (vzC_ok hok (x := X.st.getD i 0) (by rw [List.getD_eq_getElem?_getD, List.getElem?_eq_getElem hi]; rfl)) (bestP (X.vz.more i))
  have ht6 := hok.t6
  have ewt : IntKind.i64.wrap ((X.st.length : Int) - 1) = (X.st.length : Int) - 1 := IntWalk.i64_in _ (by omega)
  unfold copyV
  generalize earn X.vz (bestP X.vz) = b0 at *
  generalize earn (X.vz.more i) (bestP (X.vz.more i)) = b1 at *
  have hwr : IntKind.i64.wrap (b1 - b0) = b1 - b0 := IntWalk.i64_in _ (by omega)
  obtain ⟨FY, hFY⟩ : ∃ F, F = ftL Y Y.bs.length [] := ⟨_, rfl⟩
  obtain ⟨FX, hFX⟩ : ∃ F, F = ftL X X.bs.length [] := ⟨_, rfl⟩
  rw [← hFY] at hftY hmsY
  rw [← hFX] at hft hms
  have hlX : FX.length ≤ 10077696 := by rw [hFX]; exact ftL_small hok
  have hlY : FY.length ≤ 10077696 := by rw [hFY]; exact two_len hYo
  rw [hYl.1, hYl.2.1, hYl.2.2.1, hYl.2.2.2.1, hYl.2.2.2.2] at hftY hmsY
  unfold FtP at hft hftY
  obtain ⟨o1, ho1⟩ : ∃ o, o = X.st.getD i 0 := ⟨_, rfl⟩
  rw [← ho1] at hs9
  have hst := fun (V : World) B v2 a6 c6 v9 v13 (h : CMem V B v2 (.slice a6 X.st.length c6) v9 v13 X) => CMem.setStock h hi (X.st.getD i 0 + 1)
  rw [← ho1] at hst hYw
  have hwt : IntKind.i64.wrap (o1 + 1) = o1 + 1 := IntWalk.i64_in _ (by omega)
  have hiI : (i : Int) < (X.st.length : Int) := by omega
  have hi0 : (0 : Int) ≤ (i : Int) := by omega
  clear hFY hFX hX hv hok he1 he2 hYo hYl hYv ho1 ht hs9 hY
  obtain ⟨nX, hnX⟩ : ∃ n, n = FX.length := ⟨_, rfl⟩
  obtain ⟨nY, hnY⟩ : ∃ n, n = FY.length := ⟨_, rfl⟩
  rw [← hnX] at hft hms hlX
  rw [← hnY] at hftY hmsY hlY
  clear hnX hnY
  have HCK := hid (And.intro hft (And.intro hms (And.intro hftY (And.intro hmsY (And.intro hst hYw)))))
  have HWT := hid hwt
  clear hft hms hftY hmsY hst hYw hwt
  have c0 := x0.cell 0 rfl; have c1 := x0.cell 1 rfl; have c2 := x0.cell 2 rfl; have c3 := x0.cell 3 rfl; have c4 := x0.cell 4 rfl
  go_enter Try.func41, Try.ntmps41
  go_wp2_with fail
  refine (hck _ hb).mono ?_
  rintro e W1 ⟨rfl, hb1⟩
  replace hb := hb.trans (hb1.mono hb.size)
  replace x0 := x0.below hb1
  have hW1s := hb.size
  clear hW c0 c1 c2 c3 c4 hb1 hck
  have c0 := x0.cell 0 rfl; have c1 := x0.cell 1 rfl; have c2 := x0.cell 2 rfl; have c3 := x0.cell 3 rfl; have c4 := x0.cell 4 rfl
  go_wp2_with fail
  refine (hwi _).mono ?_
  rintro e W2 ⟨rfl, rfl⟩
  go_wp2_with fail
  refine (hcl _ hb).mono ?_
  rintro e V1 ⟨hb1, oab, oast, oae, oak, ocb, ocs, oce, ock, rfl, hM⟩
  replace hb := hb.trans (hb1.mono hb.size)
  replace x0 := x0.below hb1
  clear c0 c1 c2 c3 c4 hb1 hcl hwi
  have hb1 := below_one (w := V1) (.cells #[.slice oab X.bs.length ocb, .slice oast X.st.length ocs, .slice oae X.er.length oce, .slice oak X.ks.length ock, .int .i64 X.ch] 26)
  have y0 := Bx.new V1 #[.slice oab X.bs.length ocb, .slice oast X.st.length ocs, .slice oae X.er.length oce, .slice oak X.ks.length ock, .int .i64 X.ch] 26
  have HH := hid (And.intro hb (And.intro (x0.below hb1) (And.intro y0 (And.intro hb1 (hM.below hb1)))))
  have hVs : w.heap.size < V1.heap.size := x0.lt
  clear hb x0 y0 hM hb1
  go_upto_region 7 with fail
  obtain ⟨hb, x0, y0, hb1, hM⟩ := HH.out
  clear HH
  obtain ⟨g, hg⟩ : ∃ g, g = V1.heap.size := ⟨_, rfl⟩
  rw [← hg] at y0 hVs ⊢
  have HG := hid hg
  clear hg
  generalize V1.alloc _ = Va at *
  obtain ⟨hft, hms, hftY, hmsY, hst, hYw⟩ := HCK.out
  obtain ⟨gs, hgs, hgB, hgl, hcs, hfs, hcur, hM1⟩ := hst _ _ _ _ _ _ _ hM
  have hgW : w.heap.size < gs := by omega
  have hne : g ≠ gs := fun e => by
    obtain ⟨cur, hc⟩ := hcur
    rw [← e] at hc
    unfold Bx at y0
    rw [y0] at hc; cases hc
  have hbB : Below w.heap.size w Va := hb.trans (hb1.mono hb.size)
  obtain ⟨b1', b2', b3', b4', k1', k2', k3', k4', q1, q2, q3, q4, hO⟩ := hYw _ _ _ _ _ _ _ hM1
  have HH := hid (And.intro (hbB.setCell (p := ⟨gs, i, none⟩) (by show w.heap.size ≤ gs; omega) (.int .i64 (o1 + 1))) (And.intro (x0.other (a := ⟨gs, i, none⟩) (by show w.heap.size ≠ gs; omega) (.int .i64 (o1 + 1))) (And.intro (y0.other (a := ⟨gs, i, none⟩) hne (.int .i64 (o1 + 1))) hO)))
  have HQ := hid (And.intro q1 (And.intro q2 (And.intro q3 q4)))
  have hwt := HWT.out
  subst hgs
  have d0 := y0.cell 0 rfl; have d1 := y0.cell 1 rfl; have d2 := y0.cell 2 rfl; have d3 := y0.cell 3 rfl; have d4 := y0.cell 4 rfl
  clear hb x0 y0 hb1 hM hM1 hO hst hYw hft hms hftY hmsY hcur hbB q1 q2 q3 q4 HG hgB hVs
  go_upto_region 8 with fail
  obtain ⟨hb, x0, y0, hO⟩ := HH.out
  obtain ⟨hft, hms, hftY, hmsY, _, _⟩ := HCK.out
  obtain ⟨q1, q2, q3, q4⟩ := HQ.out
  simp only [Value.slice.injEq, true_and] at q1 q2 q3 q4
  obtain ⟨rfl, rfl⟩ := q1
  obtain ⟨rfl, rfl⟩ := q2
  obtain ⟨rfl, rfl⟩ := q3
  obtain ⟨rfl, rfl⟩ := q4
  clear HH HCK HQ HWT d0 d1 d2 d3 d4 hcs hfs hwt
  generalize World.setCell _ _ _ = Vb at *
  have S0 : BlS Vb Vb.drew := (Below.refl Vb.heap.size Vb).drew
  refine wp_region_head 9 (fun w' => BlS Vb w') (by kernel_rfl) rfl ?_
  generalize Vb.drew = Y0 at *
  refine HeadAt.take (i := 0) (.agg #[.slice oab X.bs.length ocb, .slice (some ⟨gs, 0, none⟩) X.st.length ocs, .slice oae X.er.length oce, .slice oak X.ks.length ock, .int .i64 X.ch]) rfl (by kernel_rfl) (.inl ⟨rfl, fun w' z => ?_⟩) S0 ?_
  · (have z0 := (y0.below z).cell 0 rfl; have z1 := (y0.below z).cell 1 rfl; have z2 := (y0.below z).cell 2 rfl; have z3 := (y0.below z).cell 3 rfl; have z4 := (y0.below z).cell 4 rfl; simp [go_sem, z0, z1, z2, z3, z4])
  (try simp only [Act.put, List.getElem_toArray, List.getElem_cons_succ, List.getElem_cons_zero, List.setIfInBounds_toArray, List.set_cons_succ, List.set_cons_zero])
  refine HeadAt.take (i := 1) (.agg #[.slice oab X.bs.length ocb, .slice (some ⟨gs, 0, none⟩) X.st.length ocs, .slice oae X.er.length oce, .slice oak X.ks.length ock, .int .i64 X.ch]) rfl (by kernel_rfl) (.inl ⟨rfl, fun w' z => ?_⟩) S0 ?_
  · (have z0 := (y0.below z).cell 0 rfl; have z1 := (y0.below z).cell 1 rfl; have z2 := (y0.below z).cell 2 rfl; have z3 := (y0.below z).cell 3 rfl; have z4 := (y0.below z).cell 4 rfl; simp [go_sem, z0, z1, z2, z3, z4])
  (try simp only [Act.put, List.getElem_toArray, List.getElem_cons_succ, List.getElem_cons_zero, List.setIfInBounds_toArray, List.set_cons_succ, List.set_cons_zero])
  refine HeadAt.take (i := 4) (.agg #[.slice ab X.bs.length cb, .slice ast X.st.length cs, .slice ae X.er.length ce, .slice ak X.ks.length ck, .int .i64 X.ch]) rfl (by kernel_rfl) (.inl ⟨rfl, fun w' z => ?_⟩) S0 ?_
  · (have z0 := (x0.below z).cell 0 rfl; have z1 := (x0.below z).cell 1 rfl; have z2 := (x0.below z).cell 2 rfl; have z3 := (x0.below z).cell 3 rfl; have z4 := (x0.below z).cell 4 rfl; simp [go_sem, z0, z1, z2, z3, z4])
  (try simp only [Act.put, List.getElem_toArray, List.getElem_cons_succ, List.getElem_cons_zero, List.setIfInBounds_toArray, List.set_cons_succ, List.set_cons_zero])
  refine HeadAt.take (i := 5) (.agg #[.slice ab X.bs.length cb, .slice ast X.st.length cs, .slice ae X.er.length ce, .slice ak X.ks.length ck, .int .i64 X.ch]) rfl (by kernel_rfl) (.inl ⟨rfl, fun w' z => ?_⟩) S0 ?_
  · (have z0 := (x0.below z).cell 0 rfl; have z1 := (x0.below z).cell 1 rfl; have z2 := (x0.below z).cell 2 rfl; have z3 := (x0.below z).cell 3 rfl; have z4 := (x0.below z).cell 4 rfl; simp [go_sem, z0, z1, z2, z3, z4])
  (try simp only [Act.put, List.getElem_toArray, List.getElem_cons_succ, List.getElem_cons_zero, List.setIfInBounds_toArray, List.set_cons_succ, List.set_cons_zero])
  refine HeadAt.one (i := 2) rfl (by kernel_rfl) ?_
  generalize hK : Upto _ _ = K0
  (try simp only [Act.put, List.getElem_toArray, List.getElem_cons_succ, List.getElem_cons_zero, List.setIfInBounds_toArray, List.set_cons_succ, List.set_cons_zero])
  go_wp2_with fail
  refine (hftY _ _ _ _ _ _ _ _ _ (hO.below (show Below Vb.heap.size Vb _ from S0) (Nat.le_refl _))).mono ?_
  rintro e V2 ⟨hb1, aY, gY, rfl, hRY⟩
  go_wp2_with fail
  have S1 : BlS Vb V2 := Below.trans S0 (hb1.mono (Below.size S0))
  subst hK
  refine ⟨S1, ?_⟩
  (try simp only [Act.put, List.getElem_toArray, List.getElem_cons_succ, List.getElem_cons_zero, List.setIfInBounds_toArray, List.set_cons_succ, List.set_cons_zero])
  clear S0
  have S0 := S1
  clear S1
  refine HeadAt.one (i := 3) rfl (by kernel_rfl) ?_
  generalize hK : Upto _ _ = K0
  (try simp only [Act.put, List.getElem_toArray, List.getElem_cons_succ, List.getElem_cons_zero, List.setIfInBounds_toArray, List.set_cons_succ, List.set_cons_zero])
  go_wp2_with fail
  refine (hmsY _ _ _ _ _ _ _ _ _ (hO.below (show Below Vb.heap.size Vb _ from S0) (Nat.le_refl _)) aY gY hRY).mono ?_
  rintro e V3 ⟨rfl, hb1⟩
  go_wp2_with fail
  have S1 : BlS Vb V3 := Below.trans S0 (hb1.mono (Below.size S0))
  subst hK
  refine ⟨S1, ?_⟩
  (try simp only [Act.put, List.getElem_toArray, List.getElem_cons_succ, List.getElem_cons_zero, List.setIfInBounds_toArray, List.set_cons_succ, List.set_cons_zero])
  clear S0
  have S0 := S1
  clear S1
  clear hRY
  refine HeadAt.one (i := 6) rfl (by kernel_rfl) ?_
  generalize hK : Upto _ _ = K0
  (try simp only [Act.put, List.getElem_toArray, List.getElem_cons_succ, List.getElem_cons_zero, List.setIfInBounds_toArray, List.set_cons_succ, List.set_cons_zero])
  go_wp2_with fail
  refine (hft _ (hb.trans (Below.mono S0 hb.size))).mono ?_
  rintro e V4 ⟨hb1, aX, gX, rfl, hRX⟩
  go_wp2_with fail
  have S1 : BlS Vb V4 := Below.trans S0 (hb1.mono (Below.size S0))
  subst hK
  refine ⟨S1, ?_⟩
  (try simp only [Act.put, List.getElem_toArray, List.getElem_cons_succ, List.getElem_cons_zero, List.setIfInBounds_toArray, List.set_cons_succ, List.set_cons_zero])
  clear S0
  have S0 := S1
  clear S1
  refine HeadAt.one (i := 7) rfl (by kernel_rfl) ?_
  generalize hK : Upto _ _ = K0
  (try simp only [Act.put, List.getElem_toArray, List.getElem_cons_succ, List.getElem_cons_zero, List.setIfInBounds_toArray, List.set_cons_succ, List.set_cons_zero])
  go_wp2_with fail
  refine (hms _ (hb.trans (Below.mono S0 hb.size)) aX gX hRX).mono ?_
  rintro e V5 ⟨rfl, hb1⟩
  go_wp2_with fail
  have S1 : BlS Vb V5 := Below.trans S0 (hb1.mono (Below.size S0))
  subst hK
  refine ⟨S1, ?_⟩
  (try simp only [Act.put, List.getElem_toArray, List.getElem_cons_succ, List.getElem_cons_zero, List.setIfInBounds_toArray, List.set_cons_succ, List.set_cons_zero])
  clear S0
  have S0 := S1
  clear S1
  refine HeadAt.take (i := 8) (.int .i64 (b1 - b0)) rfl (by kernel_rfl) (.inl ⟨rfl, fun w' z => ?_⟩) S0 ?_
  · (simp [go_sem, hwr])
  (try simp only [Act.put, List.getElem_toArray, List.getElem_cons_succ, List.getElem_cons_zero, List.setIfInBounds_toArray, List.set_cons_succ, List.set_cons_zero])
  refine HeadAt.done (by kernel_rfl) ?_
  (try simp only [Act.put, List.drop_succ_cons, List.drop_zero, List.getElem_toArray, List.getElem_cons_succ, List.getElem_cons_zero])
  go_wp2_with fail
  refine NoPanic.normal ?_
  have hbV := hb.trans (Below.mono S0 hb.size)
  clear S0 hft hms hftY hmsY hRX x0 y0 hO
  go_wp2
  go_ret2
  exact ⟨rfl, hbV⟩
end Go.Proofs.Ytipdohpbilabiaa
/-! SwapsFewest: its walk. -/
namespace Go.Proofs.Ytipdohpbilabiaa
set_option linter.unusedSimpArgs false
set_option linter.unusedVariables false
open Go Go.RowKit

/-- When there is too much of something. -/
theorem FewN_far (ab ast ae ak : Option Addr) (cb cs ce ck : Nat) (X : Sw) (goal t : Int) (w : World) (hfa0 : ∀ V, Below w.heap.size w V → Calls Try.prog 26 #[.agg #[.slice ab X.bs.length cb, .slice ast X.st.length cs, .slice ae X.er.length ce, .slice ak X.ks.length ck, .int .i64 X.ch]] V fun e w' => e = .returned (.bool true) ∧ Below V.heap.size V w') : Calls Try.prog 5 #[.agg #[.slice ab X.bs.length cb, .slice ast X.st.length cs, .slice ae X.er.length ce, .slice ak X.ks.length ck, .int .i64 X.ch], .agg #[.int .i64 goal, .int .i64 t]] w fun e w' => e = .returned (.bool true) ∧ Below w.heap.size w w' := by
  obtain ⟨W, hWW, hb, _, x0, y0⟩ := boxes2 w #[.slice ab X.bs.length cb, .slice ast X.st.length cs, .slice ae X.er.length ce, .slice ak X.ks.length ck, .int .i64 X.ch] 26 #[.int .i64 goal, .int .i64 t] 51
  have hrd := hfa0
  have hW := works_any
  have c0 := x0.cell 0 rfl; have c1 := x0.cell 1 rfl; have c2 := x0.cell 2 rfl; have c3 := x0.cell 3 rfl; have c4 := x0.cell 4 rfl
  clear hfa0 y0
  go_enter Try.func5, Try.ntmps5
  go_wp2_with fail
  refine (hrd _ hb).mono ?_
  rintro e V1 ⟨rfl, hb1⟩
  replace hb := hb.trans (hb1.mono hb.size)
  replace x0 := x0.below hb1
  clear c0 c1 c2 c3 c4 hb1 hrd
  have c0 := x0.cell 0 rfl; have c1 := x0.cell 1 rfl; have c2 := x0.cell 2 rfl; have c3 := x0.cell 3 rfl; have c4 := x0.cell 4 rfl
  go_wp2_with fail
  refine (hW _).mono ?_
  rintro e Vw ⟨rfl, hb1⟩
  replace hb := hb.trans (hb1.mono hb.size)
  go_wp2
  go_ret
  exact ⟨rfl, hb⟩

theorem fewest_pair (X : Sw) (goal : Int) : ∃ m f : Int, (∀ (ab ast ae ak : Option Addr) (cb cs ce ck : Nat) V, Swp V ab ast ae ak X → Calls Try.prog 38 #[.agg #[.slice ab X.bs.length cb, .slice ast X.st.length cs, .slice ae X.er.length ce, .slice ak X.ks.length ck, .int .i64 X.ch], .int .i64 goal] V fun e w' => e = .returned (.tuple #[.int .i64 m, .int .i64 f]) ∧ Below V.heap.size V w') ∧ (∀ (ab ast ae ak : Option Addr) (cb cs ce ck : Nat) V, Swp V ab ast ae ak X → Calls Try.prog 39 #[.agg #[.slice ab X.bs.length cb, .slice ast X.st.length cs, .slice ae X.er.length ce, .slice ak X.ks.length ck, .int .i64 X.ch], .int .i64 goal] V fun e w' => e = .returned (.tuple #[.int .i64 m, .int .i64 f]) ∧ Below V.heap.size V w') := by
  cases hv : vB X with
  | false => exact ⟨0, 70, fun ab ast ae ak cb cs ce ck V h => Fewest_bad ab ast ae ak cb cs ce ck X goal V h 70 (by rw [hv]; rfl) (fun h => by rw [hv] at h; cases h), fun ab ast ae ak cb cs ce ck V h => RFewest_bad ab ast ae ak cb cs ce ck X goal V h 70 (by rw [hv]; rfl) (fun h => by rw [hv] at h; cases h)⟩
  | true =>
    cases hg : inI 0 goal 99999 with
    | false => exact ⟨0, 1, fun ab ast ae ak cb cs ce ck V h => Fewest_bad ab ast ae ak cb cs ce ck X goal V h 1 (by rw [hv]; rfl) (fun _ => hg), fun ab ast ae ak cb cs ce ck V h => RFewest_bad ab ast ae ak cb cs ce ck X goal V h 1 (by rw [hv]; rfl) (fun _ => hg)⟩
    | true =>
      rcases hq : fewV X.vz goal with ⟨y, o⟩
      exact ⟨_, _, fun ab ast ae ak cb cs ce ck V h => Fewest_ok ab ast ae ak cb cs ce ck X goal V h hv hg y o hq.symm, fun ab ast ae ak cb cs ce ck V h => RFewest_ok ab ast ae ak cb cs ce ck X goal V h hv hg y o hq.symm⟩
theorem copy_pair (X : Sw) (t : Int) : ∃ m f : Int, (∀ (ab ast ae ak : Option Addr) (cb cs ce ck : Nat) V, Swp V ab ast ae ak X → Calls Try.prog 40 #[.agg #[.slice ab X.bs.length cb, .slice ast X.st.length cs, .slice ae X.er.length ce, .slice ak X.ks.length ck, .int .i64 X.ch], .int .i64 t] V fun e w' => e = .returned (.tuple #[.int .i64 m, .int .i64 f]) ∧ Below V.heap.size V w') ∧ (∀ (ab ast ae ak : Option Addr) (cb cs ce ck : Nat) V, Swp V ab ast ae ak X → Calls Try.prog 41 #[.agg #[.slice ab X.bs.length cb, .slice ast X.st.length cs, .slice ae X.er.length ce, .slice ak X.ks.length ck, .int .i64 X.ch], .int .i64 t] V fun e w' => e = .returned (.tuple #[.int .i64 m, .int .i64 f]) ∧ Below V.heap.size V w') := by
  cases hv : vB X with
  | false => exact ⟨0, 70, fun ab ast ae ak cb cs ce ck V h => Copy_bad ab ast ae ak cb cs ce ck X t V h 70 (by rw [hv]; rfl) (fun h => by rw [hv] at h; cases h), fun ab ast ae ak cb cs ce ck V h => RCopy_bad ab ast ae ak cb cs ce ck X t V h 70 (by rw [hv]; rfl) (fun h => by rw [hv] at h; cases h)⟩
  | true =>
    cases hg : inI 0 t (ntI X) with
    | false => exact ⟨0, 1, fun ab ast ae ak cb cs ce ck V h => Copy_bad ab ast ae ak cb cs ce ck X t V h 1 (by rw [hv]; rfl) (fun _ => hg), fun ab ast ae ak cb cs ce ck V h => RCopy_bad ab ast ae ak cb cs ce ck X t V h 1 (by rw [hv]; rfl) (fun _ => hg)⟩
    | true => exact ⟨_, _, fun ab ast ae ak cb cs ce ck V h => Copy_ok ab ast ae ak cb cs ce ck X t V h hv hg, fun ab ast ae ak cb cs ce ck V h => RCopy_ok ab ast ae ak cb cs ce ck X t V h hv hg⟩
theorem change_pair (X : Sw) : ∃ m f : Int, (∀ (ab ast ae ak : Option Addr) (cb cs ce ck : Nat) V, Swp V ab ast ae ak X → Calls Try.prog 42 #[.agg #[.slice ab X.bs.length cb, .slice ast X.st.length cs, .slice ae X.er.length ce, .slice ak X.ks.length ck, .int .i64 X.ch]] V fun e w' => e = .returned (.tuple #[.int .i64 m, .int .i64 f]) ∧ Below V.heap.size V w') ∧ (∀ (ab ast ae ak : Option Addr) (cb cs ce ck : Nat) V, Swp V ab ast ae ak X → Calls Try.prog 43 #[.agg #[.slice ab X.bs.length cb, .slice ast X.st.length cs, .slice ae X.er.length ce, .slice ak X.ks.length ck, .int .i64 X.ch]] V fun e w' => e = .returned (.tuple #[.int .i64 m, .int .i64 f]) ∧ Below V.heap.size V w') := by
  cases hv : vB X with
  | false => exact ⟨0, 70, fun ab ast ae ak cb cs ce ck V h => Change_bad ab ast ae ak cb cs ce ck X V h hv, fun ab ast ae ak cb cs ce ck V h => RChange_bad ab ast ae ak cb cs ce ck X V h hv⟩
  | true => exact ⟨_, _, fun ab ast ae ak cb cs ce ck V h => Change_ok ab ast ae ak cb cs ce ck X V h hv, fun ab ast ae ak cb cs ce ck V h => RChange_ok ab ast ae ak cb cs ce ck X V h hv⟩

set_option maxRecDepth 100000 in
set_option maxHeartbeats 8000000 in
theorem swapsFewest_any (ab ast ae ak : Option Addr) (cb cs ce ck : Nat) (X : Sw) (goal t : Int) (w : World) (hX : Swp w ab ast ae ak X) (hf : farB X = false) : Calls Try.prog 5 #[.agg #[.slice ab X.bs.length cb, .slice ast X.st.length cs, .slice ae X.er.length ce, .slice ak X.ks.length ck, .int .i64 X.ch], .agg #[.int .i64 goal, .int .i64 t]] w fun e w' => e = .returned (.bool true) ∧ Below w.heap.size w w' := by
  have hwk := works_any
  have hfa := fun V (h : Swp V ab ast ae ak X) => Far_any ab ast ae ak cb cs ce ck X V h
  rw [hf] at hfa
  obtain ⟨z1, z2, z3, z4, z5, z6⟩ := far_sizes hf
  have hcl := fun V (h : Swp V ab ast ae ak X) => Clone_swp ab ast ae ak cb cs ce ck X V h z1 z2 z3 z4 z5 z6
  have hsm := fun (a1 a2 a3 a4 : Option Addr) (c1 c2 c3 c4 : Nat) (b1 b2 b3 b4 : Option Addr) (d1 d2 d3 d4 : Nat) V (h : Swp V a1 a2 a3 a4 X) (h' : Swp V b1 b2 b3 b4 X) => same_eq a1 a2 a3 a4 b1 b2 b3 b4 c1 c2 c3 c4 d1 d2 d3 d4 X V h h'
  obtain ⟨m1, f1, h38, h39⟩ := fewest_pair X goal
  obtain ⟨m2, f2, h40, h41⟩ := copy_pair X t
  obtain ⟨m3, f3, h42, h43⟩ := change_pair X
  obtain ⟨W, hWW, hb, _, x0, x1⟩ := boxes2 w #[.slice ab X.bs.length cb, .slice ast X.st.length cs, .slice ae X.er.length ce, .slice ak X.ks.length ck, .int .i64 X.ch] 26 #[.int .i64 goal, .int .i64 t] 51
  replace hX := hX.below hb (Nat.le_refl _)
  have hE1 : (m1 == m1) = true := by simp
  have hE2 : (f1 == f1) = true := by simp
  have hE3 : (m2 == m2) = true := by simp
  have hE4 : (f2 == f2) = true := by simp
  have hE5 : (m3 == m3) = true := by simp
  have hE6 : (f3 == f3) = true := by simp
  clear hf z1 z2 z3 z4 z5 z6
  have c0 := x0.cell 0 rfl; have c1 := x0.cell 1 rfl; have c2 := x0.cell 2 rfl; have c3 := x0.cell 3 rfl; have c4 := x0.cell 4 rfl
  have p0 := x1.cell 0 rfl; have p1 := x1.cell 1 rfl
  go_enter Try.func5, Try.ntmps5
  go_wp2_with fail
  refine (hfa _ hX).mono ?_
  rintro e Vc1 ⟨rfl, hb1⟩
  clear c0 c1 c2 c3 c4
  clear p0 p1
  replace x0 := x0.below hb1
  replace x1 := x1.below hb1
  replace hX := hX.below hb1 (Nat.le_refl _)
  replace hb := hb.trans (hb1.mono hb.size)
  clear hb1 hfa
  have c0 := x0.cell 0 rfl; have c1 := x0.cell 1 rfl; have c2 := x0.cell 2 rfl; have c3 := x0.cell 3 rfl; have c4 := x0.cell 4 rfl
  have p0 := x1.cell 0 rfl; have p1 := x1.cell 1 rfl
  go_wp2_with fail
  refine (hcl _ hX).mono ?_
  rintro e Vc2 ⟨hb1, oab, oast, oae, oak, ocb, ocs, oce, ock, rfl, hO⟩
  clear c0 c1 c2 c3 c4
  clear p0 p1
  replace x0 := x0.below hb1
  replace x1 := x1.below hb1
  replace hX := hX.below hb1 (Nat.le_refl _)
  replace hb := hb.trans (hb1.mono hb.size)
  clear hb1 hcl
  have c0 := x0.cell 0 rfl; have c1 := x0.cell 1 rfl; have c2 := x0.cell 2 rfl; have c3 := x0.cell 3 rfl; have c4 := x0.cell 4 rfl
  have p0 := x1.cell 0 rfl; have p1 := x1.cell 1 rfl
  have hba := below_one (w := Vc2) (.cells #[.slice oab X.bs.length ocb, .slice oast X.st.length ocs, .slice oae X.er.length oce, .slice oak X.ks.length ock, .int .i64 X.ch] 26)
  have HXa := hid (And.intro (x0.below hba) (And.intro (x1.below hba) (And.intro (hX.below hba (Nat.le_refl _)) (And.intro (hO.below hba (Nat.le_refl _)) (And.intro (hb.trans (hba.mono hb.size)) (Bx.new Vc2 #[.slice oab X.bs.length ocb, .slice oast X.st.length ocs, .slice oae X.er.length oce, .slice oak X.ks.length ock, .int .i64 X.ch] 26))))))
  clear hba hb x0 x1 hX hO
  go_upto_region 4 with fail
  clear c0 c1 c2 c3 c4
  clear p0 p1
  obtain ⟨x0, x1, hX, hO, hb, y0⟩ := HXa.out
  clear HXa
  generalize Vc2.heap.size = sa_y0 at *
  generalize World.alloc _ _ = Va_y0 at *
  have c0 := x0.cell 0 rfl; have c1 := x0.cell 1 rfl; have c2 := x0.cell 2 rfl; have c3 := x0.cell 3 rfl; have c4 := x0.cell 4 rfl
  have p0 := x1.cell 0 rfl; have p1 := x1.cell 1 rfl
  have d0 := y0.cell 0 rfl; have d1 := y0.cell 1 rfl; have d2 := y0.cell 2 rfl; have d3 := y0.cell 3 rfl; have d4 := y0.cell 4 rfl
  go_wp2_with fail
  refine (h38 _ _ _ _ _ _ _ _ _ hO).mono ?_
  rintro e Vc4 ⟨rfl, hb1⟩
  clear d0 d1 d2 d3 d4
  clear c0 c1 c2 c3 c4
  clear p0 p1
  replace x0 := x0.below hb1
  replace x1 := x1.below hb1
  replace y0 := y0.below hb1
  replace hX := hX.below hb1 (Nat.le_refl _)
  replace hO := hO.below hb1 (Nat.le_refl _)
  replace hb := hb.trans (hb1.mono hb.size)
  clear hb1 h38
  have c0 := x0.cell 0 rfl; have c1 := x0.cell 1 rfl; have c2 := x0.cell 2 rfl; have c3 := x0.cell 3 rfl; have c4 := x0.cell 4 rfl
  have p0 := x1.cell 0 rfl; have p1 := x1.cell 1 rfl
  have d0 := y0.cell 0 rfl; have d1 := y0.cell 1 rfl; have d2 := y0.cell 2 rfl; have d3 := y0.cell 3 rfl; have d4 := y0.cell 4 rfl
  go_wp2_with fail
  refine (h39 _ _ _ _ _ _ _ _ _ hX).mono ?_
  rintro e Vc5 ⟨rfl, hb1⟩
  clear c0 c1 c2 c3 c4
  clear p0 p1
  clear d0 d1 d2 d3 d4
  replace x0 := x0.below hb1
  replace x1 := x1.below hb1
  replace y0 := y0.below hb1
  replace hX := hX.below hb1 (Nat.le_refl _)
  replace hO := hO.below hb1 (Nat.le_refl _)
  replace hb := hb.trans (hb1.mono hb.size)
  clear hb1 h39
  have c0 := x0.cell 0 rfl; have c1 := x0.cell 1 rfl; have c2 := x0.cell 2 rfl; have c3 := x0.cell 3 rfl; have c4 := x0.cell 4 rfl
  have p0 := x1.cell 0 rfl; have p1 := x1.cell 1 rfl
  have d0 := y0.cell 0 rfl; have d1 := y0.cell 1 rfl; have d2 := y0.cell 2 rfl; have d3 := y0.cell 3 rfl; have d4 := y0.cell 4 rfl
  go_wp2_with fail
  refine (h40 _ _ _ _ _ _ _ _ _ hO).mono ?_
  rintro e Vc6 ⟨rfl, hb1⟩
  clear c0 c1 c2 c3 c4
  clear p0 p1
  clear d0 d1 d2 d3 d4
  replace x0 := x0.below hb1
  replace x1 := x1.below hb1
  replace y0 := y0.below hb1
  replace hX := hX.below hb1 (Nat.le_refl _)
  replace hO := hO.below hb1 (Nat.le_refl _)
  replace hb := hb.trans (hb1.mono hb.size)
  clear hb1 h40
  have c0 := x0.cell 0 rfl; have c1 := x0.cell 1 rfl; have c2 := x0.cell 2 rfl; have c3 := x0.cell 3 rfl; have c4 := x0.cell 4 rfl
  have p0 := x1.cell 0 rfl; have p1 := x1.cell 1 rfl
  have d0 := y0.cell 0 rfl; have d1 := y0.cell 1 rfl; have d2 := y0.cell 2 rfl; have d3 := y0.cell 3 rfl; have d4 := y0.cell 4 rfl
  go_wp2_with fail
  refine (h41 _ _ _ _ _ _ _ _ _ hX).mono ?_
  rintro e Vc7 ⟨rfl, hb1⟩
  clear c0 c1 c2 c3 c4
  clear p0 p1
  clear d0 d1 d2 d3 d4
  replace x0 := x0.below hb1
  replace x1 := x1.below hb1
  replace y0 := y0.below hb1
  replace hX := hX.below hb1 (Nat.le_refl _)
  replace hO := hO.below hb1 (Nat.le_refl _)
  replace hb := hb.trans (hb1.mono hb.size)
  clear hb1 h41
  have c0 := x0.cell 0 rfl; have c1 := x0.cell 1 rfl; have c2 := x0.cell 2 rfl; have c3 := x0.cell 3 rfl; have c4 := x0.cell 4 rfl
  have p0 := x1.cell 0 rfl; have p1 := x1.cell 1 rfl
  have d0 := y0.cell 0 rfl; have d1 := y0.cell 1 rfl; have d2 := y0.cell 2 rfl; have d3 := y0.cell 3 rfl; have d4 := y0.cell 4 rfl
  go_wp2_with fail
  refine (h42 _ _ _ _ _ _ _ _ _ hO).mono ?_
  rintro e Vc8 ⟨rfl, hb1⟩
  clear c0 c1 c2 c3 c4
  clear p0 p1
  clear d0 d1 d2 d3 d4
  replace x0 := x0.below hb1
  replace x1 := x1.below hb1
  replace y0 := y0.below hb1
  replace hX := hX.below hb1 (Nat.le_refl _)
  replace hO := hO.below hb1 (Nat.le_refl _)
  replace hb := hb.trans (hb1.mono hb.size)
  clear hb1 h42
  have c0 := x0.cell 0 rfl; have c1 := x0.cell 1 rfl; have c2 := x0.cell 2 rfl; have c3 := x0.cell 3 rfl; have c4 := x0.cell 4 rfl
  have p0 := x1.cell 0 rfl; have p1 := x1.cell 1 rfl
  have d0 := y0.cell 0 rfl; have d1 := y0.cell 1 rfl; have d2 := y0.cell 2 rfl; have d3 := y0.cell 3 rfl; have d4 := y0.cell 4 rfl
  go_wp2_with fail
  refine (h43 _ _ _ _ _ _ _ _ _ hX).mono ?_
  rintro e Vc9 ⟨rfl, hb1⟩
  clear c0 c1 c2 c3 c4
  clear p0 p1
  clear d0 d1 d2 d3 d4
  replace x0 := x0.below hb1
  replace x1 := x1.below hb1
  replace y0 := y0.below hb1
  replace hX := hX.below hb1 (Nat.le_refl _)
  replace hO := hO.below hb1 (Nat.le_refl _)
  replace hb := hb.trans (hb1.mono hb.size)
  clear hb1 h43
  have c0 := x0.cell 0 rfl; have c1 := x0.cell 1 rfl; have c2 := x0.cell 2 rfl; have c3 := x0.cell 3 rfl; have c4 := x0.cell 4 rfl
  have p0 := x1.cell 0 rfl; have p1 := x1.cell 1 rfl
  have d0 := y0.cell 0 rfl; have d1 := y0.cell 1 rfl; have d2 := y0.cell 2 rfl; have d3 := y0.cell 3 rfl; have d4 := y0.cell 4 rfl
  go_wp2_with fail
  refine (hsm _ _ _ _ _ _ _ _ _ _ _ _ _ _ _ _ _ hO hX).mono ?_
  rintro e Vc10 ⟨rfl, hb1⟩
  clear c0 c1 c2 c3 c4
  clear p0 p1
  clear d0 d1 d2 d3 d4
  replace x0 := x0.below hb1
  replace x1 := x1.below hb1
  replace y0 := y0.below hb1
  replace hX := hX.below hb1 (Nat.le_refl _)
  replace hO := hO.below hb1 (Nat.le_refl _)
  replace hb := hb.trans (hb1.mono hb.size)
  clear hb1 hsm
  have c0 := x0.cell 0 rfl; have c1 := x0.cell 1 rfl; have c2 := x0.cell 2 rfl; have c3 := x0.cell 3 rfl; have c4 := x0.cell 4 rfl
  have p0 := x1.cell 0 rfl; have p1 := x1.cell 1 rfl
  have d0 := y0.cell 0 rfl; have d1 := y0.cell 1 rfl; have d2 := y0.cell 2 rfl; have d3 := y0.cell 3 rfl; have d4 := y0.cell 4 rfl
  go_wp2_with fail
  refine (hwk _).mono ?_
  rintro e Vw ⟨rfl, hbw9⟩
  clear c0 c1 c2 c3 c4
  clear p0 p1
  clear d0 d1 d2 d3 d4
  replace hb := hb.trans (hbw9.mono hb.size)
  go_wp2
  go_ret
  exact ⟨rfl, hb⟩
theorem swapsFewest_row (ab ast ae ak : Option Addr) (cb cs ce ck : Nat) (X : Sw) (goal t : Int) (w : World) (hX : SwIn w ab ast ae ak X) : Calls Try.prog 5 #[.agg #[.slice ab X.bs.length cb, .slice ast X.st.length cs, .slice ae X.er.length ce, .slice ak X.ks.length ck, .int .i64 X.ch], .agg #[.int .i64 goal, .int .i64 t]] w fun e w' => e = .returned (.bool true) ∧ Below w.heap.size w w' := by
  by_cases hk : X.ks.length ≤ 1000
  · have hs := hX.swp hk
    cases hf : farB X with
    | true =>
      refine FewN_far ab ast ae ak cb cs ce ck X goal t w (fun V hV => ?_)
      have := Far_any ab ast ae ak cb cs ce ck X V (hs.below hV (Nat.le_refl _))
      rw [hf] at this
      exact this
    | false => exact swapsFewest_any ab ast ae ak cb cs ce ck X goal t w hs hf
  · exact FewN_far ab ast ae ak cb cs ce ck X goal t w (fun V hV => Far_huge ab ast ae ak cb cs ce ck X V (hX.below hV (Nat.le_refl _)) (by omega))
end Go.Proofs.Ytipdohpbilabiaa
/-! Opening of a struct of two ints. -/
namespace Go.Proofs.Ytipdohpbilabiaa
set_option linter.unusedSimpArgs false
set_option linter.unusedVariables false
open Go.ChangeShapes Go.WideShapes Go.ChangeAt Go.RowKit Go.Joins

theorem jcells51 : Try.prog.cellsOf 51 = 2 := by kernel_rfl
set_option maxRecDepth 100000 in
theorem ask_open51 {H : Type} {enc : TypeId × Value → H} {W : World} {b0 : Nat} {v : Value} {d : DataW H} {p : List MemPlace} (hv : Value.okWide Try.prog W .any b0 51 v)
    (h : DataW.Trod enc Try.prog W 0 (fun _ => true) true 51 v d p) : ∃ x0 x1 : Int, v = .agg #[.int .i64 x0, .int .i64 x1] := by
  obtain ⟨cs, rfl, hsz⟩ := okWide_struct Try.underlying51 hv
  obtain ⟨fuel, hf⟩ := h
  obtain ⟨ys, n, _, -, _, hlen, hg⟩ := DataW.trod_struct Try.underlying51 hf
  obtain ⟨l⟩ := cs
  have hl2 : l.length = 2 := hsz.trans jcells51
  match l, hl2, ys, hlen with
  | [u0, u1], _, [y0, y1], _ =>
    have t0 := hg 0 _ rfl
    have t1 := hg 1 _ rfl
    simp [Value.cells, jcells3] at t0
    simp [Value.cells, jcells3] at t1
    obtain ⟨x0, e0, _, _⟩ := DataW.trod_int Try.underlying3 t0
    obtain ⟨x1, e1, _, _⟩ := DataW.trod_int Try.underlying3 t1
    simp at e0 e1
    subst e0 e1
    exact ⟨x0, x1, rfl⟩
end Go.Proofs.Ytipdohpbilabiaa
