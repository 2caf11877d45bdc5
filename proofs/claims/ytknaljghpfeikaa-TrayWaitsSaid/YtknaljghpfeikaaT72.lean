import Derived.Test.YtknaljghpfeikaaT71
namespace Go.Proofs.Ytknaljghpfeikaa
open Go.RowKit


set_option maxRecDepth 100000 in
set_option maxHeartbeats 1000000 in
theorem rWait_err20 (ar ap : Option Addr) (cr cp : Nat) (rs ps : List (Int × Int)) (p0 way step : Int) (t : Int) (w : World) (hR : Prs w ar rs) (hP : Prs w ap ps) (hso : ∀ V, Prs V ar rs → Prs V ap ps → Calls Try.prog 42 #[.agg #[.slice ar rs.length cr, .int .i64 p0, .int .i64 way, .int .i64 step, .slice ap ps.length cp], .int .i64 t] V fun e w' => e = .returned (.tuple #[.int .i64 0, .int .i64 20]) ∧ Below V.heap.size V w') :
    Calls Try.prog 43 #[.agg #[.slice ar rs.length cr, .int .i64 p0, .int .i64 way, .int .i64 step, .slice ap ps.length cp], .int .i64 t] w fun e w' => e = .returned (.tuple #[.int .i64 0, .int .i64 20]) ∧ Below w.heap.size w w' := by
  obtain ⟨W, hW, hb, hs, x0⟩ := boxes1 w #[.slice ar rs.length cr, .int .i64 p0, .int .i64 way, .int .i64 step, .slice ap ps.length cp] 25
  clear hs
  have c0 := x0.cell 0 rfl; have c1 := x0.cell 1 rfl; have c2 := x0.cell 2 rfl; have c3 := x0.cell 3 rfl; have c4 := x0.cell 4 rfl
  go_enter Try.func43, Try.ntmps43
  go_wp2_with fail
  refine (hso _ (hR.below hb (Nat.le_refl _)) (hP.below hb (Nat.le_refl _))).mono ?_
  rintro e W1 ⟨rfl, hb1⟩
  clear hW hso
  replace hb := hb.trans (hb1.mono hb.size)
  clear x0 c0 c1 c2 c3 c4 hb1
  go_wp2
  go_ret2
  exact ⟨rfl, hb⟩

set_option maxRecDepth 100000 in
set_option maxHeartbeats 1000000 in
theorem rWait_err1 (ar ap : Option Addr) (cr cp : Nat) (rs ps : List (Int × Int)) (p0 way step : Int) (t : Int) (w : World) (hR : Prs w ar rs) (hP : Prs w ap ps) (hso : ∀ V, Prs V ar rs → Prs V ap ps → Calls Try.prog 42 #[.agg #[.slice ar rs.length cr, .int .i64 p0, .int .i64 way, .int .i64 step, .slice ap ps.length cp], .int .i64 t] V fun e w' => e = .returned (.tuple #[.int .i64 0, .int .i64 1]) ∧ Below V.heap.size V w') :
    Calls Try.prog 43 #[.agg #[.slice ar rs.length cr, .int .i64 p0, .int .i64 way, .int .i64 step, .slice ap ps.length cp], .int .i64 t] w fun e w' => e = .returned (.tuple #[.int .i64 0, .int .i64 1]) ∧ Below w.heap.size w w' := by
  obtain ⟨W, hW, hb, hs, x0⟩ := boxes1 w #[.slice ar rs.length cr, .int .i64 p0, .int .i64 way, .int .i64 step, .slice ap ps.length cp] 25
  clear hs
  have c0 := x0.cell 0 rfl; have c1 := x0.cell 1 rfl; have c2 := x0.cell 2 rfl; have c3 := x0.cell 3 rfl; have c4 := x0.cell 4 rfl
  go_enter Try.func43, Try.ntmps43
  go_wp2_with fail
  refine (hso _ (hR.below hb (Nat.le_refl _)) (hP.below hb (Nat.le_refl _))).mono ?_
  rintro e W1 ⟨rfl, hb1⟩
  clear hW hso
  replace hb := hb.trans (hb1.mono hb.size)
  clear x0 c0 c1 c2 c3 c4 hb1
  go_wp2
  go_ret2
  exact ⟨rfl, hb⟩

set_option maxRecDepth 100000 in
set_option maxHeartbeats 4000000 in
theorem rWait_ok (ar ap : Option Addr) (cr cp : Nat) (rs ps : List (Int × Int)) (p0 way step : Int) (j : Nat) (w : World) (hR : Prs w ar rs) (hP : Prs w ap ps) (hv : trB rs ps p0 way step = true) (T : Tr) (hT : IsTr T rs ps p0 way step) (c : Car) (hc : c = runM T maxI) (x y : Int) (hxy : ps[j]? = some (x, y)) :
    Calls Try.prog 43 #[.agg #[.slice ar rs.length cr, .int .i64 p0, .int .i64 way, .int .i64 step, .slice ap ps.length cp], .int .i64 (j : Int)] w fun e w' => e = .returned (.tuple #[.int .i64 (waitF c.plays (x, y)), .int .i64 0]) ∧ Below w.heap.size w w' := by
  have hjl : j < ps.length := by
    rcases Nat.lt_or_ge j ps.length with h | h
    · exact h
    · rw [List.getElem?_eq_none h] at hxy; cases hxy
  have hm13 : ps.length ≤ 13 := by have := hT.hv.p13; rw [hT.T2] at this; exact this
  have hc1 := cn_run hT.hv (Int.le_refl maxI)
  have htm := plays_time hT.hv
  have hcn := hc1.n
  have hmem := List.mem_of_getElem? hxy
  have hpy := hT.hv.pr (x, y) (by rw [hT.T2]; exact hmem)
  obtain ⟨q9, hq9, hq1, hq2⟩ := all_served hT.hv (x, y) (by rw [hT.T2]; exact hmem)
  rw [← hc, hT.T2] at hcn
  rw [← hc] at hq9
  obtain ⟨jj, hjj, hse⟩ := servF_ok (x := x) (y := y) c.plays 0 ⟨q9, hq9, by simp only [servB, Bool.and_eq_true, decide_eq_true_eq]; exact ⟨hq1, hq2⟩⟩
  rw [Nat.zero_add] at hse
  have hlen : c.plays.length ≤ 13 := by omega
  have hso := fun V h1 h2 => rServed_ok ar ap cr cp rs ps p0 way step j V h1 h2 hv T hT c hc x y hxy
  rw [hse] at hso
  have hpo := fun V h1 h2 => PlaysOf_any ar ap cr cp rs ps p0 way step V h1 h2 T hT c.plays (by rw [hc]) (fun q hq => by rw [hc] at hq; have h1 := hc1.d q hq; have h2 := htm q hq; have h3 := hT.hv.n6; omega)
  unfold PlyP at hpo
  have hwv : waitF c.plays (x, y) = (c.plays.getD jj (0, 0)).2 - y := by
    unfold waitF
    rw [hse, Int.toNat_natCast]
  have hlb : ∀ q ∈ c.plays, 0 ≤ q.2 ∧ q.2 ≤ 1000000 := fun q hq => by rw [hc] at hq; exact ⟨(hc1.d q hq).2.2, htm q hq⟩
  obtain ⟨L, hL⟩ : ∃ L, L = c.plays := ⟨_, rfl⟩
  rw [← hL] at hpo hwv hlen hjj hlb ⊢
  obtain ⟨n, hn⟩ : ∃ n, n = L.length := ⟨_, rfl⟩
  obtain ⟨m, hm⟩ : ∃ m, m = ps.length := ⟨_, rfl⟩
  obtain ⟨wv, hwvv⟩ : ∃ wv, wv = waitF L (x, y) := ⟨_, rfl⟩
  rw [← hwvv] at hwv ⊢
  have HN := hid hn; have HWV := hid hwv; have HLB := hid hlb
  rw [← hn] at hpo hlen hjj
  rw [← hm] at hpo hso hm13 hjl ⊢
  obtain ⟨b, off, x', y', hap, hbl, g0, g1, _, _, hxj, _⟩ := hP.at (show j < ps.length by rw [← hm]; exact hjl)
  have hxx := hxj.out
  rw [hxy] at hxx
  simp only [Option.some.injEq, Prod.mk.injEq] at hxx
  obtain ⟨rfl, rfl⟩ := hxx
  subst hap
  clear hc hc1 htm hcn hT hL hn hm hxy hxj hv hwv hwvv hmem hq9 hq1 hq2 hse hlb
  have hjI : (j : Int) < (m : Int) := by omega
  have hj0 : (0 : Int) ≤ (j : Int) := by omega
  have hmI : (m : Int) ≤ 13 := by omega
  have hjjI : (jj : Int) < (n : Int) := by omega
  have hjj0 : (0 : Int) ≤ (jj : Int) := by omega
  have hnI : (n : Int) ≤ 13 := by omega
  obtain ⟨W, hW, hb, hs, x0⟩ := boxes1 w #[.slice ar rs.length cr, .int .i64 p0, .int .i64 way, .int .i64 step, .slice (some ⟨b, off, none⟩) m cp] 25
  clear hs
  have c0 := x0.cell 0 rfl; have c1 := x0.cell 1 rfl; have c2 := x0.cell 2 rfl; have c3 := x0.cell 3 rfl; have c4 := x0.cell 4 rfl
  go_enter Try.func43, Try.ntmps43
  go_wp2_with fail
  refine (hso _ (hR.below hb (Nat.le_refl _)) (hP.below hb (Nat.le_refl _))).mono ?_
  rintro e W2 ⟨rfl, hb1⟩
  clear hW hso
  (try clear c0 c1 c2 c3 c4); replace x0 := x0.below hb1; have c0 := x0.cell 0 rfl; have c1 := x0.cell 1 rfl; have c2 := x0.cell 2 rfl; have c3 := x0.cell 3 rfl; have c4 := x0.cell 4 rfl; replace hb := hb.trans (hb1.mono hb.size); clear hb1
  go_upto_region 4 with fail
  clear c0 c1 c2 c3 c4
  have hbd := (Below.refl W2.heap.size W2).drew
  replace x0 := x0.below hbd
  replace hb := hb.trans (hbd.mono hb.size)
  have S0 : RsS w.heap.size rs.length ar (some ⟨b, off, none⟩) cr cp m p0 way step ⟨b, off + j * 2, none⟩ ⟨b, off + j * 2 + 1, none⟩ x y W2.drew := ⟨x0, (hb.cell (p := ⟨b, off + j * 2, none⟩) hbl).trans g0, (hb.cell (p := ⟨b, off + j * 2 + 1, none⟩) hbl).trans g1⟩
  clear hbd x0 g0 g1
  refine wp_region_head 14 (RsS w.heap.size rs.length ar (some ⟨b, off, none⟩) cr cp m p0 way step ⟨b, off + j * 2, none⟩ ⟨b, off + j * 2 + 1, none⟩ x y) (by kernel_rfl) rfl ?_
  generalize W2.drew = Y0 at *
  refine HeadAt.take (i := 0) (.agg #[.slice ar rs.length cr, .int .i64 p0, .int .i64 way, .int .i64 step, .slice (some ⟨b, off, none⟩) m cp]) rfl (by kernel_rfl) (.inl ⟨rfl, fun w' z => ?_⟩) S0 ?_
  · (have z0 := z.xb.cell 0 rfl; have z1 := z.xb.cell 1 rfl; have z2 := z.xb.cell 2 rfl; have z3 := z.xb.cell 3 rfl; have z4 := z.xb.cell 4 rfl; simp [go_sem, z0, z1, z2, z3, z4])
  refine HeadAt.take (i := 2) (.int .i64 (jj : Int)) rfl (by kernel_rfl) (.inl ⟨rfl, fun _ _ => by simp [go_sem]⟩) S0 ?_
  refine HeadAt.take (i := 6) (.pointer (some ⟨w.heap.size, 4, none⟩)) rfl (by kernel_rfl) (.inl ⟨rfl, fun _ _ => by simp [go_sem]⟩) S0 ?_
  refine HeadAt.take (i := 7) (.slice (some ⟨b, off, none⟩) m cp) rfl (by kernel_rfl) (.inl ⟨rfl, fun w' z => ?_⟩) S0 ?_
  · (have z0 := z.xb.cell 4 rfl; simp [go_sem, z0])
  refine HeadAt.take (i := 8) (.int .i64 (j : Int)) rfl (by kernel_rfl) (.inl ⟨rfl, fun _ _ => by simp [go_sem]⟩) S0 ?_
  simp only [Act.put, List.getElem_toArray, List.getElem_cons_succ, List.getElem_cons_zero, List.setIfInBounds_toArray, List.set_cons_succ, List.set_cons_zero]
  refine HeadAt.take (i := 9) (.pointer (some ⟨b, off + j * 2, none⟩)) rfl (by kernel_rfl) (.inl ⟨rfl, fun w' z => ?_⟩) S0 ?_
  · (simp [go_sem, hjI, hj0])
  refine HeadAt.take (i := 10) (.pointer (some ⟨b, off + j * 2 + 1, none⟩)) rfl (by kernel_rfl) (.inl ⟨rfl, fun _ _ => by simp [go_sem]⟩) S0 ?_
  refine HeadAt.take (i := 11) (.int .i64 y) rfl (by kernel_rfl) (.inl ⟨rfl, fun w' z => ?_⟩) S0 ?_
  · (simp [go_sem, z.h1])
  refine HeadAt.one (i := 1) rfl (by kernel_rfl) ?_
  generalize hK : Upto _ _ = K0
  (try simp only [Act.put, List.getElem_toArray, List.getElem_cons_succ, List.getElem_cons_zero, List.setIfInBounds_toArray, List.set_cons_succ, List.set_cons_zero])
  go_wp2_with fail
  refine (hpo _ (hR.below hb (Nat.le_refl _)) (hP.below hb (Nat.le_refl _))).mono ?_
  rintro e W3 ⟨hb3, al, cl, rfl, r1⟩
  replace S0 := S0.below hb3
  replace hb := hb.trans (hb3.mono hb.size)
  clear hb3 hpo
  obtain ⟨b2, off2, u2, t2, rfl, _, _, k1, _, _, hx2, _⟩ := r1.at (show jj < L.length by rw [← HN.out]; exact hjj)
  have htb := HLB.out _ (List.mem_of_getElem? hx2.out)
  (try dsimp only at htb)
  (try dsimp only at hpy)
  have hwt : t2 - y = wv := by rw [HWV.out, List.getD_eq_getElem?_getD, hx2.out]; rfl
  have ewt : IntKind.i64.wrap (t2 - y) = wv := by rw [← hwt]; exact IntWalk.i64_in _ (by omega)
  clear r1 hx2 hwt
  go_wp2_with fail
  subst hK
  refine ⟨S0, ?_⟩
  refine HeadAt.take (i := 3) (.pointer (some ⟨b2, off2 + jj * 2, none⟩)) rfl (by kernel_rfl) (.inl ⟨rfl, fun w' z => ?_⟩) S0 ?_
  · (simp [go_sem, hjjI, hjj0])
  refine HeadAt.take (i := 4) (.pointer (some ⟨b2, off2 + jj * 2 + 1, none⟩)) rfl (by kernel_rfl) (.inl ⟨rfl, fun _ _ => by simp [go_sem]⟩) S0 ?_
  refine HeadAt.one (i := 5) rfl (by kernel_rfl) ?_
  generalize hK : Upto _ _ = K0
  (try simp only [Act.put, List.getElem_toArray, List.getElem_cons_succ, List.getElem_cons_zero, List.setIfInBounds_toArray, List.set_cons_succ, List.set_cons_zero])
  go_wp2_with fail
  subst hK
  refine ⟨S0, ?_⟩
  refine HeadAt.take (i := 12) (.int .i64 wv) rfl (by kernel_rfl) (.inl ⟨rfl, fun w' z => ?_⟩) S0 ?_
  · (simp [go_sem, ewt])
  refine HeadAt.take (i := 13) (.int .i64 wv) rfl (by kernel_rfl) (.inl ⟨rfl, fun _ _ => by simp [go_sem]⟩) S0 ?_
  refine HeadAt.done (by kernel_rfl) ?_
  (try simp only [Act.put, List.drop_succ_cons, List.drop_zero, List.getElem_toArray, List.getElem_cons_succ, List.getElem_cons_zero])
  clear S0
  go_wp2_with fail
  refine NoPanic.normal ?_
  go_wp2
  go_ret2
  exact ⟨rfl, hb⟩

set_option maxRecDepth 100000 in
set_option maxHeartbeats 1000000 in
theorem rLongest_bad (ar ap : Option Addr) (cr cp : Nat) (rs ps : List (Int × Int)) (p0 way step : Int) (w : World) (hR : Prs w ar rs) (hP : Prs w ap ps) (r : Int) (hr : r = if trB rs ps p0 way step then (if ps.length = 0 then 3 else 0) else 20) (hr0 : r ≠ 0) (hm6 : ps.length ≤ 1000) :
    Calls Try.prog 45 #[.agg #[.slice ar rs.length cr, .int .i64 p0, .int .i64 way, .int .i64 step, .slice ap ps.length cp]] w fun e w' => e = .returned (.tuple #[.int .i64 0, .int .i64 r]) ∧ Below w.heap.size w w' := by
  obtain ⟨m, hm⟩ : ∃ m, m = ps.length := ⟨_, rfl⟩
  have hck := fun V h1 h2 => rCheck_any ar ap cr cp rs ps p0 way step V h1 h2
  rw [← hm] at hr hm6 hck ⊢
  have HM := hid hm
  clear hm
  cases hv : trB rs ps p0 way step
  · rw [hv] at hr hck
    have hr2 : r = 20 := hr
    subst hr2
    obtain ⟨W, hW, hb, hs, x0⟩ := boxes1 w #[.slice ar rs.length cr, .int .i64 p0, .int .i64 way, .int .i64 step, .slice ap m cp] 25
    clear hs hr hr0
    have c0 := x0.cell 0 rfl; have c1 := x0.cell 1 rfl; have c2 := x0.cell 2 rfl; have c3 := x0.cell 3 rfl; have c4 := x0.cell 4 rfl
    go_enter Try.func45, Try.ntmps45
    go_wp2_with fail
    refine (hck _ (hR.below hb (Nat.le_refl _)) (hP.below hb (Nat.le_refl _))).mono ?_
    rintro e W1 ⟨rfl, hb1⟩
    clear hW hck
    (try clear c0 c1 c2 c3 c4); replace x0 := x0.below hb1; have c0 := x0.cell 0 rfl; have c1 := x0.cell 1 rfl; have c2 := x0.cell 2 rfl; have c3 := x0.cell 3 rfl; have c4 := x0.cell 4 rfl; replace hb := hb.trans (hb1.mono hb.size); clear hb1
    clear x0 c0 c1 c2 c3 c4
    go_wp2
    go_ret2
    exact ⟨rfl, hb⟩
  · rw [hv] at hr hck
    have hm0 : m = 0 := by
      rcases Nat.eq_zero_or_pos m with h | h
      · exact h
      · rw [if_pos rfl, if_neg (by omega)] at hr; exact absurd hr hr0
    subst hm0
    have hr2 : r = 3 := hr
    subst hr2
    obtain ⟨W, hW, hb, hs, x0⟩ := boxes1 w #[.slice ar rs.length cr, .int .i64 p0, .int .i64 way, .int .i64 step, .slice ap 0 cp] 25
    clear hs hr hr0
    have c0 := x0.cell 0 rfl; have c1 := x0.cell 1 rfl; have c2 := x0.cell 2 rfl; have c3 := x0.cell 3 rfl; have c4 := x0.cell 4 rfl
    go_enter Try.func45, Try.ntmps45
    go_wp2_with fail
    refine (hck _ (hR.below hb (Nat.le_refl _)) (hP.below hb (Nat.le_refl _))).mono ?_
    rintro e W1 ⟨rfl, hb1⟩
    clear hW hck
    (try clear c0 c1 c2 c3 c4); replace x0 := x0.below hb1; have c0 := x0.cell 0 rfl; have c1 := x0.cell 1 rfl; have c2 := x0.cell 2 rfl; have c3 := x0.cell 3 rfl; have c4 := x0.cell 4 rfl; replace hb := hb.trans (hb1.mono hb.size); clear hb1
    go_wp2
    go_ret2
    exact ⟨rfl, hb⟩
set_option maxRecDepth 100000 in
set_option maxHeartbeats 4000000 in
theorem rLongest_ok (ar ap : Option Addr) (cr cp : Nat) (rs ps : List (Int × Int)) (p0 way step : Int) (w : World) (hR : Prs w ar rs) (hP : Prs w ap ps) (hv : trB rs ps p0 way step = true) (h0 : ps.length ≠ 0) (T : Tr) (hT : IsTr T rs ps p0 way step) (c : Car) (hc : c = runM T maxI) :
    Calls Try.prog 45 #[.agg #[.slice ar rs.length cr, .int .i64 p0, .int .i64 way, .int .i64 step, .slice ap ps.length cp]] w fun e w' => e = .returned (.tuple #[.int .i64 ((lonF c.plays ps 0 (0, -1)).1 : Nat), .int .i64 0]) ∧ Below w.heap.size w w' := by
  have hm13 : ps.length ≤ 13 := by have := hT.hv.p13; rw [hT.T2] at this; exact this
  have hwo := fun j x y hxy V h1 h2 => rWait_ok ar ap cr cp rs ps p0 way step j V h1 h2 hv T hT c hc x y hxy
  obtain ⟨L, hL⟩ : ∃ L, L = c.plays := ⟨_, rfl⟩
  rw [← hL] at hwo ⊢
  have hrc := fun V h1 h2 => rCheck_any ar ap cr cp rs ps p0 way step V h1 h2
  rw [hv] at hrc
  obtain ⟨m, hm⟩ : ∃ m, m = ps.length := ⟨_, rfl⟩
  obtain ⟨r, hr⟩ : ∃ r, r = (lonF L ps 0 (0, -1)).1 := ⟨_, rfl⟩
  rw [← hr]
  rw [← hm] at h0 hm13 hwo hrc ⊢
  have HM := hid hm; have HRR := hid hr
  clear hm hr hL hT hc hv
  have h0I : (0 : Int) < (m : Int) := by omega
  have hmI : (m : Int) ≤ 13 := by omega
  have hd0 : ((m : Int) == 0) = false := by simp; omega
  obtain ⟨W, hW, hb, hs, x0⟩ := boxes1 w #[.slice ar rs.length cr, .int .i64 p0, .int .i64 way, .int .i64 step, .slice ap m cp] 25
  clear hs
  have c0 := x0.cell 0 rfl; have c1 := x0.cell 1 rfl; have c2 := x0.cell 2 rfl; have c3 := x0.cell 3 rfl; have c4 := x0.cell 4 rfl
  go_enter Try.func45, Try.ntmps45
  go_wp2_with fail
  refine (hrc _ (hR.below hb (Nat.le_refl _)) (hP.below hb (Nat.le_refl _))).mono ?_
  rintro e W1 ⟨rfl, hb1⟩
  clear hW hrc
  (try clear c0 c1 c2 c3 c4); replace x0 := x0.below hb1; have c0 := x0.cell 0 rfl; have c1 := x0.cell 1 rfl; have c2 := x0.cell 2 rfl; have c3 := x0.cell 3 rfl; have c4 := x0.cell 4 rfl; replace hb := hb.trans (hb1.mono hb.size); clear hb1
  go_wp2
  clear c0 c1 c2 c3 c4
  go_loopw [5, 6, 7, 8, 9] (fun v5 v6 v7 _ _ wr => ∃ (k b : Nat) (s : Int), k ≤ m ∧ b ≤ m ∧ v5 = .int .i64 (b : Int) ∧ v6 = .int .i64 s ∧ v7 = .int .i64 (k : Int) ∧ Below W1.heap.size W1 wr ∧ Hid (lonF L ps 0 (0, -1) = lonF L (ps.drop k) k (b, s))) (fun _ _ v7 _ _ _ => m - (intOf v7).toNat)
  case atStart => exact ⟨0, 0, -1, Nat.zero_le _, Nat.zero_le _, rfl, rfl, rfl, Below.refl _ _, hid rfl⟩
  case round =>
    obtain ⟨k, b, s, hk, hbm, rfl, rfl, rfl, hb1, HA⟩ := hrel
    have x0r := x0.below hb1
    have hbr := hb.trans (hb1.mono hb.size)
    have c0 := x0r.cell 0 rfl; have c1 := x0r.cell 1 rfl; have c2 := x0r.cell 2 rfl; have c3 := x0r.cell 3 rfl; have c4 := x0r.cell 4 rfl
    by_cases hlt : k < m
    · have hkI : (k : Int) < (m : Int) := by omega
      have hk0 : (0 : Int) ≤ (k : Int) := by omega
      obtain ⟨bq, oq, x, y, rfl, _, _, _, _, _, hx, hd⟩ := hP.at (show k < ps.length by rw [← HM.out]; exact hlt)
      have hw1 := hwo k x y hx.out wr (hR.below hbr (Nat.le_refl _)) (hP.below hbr (Nat.le_refl _))
      have hdd : lonF L (ps.drop k) k (b, s) = lonF L (ps.drop (k + 1)) (k + 1) (if s < waitF L (x, y) then (k, waitF L (x, y)) else (b, s)) := by rw [hd.out]; rfl
      obtain ⟨wv, hwv⟩ : ∃ wv, wv = waitF L (x, y) := ⟨_, rfl⟩
      rw [← hwv] at hw1 hdd
      have HD := hid hdd
      clear hx hd hdd hwv
      by_cases hs : s < wv
      · have hd1 : decide (s < wv) = true := by simp [hs]
        have HF := hid (show lonF L ps 0 (0, -1) = lonF L (ps.drop (k + 1)) (k + 1) (k, wv) by rw [HA.out, HD.out, if_pos hs])
        go_wp2_with fail
        refine hw1.mono ?_
        rintro e V3 ⟨rfl, hb3⟩
        clear hw1 c0 c1 c2 c3 c4
        have hb4 := hb1.trans (hb3.mono hb1.size)
        go_wp2
        go_roundw
        case rel => exact ⟨k + 1, k, wv, by omega, by omega, rfl, rfl, by go_num, hb4, HF⟩
        case measure => simp [intOf]; omega
      · have hsn : wv ≤ s := by omega
        have hd1 : decide (s < wv) = false := by simp; omega
        have HF := hid (show lonF L ps 0 (0, -1) = lonF L (ps.drop (k + 1)) (k + 1) (b, s) by rw [HA.out, HD.out, if_neg hs])
        go_wp2_with fail
        refine hw1.mono ?_
        rintro e V3 ⟨rfl, hb3⟩
        clear hw1 c0 c1 c2 c3 c4
        have hb4 := hb1.trans (hb3.mono hb1.size)
        go_wp2
        go_roundw
        case rel => exact ⟨k + 1, b, s, by omega, hbm, rfl, rfl, by go_num, hb4, HF⟩
        case measure => simp [intOf]; omega
    · have hkI : (m : Int) ≤ (k : Int) := by omega
      have HF := hid (show b = r by rw [HRR.out, HA.out, drop_endP (by rw [← HM.out]; exact hk) (by rw [← HM.out]; exact hlt)]; rfl)
      go_wp2
      go_ret2
      exact ⟨by rw [← HF.out]; rfl, hbr⟩
end Go.Proofs.Ytknaljghpfeikaa
