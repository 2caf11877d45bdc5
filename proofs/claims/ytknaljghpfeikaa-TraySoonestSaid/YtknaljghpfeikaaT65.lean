import Derived.Test.YtknaljghpfeikaaT64
namespace Go.Proofs.Ytknaljghpfeikaa
open Go.RowKit

set_option maxRecDepth 100000 in
set_option maxHeartbeats 1000000 in
theorem rPlays_bad (ar ap : Option Addr) (cr cp : Nat) (rs ps : List (Int × Int)) (p0 way step : Int) (w : World) (hR : Prs w ar rs) (hP : Prs w ap ps) (hv : trB rs ps p0 way step = false) :
    Calls Try.prog 39 #[.agg #[.slice ar rs.length cr, .int .i64 p0, .int .i64 way, .int .i64 step, .slice ap ps.length cp]] w fun e w' => e = .returned (.tuple #[.slice none 0 0, .int .i64 20]) ∧ Below w.heap.size w w' := by
  obtain ⟨W, hW, hb, hs, x0⟩ := boxes1 w #[.slice ar rs.length cr, .int .i64 p0, .int .i64 way, .int .i64 step, .slice ap ps.length cp] 25
  clear hs
  have c0 := x0.cell 0 rfl; have c1 := x0.cell 1 rfl; have c2 := x0.cell 2 rfl; have c3 := x0.cell 3 rfl; have c4 := x0.cell 4 rfl
  go_enter Try.func39, Try.ntmps39
  go_wp2_with fail
  refine (rCheck_any _ _ _ _ _ _ _ _ _ _ (hR.below hb (Nat.le_refl _)) (hP.below hb (Nat.le_refl _))).mono ?_
  rintro e W1 ⟨rfl, hb1⟩
  rw [hv]
  clear hW
  (try clear c0 c1 c2 c3 c4); replace x0 := x0.below hb1; have c0 := x0.cell 0 rfl; have c1 := x0.cell 1 rfl; have c2 := x0.cell 2 rfl; have c3 := x0.cell 3 rfl; have c4 := x0.cell 4 rfl; replace hb := hb.trans (hb1.mono hb.size); clear hb1
  clear x0 c0 c1 c2 c3 c4
  go_wp2
  go_ret2
  exact ⟨rfl, hb⟩
set_option maxRecDepth 100000 in
set_option maxHeartbeats 1000000 in
theorem rSteps_bad (ar ap : Option Addr) (cr cp : Nat) (rs ps : List (Int × Int)) (p0 way step : Int) (w : World) (hR : Prs w ar rs) (hP : Prs w ap ps) (hv : trB rs ps p0 way step = false) :
    Calls Try.prog 40 #[.agg #[.slice ar rs.length cr, .int .i64 p0, .int .i64 way, .int .i64 step, .slice ap ps.length cp]] w fun e w' => e = .returned (.tuple #[.int .i64 0, .int .i64 20]) ∧ Below w.heap.size w w' := by
  obtain ⟨W, hW, hb, hs, x0⟩ := boxes1 w #[.slice ar rs.length cr, .int .i64 p0, .int .i64 way, .int .i64 step, .slice ap ps.length cp] 25
  clear hs
  have c0 := x0.cell 0 rfl; have c1 := x0.cell 1 rfl; have c2 := x0.cell 2 rfl; have c3 := x0.cell 3 rfl; have c4 := x0.cell 4 rfl
  go_enter Try.func40, Try.ntmps40
  go_wp2_with fail
  refine (rCheck_any _ _ _ _ _ _ _ _ _ _ (hR.below hb (Nat.le_refl _)) (hP.below hb (Nat.le_refl _))).mono ?_
  rintro e W1 ⟨rfl, hb1⟩
  rw [hv]
  clear hW
  (try clear c0 c1 c2 c3 c4); replace x0 := x0.below hb1; have c0 := x0.cell 0 rfl; have c1 := x0.cell 1 rfl; have c2 := x0.cell 2 rfl; have c3 := x0.cell 3 rfl; have c4 := x0.cell 4 rfl; replace hb := hb.trans (hb1.mono hb.size); clear hb1
  clear x0 c0 c1 c2 c3 c4
  go_wp2
  go_ret2
  exact ⟨rfl, hb⟩
set_option maxRecDepth 100000 in
set_option maxHeartbeats 1000000 in
theorem rPlays_ok (ar ap : Option Addr) (cr cp : Nat) (rs ps : List (Int × Int)) (p0 way step : Int) (w : World) (hR : Prs w ar rs) (hP : Prs w ap ps) (hv : trB rs ps p0 way step = true) (T : Tr) (hT : IsTr T rs ps p0 way step) (c : Car) (hc : c = runM T maxI) :
    Calls Try.prog 39 #[.agg #[.slice ar rs.length cr, .int .i64 p0, .int .i64 way, .int .i64 step, .slice ap ps.length cp]] w (PlaysP c w) := by
  have hc1 := cn_run hT.hv (Int.le_refl maxI)
  have htm := plays_time hT.hv
  have hpo := fun V h1 h2 => PlaysOf_any ar ap cr cp rs ps p0 way step V h1 h2 T hT c.plays (by rw [hc]) (fun q hq => by rw [hc] at hq; have h1 := hc1.d q hq; have h2 := htm q hq; have h3 := hT.hv.n6; omega)
  unfold PlyP at hpo
  unfold PlaysP
  obtain ⟨L, hL⟩ : ∃ L, L = c.plays := ⟨_, rfl⟩
  rw [← hL] at hpo ⊢
  obtain ⟨n, hn⟩ : ∃ n, n = L.length := ⟨_, rfl⟩
  rw [← hn] at hpo ⊢
  clear hc1 htm hc hL hn
  obtain ⟨W, hW, hb, hs, x0⟩ := boxes1 w #[.slice ar rs.length cr, .int .i64 p0, .int .i64 way, .int .i64 step, .slice ap ps.length cp] 25
  clear hs
  have c0 := x0.cell 0 rfl; have c1 := x0.cell 1 rfl; have c2 := x0.cell 2 rfl; have c3 := x0.cell 3 rfl; have c4 := x0.cell 4 rfl
  go_enter Try.func39, Try.ntmps39
  go_wp2_with fail
  refine (rCheck_any _ _ _ _ _ _ _ _ _ _ (hR.below hb (Nat.le_refl _)) (hP.below hb (Nat.le_refl _))).mono ?_
  rintro e W1 ⟨rfl, hb1⟩
  rw [hv]
  clear hW
  (try clear c0 c1 c2 c3 c4); replace x0 := x0.below hb1; have c0 := x0.cell 0 rfl; have c1 := x0.cell 1 rfl; have c2 := x0.cell 2 rfl; have c3 := x0.cell 3 rfl; have c4 := x0.cell 4 rfl; replace hb := hb.trans (hb1.mono hb.size); clear hb1
  go_wp2_with fail
  refine (hpo _ (hR.below hb (Nat.le_refl _)) (hP.below hb (Nat.le_refl _))).mono ?_
  rintro e W2 ⟨hb2, a, cv, rfl, hL⟩
  replace hb := hb.trans (hb2.mono hb.size)
  clear hb2 hpo x0 c0 c1 c2 c3 c4
  go_wp2
  go_ret2
  exact ⟨hb, a, cv, rfl, hL⟩
set_option maxRecDepth 100000 in
set_option maxHeartbeats 4000000 in
theorem rSteps_ok (ar ap : Option Addr) (cr cp : Nat) (rs ps : List (Int × Int)) (p0 way step : Int) (w : World) (hR : Prs w ar rs) (hP : Prs w ap ps) (hv : trB rs ps p0 way step = true) (T : Tr) (hT : IsTr T rs ps p0 way step) (c : Car) (hc : c = runM T maxI) :
    Calls Try.prog 40 #[.agg #[.slice ar rs.length cr, .int .i64 p0, .int .i64 way, .int .i64 step, .slice ap ps.length cp]] w (StepsP c w) := by
  obtain ⟨E, hE⟩ : ∃ E, E = refRun T 2700 (startC T) := ⟨_, rfl⟩
  have hsE : c.steps = stepsE E := by rw [hc, hE]; exact (ref_start hT.hv (Nat.le_refl _)).2.1
  have hrun := fun V h1 h2 => Run_any ar ap cr cp rs ps p0 way step V h1 h2 T hT E hE
  unfold RunP at hrun
  unfold StepsP
  obtain ⟨st, hst⟩ : ∃ st, st = c.steps := ⟨_, rfl⟩
  rw [← hst] at hsE ⊢
  obtain ⟨n, hn⟩ : ∃ n, n = E.length := ⟨_, rfl⟩
  rw [← hn] at hrun
  have HN := hid hn; have HSE := hid hsE
  clear hn hsE hE hst hc
  obtain ⟨W, hW, hb, hs, x0⟩ := boxes1 w #[.slice ar rs.length cr, .int .i64 p0, .int .i64 way, .int .i64 step, .slice ap ps.length cp] 25
  clear hs
  have c0 := x0.cell 0 rfl; have c1 := x0.cell 1 rfl; have c2 := x0.cell 2 rfl; have c3 := x0.cell 3 rfl; have c4 := x0.cell 4 rfl
  go_enter Try.func40, Try.ntmps40
  go_wp2_with fail
  refine (rCheck_any _ _ _ _ _ _ _ _ _ _ (hR.below hb (Nat.le_refl _)) (hP.below hb (Nat.le_refl _))).mono ?_
  rintro e W1 ⟨rfl, hb1⟩
  rw [hv]
  clear hW
  (try clear c0 c1 c2 c3 c4); replace x0 := x0.below hb1; have c0 := x0.cell 0 rfl; have c1 := x0.cell 1 rfl; have c2 := x0.cell 2 rfl; have c3 := x0.cell 3 rfl; have c4 := x0.cell 4 rfl; replace hb := hb.trans (hb1.mono hb.size); clear hb1
  go_wp2_with fail
  refine (hrun _ (hR.below hb (Nat.le_refl _)) (hP.below hb (Nat.le_refl _))).mono ?_
  rintro e V1 ⟨hb1, a, ca, rfl, hEv, _⟩
  replace hb := hb.trans (hb1.mono hb.size)
  have hn5 : n ≤ 100000 := by rw [HN.out]; exact hEv.1
  have hnI : (n : Int) ≤ 100000 := by omega
  clear hrun c0 c1 c2 c3 c4 x0 hb1
  go_wp2
  go_loopw [5, 7] (fun v5 v7 wr => ∃ i k : Nat, i ≤ n ∧ k ≤ i ∧ v5 = .int .i64 (k : Int) ∧ v7 = .int .i64 (i : Int) ∧ Below V1.heap.size V1 wr ∧ Hid (k = stepsE (E.take i))) (fun _ v7 _ => n - (intOf v7).toNat)
  case atStart => exact ⟨0, 0, Nat.zero_le _, Nat.le_refl _, rfl, rfl, Below.refl _ _, hid rfl⟩
  case round =>
    obtain ⟨i, k, hi, hki, rfl, rfl, hb1, HL⟩ := hrel
    by_cases hlt : i < n
    · have hiI : (i : Int) < (n : Int) := by omega
      have hi0 : (0 : Int) ≤ (i : Int) := by omega
      obtain ⟨x, hx⟩ := ev_at (E := E) (i := i) (by rw [← HN.out]; exact hlt)
      obtain ⟨b, off, rfl, _, _, _, _, _, k4⟩ := (hEv.below hb1 (Nat.le_refl _)).2 i x hx
      have htk := take_snocI hx
      obtain ⟨sd, hsdx⟩ : ∃ sd, sd = x.side := ⟨_, rfl⟩
      rw [← hsdx] at k4
      by_cases hsd : sd = -1
      · have HF := hid (show k + 1 = stepsE (E.take (i + 1)) by rw [htk, stepsE_snoc, if_pos (by rw [← hsdx]; exact hsd), ← HL.out])
        clear hx htk HL hsdx
        subst hsd
        have hkI : (k : Int) ≤ 100000 := by omega
        go_wp2
        go_roundw
        case rel => exact ⟨i + 1, k + 1, by omega, by omega, by go_num, by go_num, hb1, HF⟩
        case measure => simp [intOf]; omega
      · have HF := hid (show k = stepsE (E.take (i + 1)) by rw [htk, stepsE_snoc, if_neg (by rw [← hsdx]; exact hsd), ← HL.out])
        clear hx htk HL hsdx
        go_wp2
        go_roundw
        case rel => exact ⟨i + 1, k, by omega, by omega, rfl, by go_num, hb1, HF⟩
        case measure => simp [intOf]; omega
    · have hiI : (n : Int) ≤ (i : Int) := by omega
      have HF := hid (show k = st by rw [HL.out, List.take_of_length_le (by rw [← HN.out]; omega)]; exact HSE.out.symm)
      go_wp2
      go_ret2
      exact ⟨hb.trans (hb1.mono hb.size), by rw [HF.out]; rfl⟩
set_option maxRecDepth 100000 in
set_option maxHeartbeats 4000000 in
theorem endOf_any (ar ap : Option Addr) (cr cp : Nat) (rs ps : List (Int × Int)) (p0 way step : Int) (w : World) (hR : Prs w ar rs) (hP : Prs w ap ps) (T : Tr) (hT : IsTr T rs ps p0 way step) (c : Car) (hc : c = runM T maxI) :
    Calls Try.prog 69 #[.agg #[.slice ar rs.length cr, .int .i64 p0, .int .i64 way, .int .i64 step, .slice ap ps.length cp]] w fun e w' => e = .returned (.int .i64 c.fin) ∧ Below w.heap.size w w' := by
  obtain ⟨E, hE⟩ : ∃ E, E = refRun T 2700 (startC T) := ⟨_, rfl⟩
  have hsE : c.fin = E.foldl fin1 0 := by rw [hc, hE]; exact (ref_start hT.hv (Nat.le_refl _)).2.2
  have hrun := fun V h1 h2 => Run_any ar ap cr cp rs ps p0 way step V h1 h2 T hT E hE
  unfold RunP at hrun
  obtain ⟨fi, hfi⟩ : ∃ fi, fi = c.fin := ⟨_, rfl⟩
  rw [← hfi] at hsE ⊢
  obtain ⟨n, hn⟩ : ∃ n, n = E.length := ⟨_, rfl⟩
  rw [← hn] at hrun
  have HN := hid hn; have HSE := hid hsE
  clear hn hsE hE hfi hc
  obtain ⟨W, hW, hb, hs, x0⟩ := boxes1 w #[.slice ar rs.length cr, .int .i64 p0, .int .i64 way, .int .i64 step, .slice ap ps.length cp] 25
  clear hs
  have c0 := x0.cell 0 rfl; have c1 := x0.cell 1 rfl; have c2 := x0.cell 2 rfl; have c3 := x0.cell 3 rfl; have c4 := x0.cell 4 rfl
  go_enter Try.func69, Try.ntmps69
  go_wp2_with fail
  refine (hrun _ (hR.below hb (Nat.le_refl _)) (hP.below hb (Nat.le_refl _))).mono ?_
  rintro e V1 ⟨hb1, a, ca, rfl, hEv, _⟩
  replace hb := hb.trans (hb1.mono hb.size)
  have hn5 : n ≤ 100000 := by rw [HN.out]; exact hEv.1
  have hnI : (n : Int) ≤ 100000 := by omega
  clear hrun c0 c1 c2 c3 c4 x0 hb1
  go_wp2
  go_loopw [3, 5] (fun v3 v5 wr => ∃ (i : Nat) (k : Int), i ≤ n ∧ v3 = .int .i64 k ∧ v5 = .int .i64 (i : Int) ∧ Below V1.heap.size V1 wr ∧ Hid (k = (E.take i).foldl fin1 0)) (fun _ v5 _ => n - (intOf v5).toNat)
  case atStart => exact ⟨0, 0, Nat.zero_le _, rfl, rfl, Below.refl _ _, hid rfl⟩
  case round =>
    obtain ⟨i, k, hi, rfl, rfl, hb1, HL⟩ := hrel
    by_cases hlt : i < n
    · have hiI : (i : Int) < (n : Int) := by omega
      have hi0 : (0 : Int) ≤ (i : Int) := by omega
      obtain ⟨x, hx⟩ := ev_at (E := E) (i := i) (by rw [← HN.out]; exact hlt)
      obtain ⟨b, off, rfl, _, _, k1, _, _, k4⟩ := (hEv.below hb1 (Nat.le_refl _)).2 i x hx
      have htk := take_snocI hx
      obtain ⟨sd, hsdx⟩ : ∃ sd, sd = x.side := ⟨_, rfl⟩
      obtain ⟨tl, htl⟩ : ∃ tl, tl = x.til := ⟨_, rfl⟩
      rw [← hsdx] at k4
      rw [← htl] at k1
      have hst : (E.take (i + 1)).foldl fin1 0 = if 0 ≤ sd then tl else k := by
        rw [htk, List.foldl_append, ← HL.out, hsdx, htl]
        rfl
      by_cases hsd : 0 ≤ sd
      · have HF := hid (show tl = (E.take (i + 1)).foldl fin1 0 by rw [hst, if_pos hsd])
        clear hx htk HL hsdx hst htl
        go_wp2
        go_roundw
        case rel => exact ⟨i + 1, tl, by omega, rfl, by go_num, hb1, HF⟩
        case measure => simp [intOf]; omega
      · have HF := hid (show k = (E.take (i + 1)).foldl fin1 0 by rw [hst, if_neg hsd])
        have hsn : sd < 0 := by omega
        clear hx htk HL hsdx hst htl hsd
        go_wp2
        go_roundw
        case rel => exact ⟨i + 1, k, by omega, rfl, by go_num, hb1, HF⟩
        case measure => simp [intOf]; omega
    · have hiI : (n : Int) ≤ (i : Int) := by omega
      have HF := hid (show k = fi by rw [HL.out, List.take_of_length_le (by rw [← HN.out]; omega)]; exact HSE.out.symm)
      go_wp2
      go_ret
      exact ⟨by rw [HF.out]; rfl, hb.trans (hb1.mono hb.size)⟩
set_option maxRecDepth 100000 in
set_option maxHeartbeats 1000000 in
theorem rEnd_bad (ar ap : Option Addr) (cr cp : Nat) (rs ps : List (Int × Int)) (p0 way step : Int) (w : World) (hR : Prs w ar rs) (hP : Prs w ap ps) (r : Int) (hr : r = if trB rs ps p0 way step then (if ps.length = 0 then 3 else 0) else 20) (hr0 : r ≠ 0) (hm6 : ps.length ≤ 1000) :
    Calls Try.prog 46 #[.agg #[.slice ar rs.length cr, .int .i64 p0, .int .i64 way, .int .i64 step, .slice ap ps.length cp]] w fun e w' => e = .returned (.tuple #[.int .i64 0, .int .i64 r]) ∧ Below w.heap.size w w' := by
  obtain ⟨m, hm⟩ : ∃ m, m = ps.length := ⟨_, rfl⟩
  have hck := fun V h1 h2 => rCheck_any ar ap cr cp rs ps p0 way step V h1 h2
  rw [← hm] at hr hm6 hck ⊢
  have HM := hid hm
  clear hm
  cases hv : trB rs ps p0 way step
  · rw [hv] at hr hck
    have hr2 : r = 20 := hr
    subst hr2
    obtain ⟨W, hW, hb, hs, x0⟩ := boxes1 w #[.slice ar rs.length cr, .int .i64 p0, .int .i64 way, .int .i64 step, .slice ap m cp] 25
    clear hs hr hr0
    have c0 := x0.cell 0 rfl; have c1 := x0.cell 1 rfl; have c2 := x0.cell 2 rfl; have c3 := x0.cell 3 rfl; have c4 := x0.cell 4 rfl
    go_enter Try.func46, Try.ntmps46
    go_wp2_with fail
    refine (hck _ (hR.below hb (Nat.le_refl _)) (hP.below hb (Nat.le_refl _))).mono ?_
    rintro e W1 ⟨rfl, hb1⟩
    clear hW hck
    (try clear c0 c1 c2 c3 c4); replace x0 := x0.below hb1; have c0 := x0.cell 0 rfl; have c1 := x0.cell 1 rfl; have c2 := x0.cell 2 rfl; have c3 := x0.cell 3 rfl; have c4 := x0.cell 4 rfl; replace hb := hb.trans (hb1.mono hb.size); clear hb1
    clear x0 c0 c1 c2 c3 c4
    go_wp2
    go_ret2
    exact ⟨rfl, hb⟩
  · rw [hv] at hr hck
    have hm0 : m = 0 := by
      rcases Nat.eq_zero_or_pos m with h | h
      · exact h
      · rw [if_pos rfl, if_neg (by omega)] at hr; exact absurd hr hr0
    subst hm0
    have hr2 : r = 3 := hr
    subst hr2
    obtain ⟨W, hW, hb, hs, x0⟩ := boxes1 w #[.slice ar rs.length cr, .int .i64 p0, .int .i64 way, .int .i64 step, .slice ap 0 cp] 25
    clear hs hr hr0
    have c0 := x0.cell 0 rfl; have c1 := x0.cell 1 rfl; have c2 := x0.cell 2 rfl; have c3 := x0.cell 3 rfl; have c4 := x0.cell 4 rfl
    go_enter Try.func46, Try.ntmps46
    go_wp2_with fail
    refine (hck _ (hR.below hb (Nat.le_refl _)) (hP.below hb (Nat.le_refl _))).mono ?_
    rintro e W1 ⟨rfl, hb1⟩
    clear hW hck
    (try clear c0 c1 c2 c3 c4); replace x0 := x0.below hb1; have c0 := x0.cell 0 rfl; have c1 := x0.cell 1 rfl; have c2 := x0.cell 2 rfl; have c3 := x0.cell 3 rfl; have c4 := x0.cell 4 rfl; replace hb := hb.trans (hb1.mono hb.size); clear hb1
    go_wp2
    go_ret2
    exact ⟨rfl, hb⟩
set_option maxRecDepth 100000 in
set_option maxHeartbeats 1000000 in
theorem rEnd_ok (ar ap : Option Addr) (cr cp : Nat) (rs ps : List (Int × Int)) (p0 way step : Int) (w : World) (hR : Prs w ar rs) (hP : Prs w ap ps) (hv : trB rs ps p0 way step = true) (h0 : ps.length ≠ 0) (hm6 : ps.length ≤ 1000) (T : Tr) (hT : IsTr T rs ps p0 way step) (c : Car) (hc : c = runM T maxI) :
    Calls Try.prog 46 #[.agg #[.slice ar rs.length cr, .int .i64 p0, .int .i64 way, .int .i64 step, .slice ap ps.length cp]] w fun e w' => e = .returned (.tuple #[.int .i64 c.fin, .int .i64 0]) ∧ Below w.heap.size w w' := by
  have heo := fun V h1 h2 => endOf_any ar ap cr cp rs ps p0 way step V h1 h2 T hT c hc
  have hck := fun V h1 h2 => rCheck_any ar ap cr cp rs ps p0 way step V h1 h2
  rw [hv] at hck
  obtain ⟨fi, hfi⟩ : ∃ fi, fi = c.fin := ⟨_, rfl⟩
  obtain ⟨m, hm⟩ : ∃ m, m = ps.length := ⟨_, rfl⟩
  rw [← hm] at h0 hm6 hck heo ⊢
  rw [← hfi] at heo ⊢
  clear hm hfi hc hT hv
  have h0I : (0 : Int) < (m : Int) := by omega
  have hmI : (m : Int) ≤ 1000 := by omega
  obtain ⟨W, hW, hb, hs, x0⟩ := boxes1 w #[.slice ar rs.length cr, .int .i64 p0, .int .i64 way, .int .i64 step, .slice ap m cp] 25
  clear hs
  have c0 := x0.cell 0 rfl; have c1 := x0.cell 1 rfl; have c2 := x0.cell 2 rfl; have c3 := x0.cell 3 rfl; have c4 := x0.cell 4 rfl
  go_enter Try.func46, Try.ntmps46
  go_wp2_with fail
  refine (hck _ (hR.below hb (Nat.le_refl _)) (hP.below hb (Nat.le_refl _))).mono ?_
  rintro e W1 ⟨rfl, hb1⟩
  clear hW hck
  (try clear c0 c1 c2 c3 c4); replace x0 := x0.below hb1; have c0 := x0.cell 0 rfl; have c1 := x0.cell 1 rfl; have c2 := x0.cell 2 rfl; have c3 := x0.cell 3 rfl; have c4 := x0.cell 4 rfl; replace hb := hb.trans (hb1.mono hb.size); clear hb1
  go_wp2_with fail
  refine (heo _ (hR.below hb (Nat.le_refl _)) (hP.below hb (Nat.le_refl _))).mono ?_
  rintro e W2 ⟨rfl, hb2⟩
  replace hb := hb.trans (hb2.mono hb.size)
  clear hb2 heo x0 c0 c1 c2 c3 c4
  go_wp2
  go_ret2
  exact ⟨rfl, hb⟩
end Go.Proofs.Ytknaljghpfeikaa
