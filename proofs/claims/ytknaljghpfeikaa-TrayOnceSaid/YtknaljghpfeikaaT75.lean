import Derived.Test.YtknaljghpfeikaaM17
import Derived.Test.YtknaljghpfeikaaT51
import Derived.Test.YtknaljghpfeikaaT63
namespace Go.Proofs.Ytknaljghpfeikaa
open Go.RowKit

structure OnS (b n m : Nat) (ar ap : Option Addr) (cr cp : Nat) (p0 way step : Int) (a0 a1 c0 c1 : Addr) (x t y : Int) (w : World) : Prop where
  xb : Bx w b #[.slice ar n cr, .int .i64 p0, .int .i64 way, .int .i64 step, .slice ap m cp] 25
  h0 : w.cell? a0 = some (.int .i64 x)
  h1 : w.cell? a1 = some (.int .i64 t)
  g0 : w.cell? c0 = some (.int .i64 x)
  g1 : w.cell? c1 = some (.int .i64 y)
/-- The statement's count of what each play serves. -/
structure OnR (b n m nl g7 : Nat) (ar ap al : Option Addr) (cr cp : Nat) (p0 way step : Int) (ps L : List (Int × Int)) (w : World) (k : Nat) (wr : World) : Prop where
  x0 : Bx wr b #[.slice ar n cr, .int .i64 p0, .int .i64 way, .int .i64 step, .slice ap m cp] 25
  hb : Below w.heap.size w wr
  r1 : Prs wr al L
  sv : ∃ Sv : List Int, Sv.length = nl ∧ wr.ownsRow (b + 1) 3 1 (.slice (some ⟨g7, 0, none⟩) nl nl) nl (Sv.map (Value.int .i64)) ∧ (∀ z ∈ Sv, 0 ≤ z ∧ z ≤ (k : Int)) ∧ ∀ j, j < k → ∀ p, ps[j]? = some p → ∃ z, Sv[(servF p.1 p.2 L 0).toNat]? = some z ∧ 1 ≤ z
theorem OnR.below {b n m nl g7 : Nat} {ar ap al : Option Addr} {cr cp : Nat} {p0 way step : Int} {ps L : List (Int × Int)} {w : World} {k : Nat} {wr wr' : World} (h : OnR b n m nl g7 ar ap al cr cp p0 way step ps L w k wr) (hb : Below wr.heap.size wr wr') : OnR b n m nl g7 ar ap al cr cp p0 way step ps L w k wr' := by
  obtain ⟨x0, hb0, r1, Sv, s1, s2, s3, s4⟩ := h
  exact ⟨x0.below hb, hb0.trans (hb.mono hb0.size), r1.below hb (Nat.le_refl _), Sv, s1, own_below2 s2 hb, s3, s4⟩
theorem mem_set {α : Type} : ∀ (l : List α) (i : Nat) (a z : α), z ∈ l.set i a → z = a ∨ z ∈ l
  | [], _, _, _, h => by simp at h
  | x :: l, 0, a, z, h => by
    rw [List.set_cons_zero] at h
    rcases List.mem_cons.1 h with h | h
    · exact .inl h
    · exact .inr (List.mem_cons_of_mem _ h)
  | x :: l, i + 1, a, z, h => by
    rw [List.set_cons_succ] at h
    rcases List.mem_cons.1 h with h | h
    · exact .inr (by rw [h]; exact List.mem_cons_self)
    · rcases mem_set l i a z h with h | h
      · exact .inl h
      · exact .inr (List.mem_cons_of_mem _ h)
/-- One press more is counted. -/
theorem OnR.put {b n m nl g7 : Nat} {ar ap al : Option Addr} {cr cp : Nat} {p0 way step : Int} {ps L : List (Int × Int)} {w : World} {k : Nat} {wr : World} (h : OnR b n m nl g7 ar ap al cr cp p0 way step ps L w k wr) {p : Int × Int} (hp : ps[k]? = some p) {j : Nat} (hj : j < nl) (hs : servF p.1 p.2 L 0 = (j : Nat)) (hbg : b < g7) (hwb : w.heap.size ≤ b) (hal : ∀ ad, al = some ad → ad.block ≠ g7) :
    ∃ z : Int, wr.cell? ⟨g7, j, none⟩ = some (.int .i64 z) ∧ wr.frozen? ⟨g7, j, none⟩ = false ∧ 0 ≤ z ∧ z ≤ (k : Int) ∧ OnR b n m nl g7 ar ap al cr cp p0 way step ps L w (k + 1) (wr.setCell ⟨g7, j, none⟩ (.int .i64 (z + 1))) := by
  obtain ⟨x0, hb0, r1, Sv, s1, s2, s3, s4⟩ := h
  obtain ⟨z, hz⟩ : ∃ z, Sv[j]? = some z := ⟨_, List.getElem?_eq_getElem (show j < Sv.length by omega)⟩
  have hz3 := s3 z (List.mem_of_getElem? hz)
  have kc := World.ownsRow.cellAt s2 j (by omega)
  rw [List.getElem?_map, hz] at kc
  obtain ⟨o5, gs⟩ := s2.stored j (.int .i64 (z + 1))
  rw [← List.map_set] at o5
  refine ⟨z, kc, s2.frozenAt j, hz3.1, hz3.2, x0.gb gs (fun k hk => by cases hk; omega), hb0.grown gs hb0.size (fun k hk => by cases hk; omega), r1.gro gs (fun _ ad had e => hal ad had (by injection e with e; exact e.symm)), Sv.set j (z + 1), by rw [List.length_set]; exact s1, o5, fun y hy => ?_, fun i hi q hq => ?_⟩
  · rcases mem_set _ _ _ _ hy with rfl | hy
    · omega
    · have := s3 y hy; omega
  · by_cases hik : i = k
    · subst hik
      rw [hp] at hq
      injection hq with hq
      subst hq
      rw [hs, Int.toNat_natCast, List.getElem?_set_self (by omega)]
      exact ⟨z + 1, rfl, by omega⟩
    · obtain ⟨z', h1, h2⟩ := s4 i (by omega) q hq
      by_cases hjj : j = (servF q.1 q.2 L 0).toNat
      · rw [← hjj, List.getElem?_set_self (by omega)]
        exact ⟨z + 1, rfl, by omega⟩
      · rw [List.getElem?_set_ne hjj]
        exact ⟨z', h1, h2⟩
set_option maxRecDepth 100000 in
set_option maxHeartbeats 1000000 in
theorem on_arg0 (ar ap : Option Addr) (cr cp : Nat) (rs ps : List (Int × Int)) (p0 way step : Int) (w : World) (hlr : rs.length ≤ 9223372036854775807) (hlp : ps.length ≤ 9223372036854775807) (hR : rs.length ≤ 1000 → Prs w ar rs) (hP : ps.length ≤ 1000 → Prs w ap ps) (hv : rdB rs ps p0 way step = false) :
    Calls Try.prog 3 #[.agg #[.slice ar rs.length cr, .int .i64 p0, .int .i64 way, .int .i64 step, .slice ap ps.length cp]] w (WorksP w) := by
  obtain ⟨W, hW, hb, hs, x0⟩ := boxes1 w #[.slice ar rs.length cr, .int .i64 p0, .int .i64 way, .int .i64 step, .slice ap ps.length cp] 25
  clear hs
  have hrd := ready_any ar ap cr cp rs ps p0 way step W hlr hlp (fun h => (hR h).below hb (Nat.le_refl _)) (fun h => (hP h).below hb (Nat.le_refl _))
  rw [hv] at hrd
  have c0 := x0.cell 0 rfl; have c1 := x0.cell 1 rfl; have c2 := x0.cell 2 rfl; have c3 := x0.cell 3 rfl; have c4 := x0.cell 4 rfl
  clear hR hP hlr hlp hv
  go_enter Try.func3, Try.ntmps3
  go_wp2_with fail
  refine hrd.mono ?_
  rintro e W1 ⟨rfl, hb1⟩
  clear hW hrd
  (try clear c0 c1 c2 c3 c4); replace x0 := x0.below hb1; have c0 := x0.cell 0 rfl; have c1 := x0.cell 1 rfl; have c2 := x0.cell 2 rfl; have c3 := x0.cell 3 rfl; have c4 := x0.cell 4 rfl; replace hb := hb.trans (hb1.mono hb.size); clear hb1
  go_wp2_with fail
  refine (works_any _).mono ?_
  rintro e V3 ⟨rfl, hb1⟩
  replace hb := hb.trans (hb1.mono hb.size)
  clear hb1
  clear x0 c0 c1 c2 c3 c4
  go_wp2
  go_ret
  exact ⟨rfl, hb⟩
set_option maxRecDepth 100000 in
set_option maxHeartbeats 8000000 in
theorem on_ok (ar ap : Option Addr) (cr cp : Nat) (rs ps : List (Int × Int)) (p0 way step : Int) (w : World) (hR : Prs w ar rs) (hP : Prs w ap ps) (hv : rdB rs ps p0 way step = true) (T : Tr) (hT : IsTr T rs ps p0 way step) :
    Calls Try.prog 3 #[.agg #[.slice ar rs.length cr, .int .i64 p0, .int .i64 way, .int .i64 step, .slice ap ps.length cp]] w (WorksP w) := by
  have hvt := rdB_len hv
  have hVT := hT.hv
  have hn6 := hVT.n6; have hn1 := hVT.n1; have hst := hVT.st; have hm13 := hVT.p13
  obtain ⟨c, hc⟩ : ∃ c, c = runM T maxI := ⟨_, rfl⟩
  have hPl := fun V h1 h2 => Plays_ok ar ap cr cp rs ps p0 way step V h1 h2 hvt T hT c hc
  unfold PlaysP at hPl
  have hc1 := cn_run hVT (Int.le_refl maxI)
  have htm := plays_time hVT
  have hcs := hc1.s; have hcn := hc1.n; have hcd := hc1.d
  rw [← hc] at hcs hcn hcd htm
  rw [hT.T2] at hcn hm13
  rw [hT.T1] at hn6 hn1
  rw [hT.T3] at hst
  have hlen : c.plays.length ≤ ps.length := by omega
  have hp12 : ps.length ≤ 12 := by have := rdB_len hv; unfold trB at this; simp only [Bool.and_eq_true, decide_eq_true_eq] at this; omega
  have hsecs : ∀ k, k < 2 * rs.length → 0 ≤ secs T k ∧ secs T k ≤ 999 := fun k hk => by have := secs_le hVT (k := k) (by rw [hT.T1]; exact hk); omega
  have hsan := fun al cl V h1 h2 h3 => sane_ok al cl c.plays ar ap cr cp rs ps p0 way step V h1 h2 h3 T hT.T1 hn6 hlen hp12 (fun q hq => by have h1 := hcd q hq; have h2 := htm q hq; rw [hT.T1] at h1; omega) _ hcs hsecs
  have hmo : most T = sumR rs + step * (2 * ((rs.length : Int) - 1)) := by unfold most; rw [hT.T1, hT.T3]
  have hrsb : ∀ r ∈ rs, 1 ≤ r.1 ∧ r.1 ≤ 999 ∧ 1 ≤ r.2 ∧ r.2 ≤ 999 := fun r hr => hVT.rc r (by rw [hT.T1]; exact hr)
  have hpr : ∀ (k : Nat) (x y : Int), ps[k]? = some (x, y) → ∃ (j : Nat) (t : Int), j < c.plays.length ∧ servF x y c.plays 0 = (j : Nat) ∧ c.plays[j]? = some (x, t) ∧ 0 ≤ y ∧ y ≤ 9999 ∧ y ≤ t ∧ t ≤ 1000000 ∧ t - y ≤ most T ∧
      (∀ V, Prs V ar rs → Prs V ap ps → Calls Try.prog 20 #[.agg #[.slice ar rs.length cr, .int .i64 p0, .int .i64 way, .int .i64 step, .slice ap ps.length cp], .int .i64 (k : Int)] V fun e w' => e = .returned (.tuple #[.int .i64 (j : Nat), .int .i64 0]) ∧ Below V.heap.size V w') ∧
      (∀ V, Prs V ar rs → Prs V ap ps → Calls Try.prog 21 #[.agg #[.slice ar rs.length cr, .int .i64 p0, .int .i64 way, .int .i64 step, .slice ap ps.length cp], .int .i64 (k : Int)] V fun e w' => e = .returned (.tuple #[.int .i64 (t - y), .int .i64 0]) ∧ Below V.heap.size V w') := fun k x y hk => by
    have hmem := List.mem_of_getElem? hk
    have hkl : k < ps.length := by
      rcases Nat.lt_or_ge k ps.length with h | h
      · exact h
      · rw [List.getElem?_eq_none h] at hk; cases hk
    obtain ⟨j, t, h1, h2, h3, h4⟩ := serv_wait hVT (x := x) (y := y) (by rw [hT.T2]; exact hmem)
    have hyb := hVT.pr (x, y) (by rw [hT.T2]; exact hmem)
    rw [← hc] at h1 h2
    have hjl : j < c.plays.length := by
      rcases Nat.lt_or_ge j c.plays.length with h | h
      · exact h
      · rw [List.getElem?_eq_none h] at h2; cases h2
    have hsb := fun W => serviceOf_ok ar ap cr cp rs ps p0 way step (k : Int) W
    have hsv := fun W a1 a2 => hsb W a1 a2 hvt (inR_iff.2 (by omega)) T hT c hc x y (by rw [Int.toNat_natCast]; exact hk)
    rw [h1, Int.toNat_natCast, List.getD_eq_getElem?_getD, h2] at hsv
    dsimp only at hyb
    exact ⟨j, t, hjl, h1, h2, hyb.2.2.1, hyb.2.2.2, h3, htm _ (List.mem_of_getElem? h2), by omega, fun V a1 a2 => Served_of ar ap cr cp rs ps p0 way step (k : Int) V a1 a2 _ _ _ hsv, fun V a1 a2 => Wait_of ar ap cr cp rs ps p0 way step (k : Int) V a1 a2 _ _ _ hsv⟩
  have hps : ∀ i, i < c.plays.length → ∃ (j : Nat) (p : Int × Int), ps[j]? = some p ∧ servF p.1 p.2 c.plays 0 = (i : Nat) := fun i hi => by
    rw [hc] at hi ⊢
    obtain ⟨p, hp, h1⟩ := play_serves hVT hi
    rw [hT.T2] at hp
    obtain ⟨j, hj⟩ := List.getElem?_of_mem hp
    exact ⟨j, p, hj, h1⟩
  have hfin := fin_run hVT
  have hnone := plays_none hVT
  rw [← hc] at hfin hnone
  rw [hT.T2] at hnone
  have hEb := fun (h0 : ps.length = 0) V h1 h2 => End_bad ar ap cr cp rs ps p0 way step V h1 h2 (by omega) 3 (by rw [hvt, if_pos h0]; rfl) (by omega) (by omega)
  have hEo := fun (h0 : ps.length ≠ 0) V h1 h2 => End_ok ar ap cr cp rs ps p0 way step V h1 h2 hvt h0 T hT c hc
  have hsc := fun q hq V h1 h2 => Seconds_any ar ap cr cp rs ps p0 way step q V h1 h2 T hT.T1 hq hn6
  have hTr := hT.T1
  obtain ⟨L, hL⟩ : ∃ L, L = c.plays := ⟨_, rfl⟩
  obtain ⟨fi, hfi⟩ : ∃ fi, fi = c.fin := ⟨_, rfl⟩
  have hfn : ∀ A q, L = A ++ [q] → fi = q.2 + secs T q.1.toNat := fun A q e => by rw [hfi]; exact hfin.f A q (by rw [← hL]; exact e)
  rw [← hL] at hPl hsan hpr hps hnone hlen hcd htm
  rw [← hfi] at hEo
  obtain ⟨n, hn⟩ : ∃ n, n = rs.length := ⟨_, rfl⟩
  obtain ⟨m, hm⟩ : ∃ m, m = ps.length := ⟨_, rfl⟩
  obtain ⟨nl, hnl⟩ : ∃ nl, nl = L.length := ⟨_, rfl⟩
  obtain ⟨ms, hms⟩ : ∃ ms, ms = most T := ⟨_, rfl⟩
  have hrd := fun V h1 h2 => ready_any ar ap cr cp rs ps p0 way step V (by omega) (by omega) (fun _ => h1) (fun _ => h2)
  rw [hv] at hrd
  rw [← hms] at hmo hpr
  rw [← hn, ← hm] at hPl hsan hrd hEb hEo hsc hpr ⊢
  rw [← hn] at hmo hn6 hn1
  rw [← hm] at hp12 hlen hnone
  rw [← hnl] at hPl hsan hpr hps hlen hnone
  have HN := hid hn; have HM := hid hm; have HNL := hid hnl; have HPR := hid hpr; have HPS := hid hps; have HRB := hid hrsb; have HMO := hid hmo
  have HEND := hid (And.intro hEb (And.intro hEo (And.intro hfn (And.intro hnone (And.intro hcd (And.intro htm (And.intro hsc (And.intro hsecs hTr))))))))
  clear hn hm hnl hms hL hfi hc hT hVT hvt hv hc1 hcs hcn hcd htm hfin hfn hnone hEb hEo hsc hpr hps hrsb hmo hsecs hm13 hTr
  obtain ⟨W, hW, hb, hs, x0⟩ := boxes1 w #[.slice ar n cr, .int .i64 p0, .int .i64 way, .int .i64 step, .slice ap m cp] 25
  clear hs
  have hnI : (n : Int) ≤ 6 := by omega
  have hn1I : 1 ≤ (n : Int) := by omega
  have hmI : (m : Int) ≤ 12 := by omega
  have hnlI : (nl : Int) ≤ 12 := by omega
  have c0 := x0.cell 0 rfl; have c1 := x0.cell 1 rfl; have c2 := x0.cell 2 rfl; have c3 := x0.cell 3 rfl; have c4 := x0.cell 4 rfl
  go_enter Try.func3, Try.ntmps3
  go_wp2_with fail
  refine (hrd _ (hR.below hb (Nat.le_refl _)) (hP.below hb (Nat.le_refl _))).mono ?_
  rintro e W1 ⟨rfl, hb1⟩
  clear hW hrd
  (try clear c0 c1 c2 c3 c4); replace x0 := x0.below hb1; have c0 := x0.cell 0 rfl; have c1 := x0.cell 1 rfl; have c2 := x0.cell 2 rfl; have c3 := x0.cell 3 rfl; have c4 := x0.cell 4 rfl; replace hb := hb.trans (hb1.mono hb.size); clear hb1
  go_wp2_with fail
  refine (hPl _ (hR.below hb (Nat.le_refl _)) (hP.below hb (Nat.le_refl _))).mono ?_
  rintro e V1 ⟨hb1, al, cl, rfl, r1⟩
  clear hPl
  (try clear c0 c1 c2 c3 c4); replace x0 := x0.below hb1; have c0 := x0.cell 0 rfl; have c1 := x0.cell 1 rfl; have c2 := x0.cell 2 rfl; have c3 := x0.cell 3 rfl; have c4 := x0.cell 4 rfl; replace hb := hb.trans (hb1.mono hb.size); clear hb1
  go_wp2_with fail
  refine (hsan al cl _ (hR.below hb (Nat.le_refl _)) (hP.below hb (Nat.le_refl _)) r1).mono ?_
  rintro e V2 ⟨rfl, hb1⟩
  clear hsan
  replace r1 := r1.below hb1 (Nat.le_refl _)
  (try clear c0 c1 c2 c3 c4); replace x0 := x0.below hb1; have c0 := x0.cell 0 rfl; have c1 := x0.cell 1 rfl; have c2 := x0.cell 2 rfl; have c3 := x0.cell 3 rfl; have c4 := x0.cell 4 rfl; replace hb := hb.trans (hb1.mono hb.size); clear hb1
  obtain ⟨m1, hm1⟩ : ∃ m1, m1 = step * (2 * ((n : Int) - 1)) := ⟨_, rfl⟩
  have hstb : m1 = 2 * step * ((n : Int) - 1) := by
    rw [hm1, ← Int.mul_assoc, Int.mul_comm step 2]
  have hmb : 0 ≤ m1 ∧ m1 ≤ 600 := by
    have h1 : 0 ≤ step * (2 * ((n : Int) - 1)) := Int.mul_nonneg hst.1 (by omega)
    have h2 : step * (2 * ((n : Int) - 1)) ≤ 60 * (2 * ((n : Int) - 1)) := Int.mul_le_mul_of_nonneg_right hst.2 (by omega)
    omega
  have ew1 : IntKind.i64.wrap (2 * step) = 2 * step := IntWalk.i64_in _ (by omega)
  have ew2 : IntKind.i64.wrap ((n : Int) - 1) = (n : Int) - 1 := IntWalk.i64_in _ (by omega)
  have ew3 : IntKind.i64.wrap (2 * step * ((n : Int) - 1)) = m1 := by rw [← hstb]; exact IntWalk.i64_in _ (by omega)
  have HM1 := hid hm1
  clear hm1 hstb
  go_wp2
  clear c0 c1 c2 c3 c4 ew1 ew2 ew3
  have HX0 := hid (And.intro x0 (And.intro r1 hb))
  clear x0 r1 hb
  go_loopw [5, 6] (fun v5 v6 wr => ∃ (i : Nat) (a : Int), i ≤ n ∧ v5 = .int .i64 a ∧ v6 = .int .i64 (i : Int) ∧ m1 ≤ a ∧ a ≤ m1 + 1998 * (i : Int) ∧ Below V2.heap.size V2 wr ∧ Hid (a = m1 + sumR (rs.take i))) (fun _ v6 _ => n - (intOf v6).toNat)
  case atStart => exact ⟨0, m1, Nat.zero_le _, rfl, rfl, Int.le_refl _, by omega, Below.refl _ _, by show m1 = m1 + 0; omega⟩
  case round =>
    obtain ⟨i, a, hi, rfl, rfl, ha1, ha2, hb1, HA⟩ := hrel
    obtain ⟨x0, r1, hb⟩ := HX0.out
    have x0r := x0.below hb1
    have hbr := hb.trans (hb1.mono hb.size)
    have c0 := x0r.cell 0 rfl; have c1 := x0r.cell 1 rfl; have c2 := x0r.cell 2 rfl; have c3 := x0r.cell 3 rfl; have c4 := x0r.cell 4 rfl
    by_cases hlt : i < n
    · have hiI : (i : Int) < (n : Int) := by omega
      have hi0 : (0 : Int) ≤ (i : Int) := by omega
      obtain ⟨br, or_, u, t, rfl, _, g0, g1, _, _, hx, _⟩ := (hR.below hbr (Nat.le_refl _)).at (show i < rs.length by rw [← HN.out]; exact hlt)
      have hut := HRB.out (u, t) (List.mem_of_getElem? hx.out)
      dsimp only at hut
      obtain ⟨a2, ha3⟩ : ∃ a2, a2 = a + (u + t) := ⟨_, rfl⟩
      have ew1 : IntKind.i64.wrap (u + t) = u + t := IntWalk.i64_in _ (by omega)
      have ew2 : IntKind.i64.wrap (a + (u + t)) = a2 := by rw [ha3]; exact IntWalk.i64_in _ (by omega)
      have HF := hid (show a2 = m1 + sumR (rs.take (i + 1)) by rw [take_snocI hx.out, sumR_snoc, ha3, HA.out]; show _ + _ + (u + t) = _ + (_ + (u + t)); omega)
      have hb2 : m1 ≤ a2 ∧ a2 ≤ m1 + 1998 * ((i + 1 : Nat) : Int) := by omega
      clear hx ha3
      go_upto_region 10 with fail
      have hbd := (Below.refl wr.heap.size wr).drew
      have S0 : OnS w.heap.size n m (some ⟨br, or_, none⟩) ap cr cp p0 way step ⟨br, or_ + i * 2, none⟩ ⟨br, or_ + i * 2 + 1, none⟩ ⟨br, or_ + i * 2, none⟩ ⟨br, or_ + i * 2, none⟩ u t u wr.drew := ⟨x0r.below hbd, Below.keep hbd g0, Below.keep hbd g1, Below.keep hbd g0, Below.keep hbd g0⟩
      replace hb1 := hb1.trans (hbd.mono hb1.size)
      clear hbd g0 g1 x0r hbr c0 c1 c2 c3 c4
      refine wp_region_head 15 (OnS w.heap.size n m (some ⟨br, or_, none⟩) ap cr cp p0 way step ⟨br, or_ + i * 2, none⟩ ⟨br, or_ + i * 2 + 1, none⟩ ⟨br, or_ + i * 2, none⟩ ⟨br, or_ + i * 2, none⟩ u t u) (by kernel_rfl) rfl ?_
      generalize wr.drew = Y0 at *
      refine HeadAt.take (i := 0) (.int .i64 a) rfl (by kernel_rfl) (.inl ⟨rfl, fun _ _ => by simp [go_sem]⟩) S0 ?_
      refine HeadAt.take (i := 1) (.pointer (some ⟨w.heap.size, 0, none⟩)) rfl (by kernel_rfl) (.inl ⟨rfl, fun _ _ => by simp [go_sem]⟩) S0 ?_
      refine HeadAt.take (i := 2) (.slice (some ⟨br, or_, none⟩) n cr) rfl (by kernel_rfl) (.inl ⟨rfl, fun w' z => ?_⟩) S0 ?_
      · (have z0 := z.xb.cell 0 rfl; simp [go_sem, z0])
      refine HeadAt.take (i := 3) (.int .i64 (i : Int)) rfl (by kernel_rfl) (.inl ⟨rfl, fun _ _ => by simp [go_sem]⟩) S0 ?_
      simp only [Act.put, List.getElem_toArray, List.getElem_cons_succ, List.getElem_cons_zero, List.setIfInBounds_toArray, List.set_cons_succ, List.set_cons_zero]
      refine HeadAt.take (i := 4) (.pointer (some ⟨br, or_ + i * 2, none⟩)) rfl (by kernel_rfl) (.inl ⟨rfl, fun w' z => ?_⟩) S0 ?_
      · (simp [go_sem, hiI, hi0])
      refine HeadAt.take (i := 5) (.pointer (some ⟨br, or_ + i * 2, none⟩)) rfl (by kernel_rfl) (.inl ⟨rfl, fun _ _ => by simp [go_sem]⟩) S0 ?_
      refine HeadAt.take (i := 6) (.int .i64 u) rfl (by kernel_rfl) (.inl ⟨rfl, fun w' z => ?_⟩) S0 ?_
      · (simp [go_sem, z.h0])
      refine HeadAt.take (i := 7) (.pointer (some ⟨w.heap.size, 0, none⟩)) rfl (by kernel_rfl) (.inl ⟨rfl, fun _ _ => by simp [go_sem]⟩) S0 ?_
      simp only [Act.put, List.getElem_toArray, List.getElem_cons_succ, List.getElem_cons_zero, List.setIfInBounds_toArray, List.set_cons_succ, List.set_cons_zero]
      refine HeadAt.take (i := 8) (.slice (some ⟨br, or_, none⟩) n cr) rfl (by kernel_rfl) (.inl ⟨rfl, fun w' z => ?_⟩) S0 ?_
      · (have z0 := z.xb.cell 0 rfl; simp [go_sem, z0])
      refine HeadAt.take (i := 9) (.int .i64 (i : Int)) rfl (by kernel_rfl) (.inl ⟨rfl, fun _ _ => by simp [go_sem]⟩) S0 ?_
      simp only [Act.put, List.getElem_toArray, List.getElem_cons_succ, List.getElem_cons_zero, List.setIfInBounds_toArray, List.set_cons_succ, List.set_cons_zero]
      refine HeadAt.take (i := 10) (.pointer (some ⟨br, or_ + i * 2, none⟩)) rfl (by kernel_rfl) (.inl ⟨rfl, fun w' z => ?_⟩) S0 ?_
      · (simp [go_sem, hiI, hi0])
      refine HeadAt.take (i := 11) (.pointer (some ⟨br, or_ + i * 2 + 1, none⟩)) rfl (by kernel_rfl) (.inl ⟨rfl, fun _ _ => by simp [go_sem]⟩) S0 ?_
      refine HeadAt.take (i := 12) (.int .i64 t) rfl (by kernel_rfl) (.inl ⟨rfl, fun w' z => ?_⟩) S0 ?_
      · (simp [go_sem, z.h1])
      simp only [Act.put, List.getElem_toArray, List.getElem_cons_succ, List.getElem_cons_zero, List.setIfInBounds_toArray, List.set_cons_succ, List.set_cons_zero]
      refine HeadAt.take (i := 13) (.int .i64 (u + t)) rfl (by kernel_rfl) (.inl ⟨rfl, fun w' z => ?_⟩) S0 ?_
      · (simp [go_sem, ew1])
      refine HeadAt.take (i := 14) (.int .i64 a2) rfl (by kernel_rfl) (.inl ⟨rfl, fun w' z => ?_⟩) S0 ?_
      · (simp [go_sem, ew2])
      refine HeadAt.done (by kernel_rfl) ?_
      (try simp only [Act.put, List.drop_succ_cons, List.drop_zero, List.getElem_toArray, List.getElem_cons_succ, List.getElem_cons_zero])
      clear S0 ew1 ew2
      go_wp2_with fail
      refine NoPanic.normal ?_
      go_wp2
      go_roundw
      case rel => exact ⟨i + 1, a2, by omega, rfl, by go_num, hb2.1, hb2.2, hb1, HF⟩
      case measure => simp [intOf]; omega
    · have hiI : (n : Int) ≤ (i : Int) := by omega
      have hms : a = ms := by
        rw [HA.out, List.take_of_length_le (by rw [← HN.out]; omega), HMO.out, HM1.out]
        omega
      have hmsb : 0 ≤ a ∧ a ≤ 12588 := by omega
      obtain ⟨W3, hmk, own7, hb3⟩ := make_row wr (w.heap.size + 1) nl (by have h1 := hb1.size; have h2 := x0.lt; omega) (by omega)
      have r1r := r1.below hb1 (Nat.le_refl _)
      obtain ⟨g7, hg7⟩ : ∃ g, wr.heap.size = g := ⟨_, rfl⟩
      have hal : ∀ k, k < nl → ∀ ad, al = some ad → ad.block ≠ g7 := fun k hk ad had => by
        obtain ⟨b, off, hab, hbl, _⟩ := r1r.2.2 k (by rw [← HNL.out]; exact hk)
        rw [had] at hab
        injection hab with hab
        rw [hab]
        show b ≠ g7
        omega
      have hbg : w.heap.size < g7 := by have h1 := hb1.size; have h2 := x0.lt; omega
      rw [hg7] at hmk own7
      have HO := hid (show OnR w.heap.size n m nl g7 ar ap al cr cp p0 way step ps L w 0 W3 from
        ⟨x0r.below hb3, hbr.trans (hb3.mono hbr.size), r1r.below hb3 (Nat.le_refl _), List.replicate nl 0, List.length_replicate, own7, fun z hz => by have := (List.mem_replicate.1 hz).2; omega, fun j hj => by omega⟩)
      have HAL := hid hal
      clear x0 r1 hb own7 hb3 r1r hal x0r hbr HX0 HA
      subst hms
      go_wp2
      clear c0 c1 c2 c3 c4 hmk
      go_loopw [8, 9, 10, 11, 12] (fun v8 _ _ _ _ wr' => ∃ k : Nat, k ≤ m ∧ v8 = .int .i64 (k : Int) ∧ Hid (OnR w.heap.size n m nl g7 ar ap al cr cp p0 way step ps L w k wr')) (fun v8 _ _ _ _ _ => m - (intOf v8).toNat)
      case atStart => exact ⟨0, Nat.zero_le _, rfl, HO⟩
      case round =>
        clear HO
        obtain ⟨k, hk, rfl, HK⟩ := hrel
        have xk := HK.out.x0
        by_cases hkm : k < m
        · have hkI : (k : Int) < (m : Int) := by omega
          have hk0 : (0 : Int) ≤ (k : Int) := by omega
          obtain ⟨bp, op, x, y, rfl, hbpl, _, _, _, _, hx, _⟩ := hP.at (show k < ps.length by rw [← HM.out]; exact hkm)
          obtain ⟨j, t, hjn, hsj, hLj, hy0, hy9, hyt, ht6, hwm, hSv, hWt⟩ := HPR.out k x y hx.out
          have hjI : (j : Int) < (nl : Int) := by omega
          have hj0 : (0 : Int) ≤ (j : Int) := by omega
          obtain ⟨wt, hwt⟩ : ∃ wt, wt = t - y := ⟨_, rfl⟩
          rw [← hwt] at hWt hwm
          have hw0 : 0 ≤ wt := by omega
          have eww : IntKind.i64.wrap (y + wt) = t := by rw [hwt, show y + (t - y) = t by omega]; exact IntWalk.i64_in _ (by omega)
          obtain ⟨zk, kz, fz, hz0, hz1, hO2⟩ := HK.out.put hx.out hjn hsj hbg (Nat.le_refl _) (HAL.out j hjn)
          have HXX := hid (And.intro hx.out (And.intro hLj hsj))
          have HP1 := hP.below HK.out.hb (Nat.le_refl _); have HR1 := hR.below HK.out.hb (Nat.le_refl _)
          clear hO2 kz fz hz0 hz1 hx hLj hsj hwt
          have c0 := xk.cell 0 rfl; have c1 := xk.cell 1 rfl; have c2 := xk.cell 2 rfl; have c3 := xk.cell 3 rfl; have c4 := xk.cell 4 rfl
          go_wp2_with fail
          refine (hSv _ HR1 HP1).mono ?_
          rintro e V5 ⟨rfl, hb5⟩
          replace HK := hid (HK.out.below hb5)
          clear hSv c0 c1 c2 c3 c4 hb5 xk
          have xk := HK.out.x0
          have c0 := xk.cell 0 rfl; have c1 := xk.cell 1 rfl; have c2 := xk.cell 2 rfl; have c3 := xk.cell 3 rfl; have c4 := xk.cell 4 rfl
          have HP1 := hP.below HK.out.hb (Nat.le_refl _); have HR1 := hR.below HK.out.hb (Nat.le_refl _)
          go_wp2_with fail
          refine (hWt _ HR1 HP1).mono ?_
          rintro e V6 ⟨rfl, hb6⟩
          replace HK := hid (HK.out.below hb6)
          clear hWt c0 c1 c2 c3 c4 hb6 xk HP1 HR1
          go_upto_region 17 with fail
          have hbd := (Below.refl V6.heap.size V6).drew
          replace HK := hid (HK.out.below hbd)
          clear hbd
          obtain ⟨b2, o2, u2, t2, hal2, _, k0, k1, _, _, hx2, _⟩ := HK.out.r1.at (show j < L.length by rw [← HNL.out]; exact hjn)
          have he := hx2.out
          rw [HXX.out.2.1] at he
          simp only [Option.some.injEq, Prod.mk.injEq] at he
          obtain ⟨rfl, rfl⟩ := he
          obtain ⟨b3, o3, u3, t3, hap3, _, k2, k3, _, _, hx3, _⟩ := (hP.below HK.out.hb (Nat.le_refl _)).at (show k < ps.length by rw [← HM.out]; exact hkm)
          have he := hx3.out
          rw [HXX.out.1] at he
          simp only [Option.some.injEq, Prod.mk.injEq, Addr.mk.injEq] at he hap3
          obtain ⟨rfl, rfl⟩ := he
          obtain ⟨rfl, rfl, _⟩ := hap3
          have S0 : OnS w.heap.size n m ar (some ⟨bp, op, none⟩) cr cp p0 way step ⟨b2, o2 + j * 2, none⟩ ⟨b2, o2 + j * 2 + 1, none⟩ ⟨bp, op + k * 2, none⟩ ⟨bp, op + k * 2 + 1, none⟩ x t y V6.drew := ⟨HK.out.x0, k0, k1, k2, k3⟩
          subst hal2
          clear k0 k1 k2 k3 hx2 hx3
          refine wp_region_head 54 (OnS w.heap.size n m ar (some ⟨bp, op, none⟩) cr cp p0 way step ⟨b2, o2 + j * 2, none⟩ ⟨b2, o2 + j * 2 + 1, none⟩ ⟨bp, op + k * 2, none⟩ ⟨bp, op + k * 2 + 1, none⟩ x t y) (by kernel_rfl) rfl ?_
          generalize V6.drew = Y0 at *
          have hda : decide ((j : Int) < 0) = false := by simp
          have hdb : decide ((nl : Int) ≤ (j : Int)) = false := by simp; omega
          have hdb2 : decide (nl ≤ j) = false := by simp; omega
          have hdc : decide (wt < 0) = false := by simp; omega
          have hdd : decide (a < wt) = false := by simp; omega
          refine HeadAt.take (i := 0) (.int .i64 0) rfl (by kernel_rfl) (.inl ⟨rfl, fun _ _ => by simp [go_sem]⟩) S0 ?_
          refine HeadAt.take (i := 1) (.bool false) rfl (by kernel_rfl) (.inl ⟨rfl, fun w' z => ?_⟩) S0 ?_
          · (simp [go_sem])
          refine HeadAt.take (i := 2) (.bool false) rfl (by kernel_rfl) (.inl ⟨rfl, fun _ _ => by simp [go_sem]⟩) S0 ?_
          refine HeadAt.take (i := 3) (.int .i64 0) rfl (by kernel_rfl) (.inl ⟨rfl, fun _ _ => by simp [go_sem]⟩) S0 ?_
          simp only [Act.put, List.getElem_toArray, List.getElem_cons_succ, List.getElem_cons_zero, List.setIfInBounds_toArray, List.set_cons_succ, List.set_cons_zero]
          refine HeadAt.take (i := 4) (.bool false) rfl (by kernel_rfl) (.inl ⟨rfl, fun w' z => ?_⟩) S0 ?_
          · (simp [go_sem])
          refine HeadAt.take (i := 5) (.bool false) rfl (by kernel_rfl) (.inl ⟨rfl, fun w' z => ?_⟩) S0 ?_
          · (simp [go_sem])
          refine HeadAt.take (i := 6) (.bool false) rfl (by kernel_rfl) (.inl ⟨rfl, fun _ _ => by simp [go_sem]⟩) S0 ?_
          refine HeadAt.take (i := 7) (.int .i64 (j : Int)) rfl (by kernel_rfl) (.inl ⟨rfl, fun _ _ => by simp [go_sem]⟩) S0 ?_
          simp only [Act.put, List.getElem_toArray, List.getElem_cons_succ, List.getElem_cons_zero, List.setIfInBounds_toArray, List.set_cons_succ, List.set_cons_zero]
          refine HeadAt.take (i := 8) (.bool false) rfl (by kernel_rfl) (.inl ⟨rfl, fun w' z => ?_⟩) S0 ?_
          · (simp [go_sem, hda])
          refine HeadAt.take (i := 9) (.bool false) rfl (by kernel_rfl) (.inl ⟨rfl, fun w' z => ?_⟩) S0 ?_
          · (simp [go_sem])
          refine HeadAt.take (i := 10) (.bool false) rfl (by kernel_rfl) (.inl ⟨rfl, fun _ _ => by simp [go_sem]⟩) S0 ?_
          refine HeadAt.take (i := 11) (.int .i64 (j : Int)) rfl (by kernel_rfl) (.inl ⟨rfl, fun _ _ => by simp [go_sem]⟩) S0 ?_
          simp only [Act.put, List.getElem_toArray, List.getElem_cons_succ, List.getElem_cons_zero, List.setIfInBounds_toArray, List.set_cons_succ, List.set_cons_zero]
          refine HeadAt.take (i := 12) (.slice (some ⟨b2, o2, none⟩) nl cl) rfl (by kernel_rfl) (.inl ⟨rfl, fun _ _ => by simp [go_sem]⟩) S0 ?_
          refine HeadAt.take (i := 13) (.int .i64 (nl : Int)) rfl (by kernel_rfl) (.inl ⟨rfl, fun w' z => ?_⟩) S0 ?_
          · (simp [go_sem])
          refine HeadAt.take (i := 14) (.bool false) rfl (by kernel_rfl) (.inl ⟨rfl, fun w' z => ?_⟩) S0 ?_
          · (simp [go_sem, hdb2]; try omega)
          simp only [Act.put, List.getElem_toArray, List.getElem_cons_succ, List.getElem_cons_zero, List.setIfInBounds_toArray, List.set_cons_succ, List.set_cons_zero]
          refine HeadAt.take (i := 15) (.bool false) rfl (by kernel_rfl) (.inl ⟨rfl, fun w' z => ?_⟩) S0 ?_
          · (simp [go_sem])
          refine HeadAt.take (i := 16) (.bool false) rfl (by kernel_rfl) (.inl ⟨rfl, fun _ _ => by simp [go_sem]⟩) S0 ?_
          refine HeadAt.take (i := 17) (.int .i64 wt) rfl (by kernel_rfl) (.inl ⟨rfl, fun _ _ => by simp [go_sem]⟩) S0 ?_
          simp only [Act.put, List.getElem_toArray, List.getElem_cons_succ, List.getElem_cons_zero, List.setIfInBounds_toArray, List.set_cons_succ, List.set_cons_zero]
          refine HeadAt.take (i := 18) (.bool false) rfl (by kernel_rfl) (.inl ⟨rfl, fun w' z => ?_⟩) S0 ?_
          · (simp [go_sem, hdc])
          refine HeadAt.take (i := 19) (.bool false) rfl (by kernel_rfl) (.inl ⟨rfl, fun w' z => ?_⟩) S0 ?_
          · (simp [go_sem])
          refine HeadAt.take (i := 20) (.bool false) rfl (by kernel_rfl) (.inl ⟨rfl, fun _ _ => by simp [go_sem]⟩) S0 ?_
          simp only [Act.put, List.getElem_toArray, List.getElem_cons_succ, List.getElem_cons_zero, List.setIfInBounds_toArray, List.set_cons_succ, List.set_cons_zero]
          refine HeadAt.take (i := 21) (.int .i64 wt) rfl (by kernel_rfl) (.inl ⟨rfl, fun _ _ => by simp [go_sem]⟩) S0 ?_
          refine HeadAt.take (i := 22) (.int .i64 a) rfl (by kernel_rfl) (.inl ⟨rfl, fun _ _ => by simp [go_sem]⟩) S0 ?_
          refine HeadAt.take (i := 23) (.bool false) rfl (by kernel_rfl) (.inl ⟨rfl, fun w' z => ?_⟩) S0 ?_
          · (simp [go_sem, hdd])
          simp only [Act.put, List.getElem_toArray, List.getElem_cons_succ, List.getElem_cons_zero, List.setIfInBounds_toArray, List.set_cons_succ, List.set_cons_zero]
          refine HeadAt.take (i := 24) (.bool false) rfl (by kernel_rfl) (.inl ⟨rfl, fun w' z => ?_⟩) S0 ?_
          · (simp [go_sem])
          refine HeadAt.take (i := 25) (.bool false) rfl (by kernel_rfl) (.inl ⟨rfl, fun _ _ => by simp [go_sem]⟩) S0 ?_
          refine HeadAt.take (i := 26) (.slice (some ⟨b2, o2, none⟩) nl cl) rfl (by kernel_rfl) (.inl ⟨rfl, fun _ _ => by simp [go_sem]⟩) S0 ?_
          refine HeadAt.take (i := 27) (.int .i64 (j : Int)) rfl (by kernel_rfl) (.inl ⟨rfl, fun _ _ => by simp [go_sem]⟩) S0 ?_
          simp only [Act.put, List.getElem_toArray, List.getElem_cons_succ, List.getElem_cons_zero, List.setIfInBounds_toArray, List.set_cons_succ, List.set_cons_zero]
          refine HeadAt.take (i := 28) (.pointer (some ⟨b2, o2 + j * 2, none⟩)) rfl (by kernel_rfl) (.inl ⟨rfl, fun w' z => ?_⟩) S0 ?_
          · (simp [go_sem, hjI, hj0])
          refine HeadAt.take (i := 29) (.pointer (some ⟨b2, o2 + j * 2, none⟩)) rfl (by kernel_rfl) (.inl ⟨rfl, fun _ _ => by simp [go_sem]⟩) S0 ?_
          refine HeadAt.take (i := 30) (.int .i64 x) rfl (by kernel_rfl) (.inl ⟨rfl, fun w' z => ?_⟩) S0 ?_
          · (simp [go_sem, z.h0])
          refine HeadAt.take (i := 31) (.pointer (some ⟨w.heap.size, 4, none⟩)) rfl (by kernel_rfl) (.inl ⟨rfl, fun _ _ => by simp [go_sem]⟩) S0 ?_
          simp only [Act.put, List.getElem_toArray, List.getElem_cons_succ, List.getElem_cons_zero, List.setIfInBounds_toArray, List.set_cons_succ, List.set_cons_zero]
          refine HeadAt.take (i := 32) (.slice (some ⟨bp, op, none⟩) m cp) rfl (by kernel_rfl) (.inl ⟨rfl, fun w' z => ?_⟩) S0 ?_
          · (have z0 := z.xb.cell 4 rfl; simp [go_sem, z0])
          refine HeadAt.take (i := 33) (.int .i64 (k : Int)) rfl (by kernel_rfl) (.inl ⟨rfl, fun _ _ => by simp [go_sem]⟩) S0 ?_
          simp only [Act.put, List.getElem_toArray, List.getElem_cons_succ, List.getElem_cons_zero, List.setIfInBounds_toArray, List.set_cons_succ, List.set_cons_zero]
          refine HeadAt.take (i := 34) (.pointer (some ⟨bp, op + k * 2, none⟩)) rfl (by kernel_rfl) (.inl ⟨rfl, fun w' z => ?_⟩) S0 ?_
          · (simp [go_sem, hkI, hk0])
          refine HeadAt.take (i := 35) (.pointer (some ⟨bp, op + k * 2, none⟩)) rfl (by kernel_rfl) (.inl ⟨rfl, fun _ _ => by simp [go_sem]⟩) S0 ?_
          refine HeadAt.take (i := 36) (.int .i64 x) rfl (by kernel_rfl) (.inl ⟨rfl, fun w' z => ?_⟩) S0 ?_
          · (simp [go_sem, z.g0])
          simp only [Act.put, List.getElem_toArray, List.getElem_cons_succ, List.getElem_cons_zero, List.setIfInBounds_toArray, List.set_cons_succ, List.set_cons_zero]
          refine HeadAt.take (i := 37) (.bool false) rfl (by kernel_rfl) (.inl ⟨rfl, fun w' z => ?_⟩) S0 ?_
          · (simp [go_sem])
          refine HeadAt.take (i := 38) (.bool false) rfl (by kernel_rfl) (.inl ⟨rfl, fun w' z => ?_⟩) S0 ?_
          · (simp [go_sem])
          refine HeadAt.take (i := 39) (.bool false) rfl (by kernel_rfl) (.inl ⟨rfl, fun _ _ => by simp [go_sem]⟩) S0 ?_
          refine HeadAt.take (i := 40) (.slice (some ⟨b2, o2, none⟩) nl cl) rfl (by kernel_rfl) (.inl ⟨rfl, fun _ _ => by simp [go_sem]⟩) S0 ?_
          refine HeadAt.take (i := 41) (.int .i64 (j : Int)) rfl (by kernel_rfl) (.inl ⟨rfl, fun _ _ => by simp [go_sem]⟩) S0 ?_
          simp only [Act.put, List.getElem_toArray, List.getElem_cons_succ, List.getElem_cons_zero, List.setIfInBounds_toArray, List.set_cons_succ, List.set_cons_zero]
          refine HeadAt.take (i := 42) (.pointer (some ⟨b2, o2 + j * 2, none⟩)) rfl (by kernel_rfl) (.inl ⟨rfl, fun w' z => ?_⟩) S0 ?_
          · (simp [go_sem, hjI, hj0])
          refine HeadAt.take (i := 43) (.pointer (some ⟨b2, o2 + j * 2 + 1, none⟩)) rfl (by kernel_rfl) (.inl ⟨rfl, fun _ _ => by simp [go_sem]⟩) S0 ?_
          refine HeadAt.take (i := 44) (.int .i64 t) rfl (by kernel_rfl) (.inl ⟨rfl, fun w' z => ?_⟩) S0 ?_
          · (simp [go_sem, z.h1])
          refine HeadAt.take (i := 45) (.pointer (some ⟨w.heap.size, 4, none⟩)) rfl (by kernel_rfl) (.inl ⟨rfl, fun _ _ => by simp [go_sem]⟩) S0 ?_
          simp only [Act.put, List.getElem_toArray, List.getElem_cons_succ, List.getElem_cons_zero, List.setIfInBounds_toArray, List.set_cons_succ, List.set_cons_zero]
          refine HeadAt.take (i := 46) (.slice (some ⟨bp, op, none⟩) m cp) rfl (by kernel_rfl) (.inl ⟨rfl, fun w' z => ?_⟩) S0 ?_
          · (have z0 := z.xb.cell 4 rfl; simp [go_sem, z0])
          refine HeadAt.take (i := 47) (.int .i64 (k : Int)) rfl (by kernel_rfl) (.inl ⟨rfl, fun _ _ => by simp [go_sem]⟩) S0 ?_
          simp only [Act.put, List.getElem_toArray, List.getElem_cons_succ, List.getElem_cons_zero, List.setIfInBounds_toArray, List.set_cons_succ, List.set_cons_zero]
          refine HeadAt.take (i := 48) (.pointer (some ⟨bp, op + k * 2, none⟩)) rfl (by kernel_rfl) (.inl ⟨rfl, fun w' z => ?_⟩) S0 ?_
          · (simp [go_sem, hkI, hk0])
          refine HeadAt.take (i := 49) (.pointer (some ⟨bp, op + k * 2 + 1, none⟩)) rfl (by kernel_rfl) (.inl ⟨rfl, fun _ _ => by simp [go_sem]⟩) S0 ?_
          refine HeadAt.take (i := 50) (.int .i64 y) rfl (by kernel_rfl) (.inl ⟨rfl, fun w' z => ?_⟩) S0 ?_
          · (simp [go_sem, z.g1])
          refine HeadAt.take (i := 51) (.int .i64 wt) rfl (by kernel_rfl) (.inl ⟨rfl, fun _ _ => by simp [go_sem]⟩) S0 ?_
          simp only [Act.put, List.getElem_toArray, List.getElem_cons_succ, List.getElem_cons_zero, List.setIfInBounds_toArray, List.set_cons_succ, List.set_cons_zero]
          refine HeadAt.take (i := 52) (.int .i64 t) rfl (by kernel_rfl) (.inl ⟨rfl, fun w' z => ?_⟩) S0 ?_
          · (simp [go_sem, eww])
          refine HeadAt.take (i := 53) (.bool false) rfl (by kernel_rfl) (.inl ⟨rfl, fun w' z => ?_⟩) S0 ?_
          · (simp [go_sem])
          refine HeadAt.done (by kernel_rfl) ?_
          (try simp only [Act.put, List.drop_succ_cons, List.drop_zero, List.getElem_toArray, List.getElem_cons_succ, List.getElem_cons_zero])
          clear S0 hda hdb hdb2 hdc hdd eww
          obtain ⟨z, kz, fz, hz0, hz1, hO2⟩ := HK.out.put HXX.out.1 hjn HXX.out.2.2 hbg (Nat.le_refl _) (HAL.out j hjn)
          have ewz : IntKind.i64.wrap (z + 1) = z + 1 := IntWalk.i64_in _ (by omega)
          have HO2 := hid hO2
          clear hO2
          go_wp2_with fail
          refine NoPanic.normal ?_
          go_wp2
          go_roundw
          case rel => exact ⟨k + 1, by omega, by go_num, HO2⟩
          case measure => simp [intOf]; omega
        · have hkI : (m : Int) ≤ (k : Int) := by omega
          have hkm2 : k = m := by omega
          have HG : Hid (∃ Sv : List Int, Sv.length = nl ∧ wr.ownsRow (w.heap.size + 1) 3 1 (.slice (some ⟨g7, 0, none⟩) nl nl) nl (Sv.map (Value.int .i64)) ∧ ∀ i, i < nl → ∃ z, Sv[i]? = some z ∧ 1 ≤ z) := by
            obtain ⟨Sv, s1, s2, _, s4⟩ := HK.out.sv
            refine ⟨Sv, s1, s2, fun i hi => ?_⟩
            obtain ⟨j, p, hj, hs⟩ := HPS.out i hi
            have hjm : j < m := by
              rcases Nat.lt_or_ge j ps.length with h | h
              · rw [HM.out]; exact h
              · rw [List.getElem?_eq_none h] at hj; cases hj
            obtain ⟨z, h1, h2⟩ := s4 j (by omega) p hj
            rw [hs, Int.toNat_natCast] at h1
            exact ⟨z, h1, h2⟩
          have c0 := xk.cell 0 rfl; have c1 := xk.cell 1 rfl; have c2 := xk.cell 2 rfl; have c3 := xk.cell 3 rfl; have c4 := xk.cell 4 rfl
          have hbk := HK.out.hb
          have r1k := HK.out.r1
          clear HPR HPS HK hkm hkm2
          go_wp2
          clear c0 c1 c2 c3 c4
          obtain ⟨Wk, hWk⟩ : ∃ V, V = wr := ⟨_, rfl⟩
          rw [← hWk] at xk HG hbk r1k
          go_loopw [13] (fun v13 wr' => ∃ i : Nat, i ≤ nl ∧ v13 = .int .i64 (i : Int) ∧ Below Wk.heap.size Wk wr') (fun v13 _ => nl - (intOf v13).toNat)
          case atStart => exact ⟨0, Nat.zero_le _, rfl, by rw [hWk]; exact Below.refl _ _⟩
          case round =>
            clear hWk
            obtain ⟨i, hi, rfl, hb1⟩ := hrel
            by_cases hil : i < nl
            · have hiI : (i : Int) < (nl : Int) := by omega
              have hi0 : (0 : Int) ≤ (i : Int) := by omega
              obtain ⟨Sv, s1, s2, s4⟩ := HG.out
              obtain ⟨z, h1, h2⟩ := s4 i hil
              have kz := World.ownsRow.cellAt (own_below2 s2 hb1) i (by omega)
              rw [List.getElem?_map, h1] at kz
              have kz' : wr.cell? ⟨g7, i, none⟩ = some (.int .i64 z) := kz
              have hz0 : (z == 0) = false := by simp; omega
              clear kz h1 s1 s2 s4
              go_wp2
              go_roundw
              case rel => exact ⟨i + 1, by omega, by go_num, hb1⟩
              case measure => simp [intOf]; omega
            · have hiI : (nl : Int) ≤ (i : Int) := by omega
              replace xk := xk.below hb1
              replace hbk := hbk.trans (hb1.mono hbk.size)
              replace r1k := r1k.below hb1 (Nat.le_refl _)
              clear HG hb1 hil hi
              obtain ⟨hEb, hEo, hfn, hnone, hcd, htm, hsc, hsecs, hTr⟩ := HEND.out
              clear HEND
              have c0 := xk.cell 0 rfl; have c1 := xk.cell 1 rfl; have c2 := xk.cell 2 rfl; have c3 := xk.cell 3 rfl; have c4 := xk.cell 4 rfl
              by_cases hm0 : m = 0
              · have hn0 := hnone.2 hm0
                have hE := hEb hm0
                subst hm0
                subst hn0
                clear hEb hEo hfn hnone hcd htm hsc hsecs
                go_wp2_with fail
                refine (hE _ (hR.below hbk (Nat.le_refl _)) (hP.below hbk (Nat.le_refl _))).mono ?_
                rintro e V8 ⟨rfl, hb8⟩
                clear hE
                (try clear c0 c1 c2 c3 c4); replace xk := xk.below hb8; have c0 := xk.cell 0 rfl; have c1 := xk.cell 1 rfl; have c2 := xk.cell 2 rfl; have c3 := xk.cell 3 rfl; have c4 := xk.cell 4 rfl; replace hbk := hbk.trans (hb8.mono hbk.size); clear hb8
                go_wp2_with fail
                refine (works_any _).mono ?_
                rintro e V9 ⟨rfl, hb9⟩
                replace hbk := hbk.trans (hb9.mono hbk.size)
                clear hb9 xk c0 c1 c2 c3 c4
                go_wp2
                go_ret
                exact ⟨rfl, hbk⟩
              · have hE := hEo hm0
                have hnl0 : 0 < nl := by
                  rcases Nat.eq_zero_or_pos nl with h | h
                  · exact absurd (hnone.1 h) hm0
                  · exact h
                obtain ⟨la, hla⟩ : ∃ la, nl = la + 1 := ⟨nl - 1, by omega⟩
                have hlaI : (nl : Int) - 1 = (la : Int) := by omega
                have ewl : IntKind.i64.wrap ((nl : Int) - 1) = (la : Int) := by rw [hlaI]; exact IntWalk.i64_in _ (by omega)
                have hlan : (la : Int) < (nl : Int) := by omega
                have hla0 : (0 : Int) ≤ (la : Int) := by omega
                have hnz : ((nl : Int) == 0) = false := by simp; omega
                obtain ⟨bl, ol, sL, tL, rfl, _, k0, k1, _, _, hxl, hdl⟩ := r1k.at (show la < L.length by rw [← HNL.out]; omega)
                have hLA : L = L.take la ++ [(sL, tL)] := by
                  have h1 := List.take_append_drop la L
                  rw [hdl.out, List.drop_eq_nil_iff.2 (by rw [← HNL.out]; omega)] at h1
                  exact h1.symm
                have hfi := hfn _ _ hLA
                have hmemL := List.mem_of_getElem? hxl.out
                have hd1 := hcd _ hmemL
                have ht1 := htm _ hmemL
                dsimp only at hd1 ht1 hfi
                rw [hTr, ← HN.out] at hd1
                obtain ⟨sq, rfl⟩ : ∃ sq : Nat, sL = (sq : Int) := ⟨sL.toNat, by omega⟩
                have hsq := hsc sq (by omega)
                have hse := hsecs sq (by rw [← HN.out]; omega)
                rw [Int.toNat_natCast] at hfi
                obtain ⟨sc, hscc⟩ : ∃ sc, sc = secs T sq := ⟨_, rfl⟩
                rw [← hscc] at hsq hse hfi
                have ewf : IntKind.i64.wrap (tL + sc) = fi := by rw [hfi]; exact IntWalk.i64_in _ (by omega)
                clear hEb hEo hfn hnone hcd htm hsc hsecs hLA hfi hmemL hxl hdl hscc hla hlaI
                go_wp2_with fail
                refine (hE _ (hR.below hbk (Nat.le_refl _)) (hP.below hbk (Nat.le_refl _))).mono ?_
                rintro e V8 ⟨rfl, hb8⟩
                clear hE
                replace k0 := Below.keep hb8 k0; replace k1 := Below.keep hb8 k1
                (try clear c0 c1 c2 c3 c4); replace xk := xk.below hb8; have c0 := xk.cell 0 rfl; have c1 := xk.cell 1 rfl; have c2 := xk.cell 2 rfl; have c3 := xk.cell 3 rfl; have c4 := xk.cell 4 rfl; replace hbk := hbk.trans (hb8.mono hbk.size); clear hb8
                obtain ⟨V9, hV9, hbx, hsx, x16⟩ := boxes1 V8 #[.int .i64 (sq : Int), .int .i64 tL] 39
                have xk9 := xk.below hbx
                have hbk9 := hbk.trans (hbx.mono hbk.size)
                clear hbx hsx
                go_upto_region 29 with fail
                clear k0 k1 c0 c1 c2 c3 c4 hV9 xk hbk ewl
                have hbd := (Below.refl V9.heap.size V9).drew
                have hb := hbk9.trans (hbd.mono hbk9.size)
                have S0 : Bx V9.drew w.heap.size #[.slice ar n cr, .int .i64 p0, .int .i64 way, .int .i64 step, .slice ap m cp] 25 ∧ Bx V9.drew V8.heap.size #[.int .i64 (sq : Int), .int .i64 tL] 39 := ⟨xk9.below hbd, x16.below hbd⟩
                clear hbd xk9 x16 hbk9
                refine wp_region_head 16 (fun w' => Bx w' w.heap.size #[.slice ar n cr, .int .i64 p0, .int .i64 way, .int .i64 step, .slice ap m cp] 25 ∧ Bx w' V8.heap.size #[.int .i64 (sq : Int), .int .i64 tL] 39) (by kernel_rfl) rfl ?_
                generalize V9.drew = Y0 at *
                refine HeadAt.take (i := 0) (.int .i64 0) rfl (by kernel_rfl) (.inl ⟨rfl, fun _ _ => by simp [go_sem]⟩) S0 ?_
                refine HeadAt.take (i := 1) (.bool true) rfl (by kernel_rfl) (.inl ⟨rfl, fun w' z => ?_⟩) S0 ?_
                · (simp [go_sem])
                refine HeadAt.take (i := 2) (.bool true) rfl (by kernel_rfl) (.inl ⟨rfl, fun _ _ => by simp [go_sem]⟩) S0 ?_
                refine HeadAt.take (i := 3) (.int .i64 fi) rfl (by kernel_rfl) (.inl ⟨rfl, fun _ _ => by simp [go_sem]⟩) S0 ?_
                simp only [Act.put, List.getElem_toArray, List.getElem_cons_succ, List.getElem_cons_zero, List.setIfInBounds_toArray, List.set_cons_succ, List.set_cons_zero]
                refine HeadAt.take (i := 4) (.pointer (some ⟨V8.heap.size, 1, none⟩)) rfl (by kernel_rfl) (.inl ⟨rfl, fun _ _ => by simp [go_sem]⟩) S0 ?_
                refine HeadAt.take (i := 5) (.int .i64 tL) rfl (by kernel_rfl) (.inl ⟨rfl, fun w' z => ?_⟩) S0 ?_
                · (have z0 := z.2.cell 1 rfl; simp [go_sem, z0])
                refine HeadAt.take (i := 6) (.agg #[.slice ar n cr, .int .i64 p0, .int .i64 way, .int .i64 step, .slice ap m cp]) rfl (by kernel_rfl) (.inl ⟨rfl, fun w' z => ?_⟩) S0 ?_
                · (have z0 := z.1.cell 0 rfl; have z1 := z.1.cell 1 rfl; have z2 := z.1.cell 2 rfl; have z3 := z.1.cell 3 rfl; have z4 := z.1.cell 4 rfl; simp [go_sem, z0, z1, z2, z3, z4])
                refine HeadAt.take (i := 7) (.pointer (some ⟨V8.heap.size, 0, none⟩)) rfl (by kernel_rfl) (.inl ⟨rfl, fun _ _ => by simp [go_sem]⟩) S0 ?_
                simp only [Act.put, List.getElem_toArray, List.getElem_cons_succ, List.getElem_cons_zero, List.setIfInBounds_toArray, List.set_cons_succ, List.set_cons_zero]
                refine HeadAt.take (i := 8) (.int .i64 (sq : Int)) rfl (by kernel_rfl) (.inl ⟨rfl, fun w' z => ?_⟩) S0 ?_
                · (have z0 := z.2.cell 0 rfl; simp [go_sem, z0])
                refine HeadAt.one (i := 9) rfl (by kernel_rfl) ?_
                generalize hK : Upto _ _ = K0
                (try simp only [Act.put, List.getElem_toArray, List.getElem_cons_succ, List.getElem_cons_zero, List.setIfInBounds_toArray, List.set_cons_succ, List.set_cons_zero])
                go_wp2_with fail
                refine (hsq _ (hR.below hb (Nat.le_refl _)) (hP.below hb (Nat.le_refl _))).mono ?_
                rintro e Y2 ⟨rfl, hb2⟩
                replace S0 := And.intro (S0.1.below hb2) (S0.2.below hb2)
                replace hb := hb.trans (hb2.mono hb.size)
                clear hb2 hsq
                go_wp2_with fail
                subst hK
                refine ⟨S0, ?_⟩
                refine HeadAt.take (i := 10) (.int .i64 fi) rfl (by kernel_rfl) (.inl ⟨rfl, fun w' z => ?_⟩) S0 ?_
                · (simp [go_sem, ewf])
                refine HeadAt.take (i := 11) (.bool true) rfl (by kernel_rfl) (.inl ⟨rfl, fun w' z => ?_⟩) S0 ?_
                · (simp [go_sem])
                simp only [Act.put, List.getElem_toArray, List.getElem_cons_succ, List.getElem_cons_zero, List.setIfInBounds_toArray, List.set_cons_succ, List.set_cons_zero]
                refine HeadAt.take (i := 12) (.bool true) rfl (by kernel_rfl) (.inl ⟨rfl, fun w' z => ?_⟩) S0 ?_
                · (simp [go_sem])
                refine HeadAt.take (i := 13) (.bool true) rfl (by kernel_rfl) (.inl ⟨rfl, fun _ _ => by simp [go_sem]⟩) S0 ?_
                refine HeadAt.one (i := 14) rfl (by kernel_rfl) ?_
                generalize hK : Upto _ _ = K0
                (try simp only [Act.put, List.getElem_toArray, List.getElem_cons_succ, List.getElem_cons_zero, List.setIfInBounds_toArray, List.set_cons_succ, List.set_cons_zero])
                go_wp2_with fail
                refine (works_any _).mono ?_
                rintro e Y3 ⟨rfl, hb3⟩
                replace S0 := And.intro (S0.1.below hb3) (S0.2.below hb3)
                replace hb := hb.trans (hb3.mono hb.size)
                clear hb3
                go_wp2_with fail
                subst hK
                refine ⟨S0, ?_⟩
                refine HeadAt.take (i := 15) (.bool true) rfl (by kernel_rfl) (.inl ⟨rfl, fun w' z => ?_⟩) S0 ?_
                · (simp [go_sem])
                refine HeadAt.done (by kernel_rfl) ?_
                (try simp only [Act.put, List.drop_succ_cons, List.drop_zero, List.getElem_toArray, List.getElem_cons_succ, List.getElem_cons_zero])
                clear S0
                go_wp2_with fail
                refine NoPanic.normal ?_
                go_wp2
                go_ret
                exact ⟨rfl, hb⟩
theorem once_any (ar ap : Option Addr) (cr cp : Nat) (rs ps : List (Int × Int)) (p0 way step : Int) (w : World) (hlr : rs.length ≤ 9223372036854775807) (hlp : ps.length ≤ 9223372036854775807) (hR : rs.length ≤ 1000 → Prs w ar rs) (hP : ps.length ≤ 1000 → Prs w ap ps) :
    Calls Try.prog 3 #[.agg #[.slice ar rs.length cr, .int .i64 p0, .int .i64 way, .int .i64 step, .slice ap ps.length cp]] w (WorksP w) := by
  cases hv : rdB rs ps p0 way step
  · exact on_arg0 ar ap cr cp rs ps p0 way step w hlr hlp hR hP hv
  · have hl : rs.length ≤ 6 ∧ ps.length ≤ 12 := by have h := rdB_len hv; unfold trB at h; simp only [Bool.and_eq_true, decide_eq_true_eq, inR_iff] at h; omega
    obtain ⟨T, hT, _⟩ := tr_of (rdB_len hv)
    exact on_ok ar ap cr cp rs ps p0 way step w (hR (by omega)) (hP (by omega)) hv T hT
end Go.Proofs.Ytknaljghpfeikaa
