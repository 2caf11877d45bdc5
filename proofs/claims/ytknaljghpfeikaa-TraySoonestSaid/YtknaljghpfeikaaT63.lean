import Derived.Test.YtknaljghpfeikaaT62
namespace Go.Proofs.Ytknaljghpfeikaa
open Go.RowKit

theorem info90 : (Try.prog.info? 90).map (fun i => (i.zero, i.size, i.bytes)) = some (some (.agg #[.int .i64 0, .int .i64 0, .int .i64 0, .int .i64 0, .int .i64 0]), 5, 40) := by kernel_rfl
theorem under87 : Try.prog.underlying 87 = some (.slice 90) := by kernel_rfl
def RunP (E : List Ev) (w : World) (e : Ending) (w' : World) : Prop := Below w.heap.size w w' ∧ ∃ (a : Option Addr) (c : Nat), e = .returned (.slice a E.length c) ∧ Evs w' a E ∧ ∀ ad, a = some ad → w.heap.size ≤ ad.block
/-- A row of zeros. -/
theorem make_row (w : World) (B m : Nat) (hB : B ≤ w.heap.size) (hm : m ≤ 1000) : ∃ W2, (Instr.makeSlice 35 (.int .i64 (m : Int)) (.int .i64 (m : Int))).run Try.prog w = .ok (.slice (some ⟨w.heap.size, 0, none⟩) m m) W2 ∧
    W2.ownsRow B 3 1 (.slice (some ⟨w.heap.size, 0, none⟩) m m) m ((List.replicate m (0 : Int)).map (Value.int .i64)) ∧ Below w.heap.size w W2 := by
  obtain ⟨j0, hj, jz0, jz1, jz2⟩ := info_parts info3i
  have h := run_make (P := Try.prog) w 35 3 j0 (.int .i64 0) under35 hj jz0 .i64 .i64 (m : Int) (m : Int) (by omega) (Int.le_refl _) (by rw [jz2]; omega) (by omega)
  rw [Int.toNat_natCast, jz1] at h
  refine ⟨_, h, ?_, below_one _⟩
  have e : (madeCells (Value.int .i64 0).cells (m * 1)).toList = (List.replicate m (0 : Int)).map (Value.int .i64) := by
    have := congrArg Array.toList (made_ints m)
    simpa [vrow] using this
  rw [← e]
  exact World.ownsRow_lit w _ m hB (by unfold maxLen; omega) (size_madeCells _ _)
theorem own_intsA {w : World} {B n c : Nat} {a : Option Addr} {xs : List Int} (h : w.ownsRow B 3 1 (.slice a n c) n (xs.map (Value.int .i64))) (hn : xs.length = n) (hl : n ≤ 1000000) (hb : ∀ x ∈ xs, 0 ≤ x ∧ x < 12) : Ints w a xs := by
  subst hn
  obtain ⟨a', c', e1, hp⟩ := Ints.of_own h (by omega) (fun x hx => by have := hb x hx; omega)
  injection e1 with e2
  rw [e2]
  exact hp
/-- A row of the call's own that is not empty lies in a block. -/
theorem own_some {w : World} {B size n c : Nat} {e : TypeId} {a : Option Addr} {xs : List Value} (h : w.ownsRow B e size (.slice a n c) n xs) (hn : 0 < n) : ∃ g, a = some ⟨g, 0, none⟩ := by
  rcases h.2 with ⟨_, h0⟩ | ⟨g, cap, cur, e1, _⟩
  · omega
  · simp only [Value.slice.injEq, true_and] at e1
    exact ⟨g, e1.1⟩
theorem next_takeP {ps : List (Int × Int)} {t m : Int} {i : Nat} {u t1 : Int} (hp : ps[i]? = some (u, t1)) : (ps.take (i + 1)).foldl (next1 t) m = if t < t1 then min ((ps.take i).foldl (next1 t) m) t1 else (ps.take i).foldl (next1 t) m := next_take hp
theorem hear_takeP {ps : List (Int × Int)} {h t : Int} {s : Nat → Bool} {i : Nat} {u t1 : Int} (hp : ps[i]? = some (u, t1)) : hearS (ps.take (i + 1)) h t s = if h < t1 ∧ t1 ≤ t then (fun k => decide (k = u.toNat) || hearS (ps.take i) h t s k) else hearS (ps.take i) h t s := hear_take hp
theorem room_stepP {ps : List (Int × Int)} {h t : Int} {i : Nat} {u t1 : Int} (hp : ps[i]? = some (u, t1)) (ht : h ≤ t) : room ps h t (i + 1) + (if h < t1 ∧ t1 ≤ t then 1 else 0) = room ps h t i := room_step hp ht
theorem rf_app {b B m : Nat} {ar ap : Option Addr} {cr cp n : Nat} {p0 way step : Int} {w : World} {v3 v6 v : Value} {a4 : Option Addr} {n3 n4 n6 c4 g5 : Nat} {E : List Ev} {PL F LL : List Int} {u : Int} {wr wr' : World} {i : Nat}
    (h : RfR b B m ar ap cr cp n p0 way step w v3 (.slice a4 n4 c4) (.slice (some ⟨g5, 0, none⟩) m m) v6 n3 n4 n6 E PL F LL wr) (ho : wr'.ownsRow B 3 1 v (n4 + 1) (PL.map (Value.int .i64) ++ [.int .i64 u])) (hg : wr.grownBy wr' (Value.slice a4 n4 c4).ownBlock) (hat : v.ownBlock = (Value.slice a4 n4 c4).ownBlock ∨ v.ownBlock = some wr.heap.size)
    (hi : i < m) (hf : F[i]? = some 1) :
    ∃ a5 c5, v = .slice a5 (n4 + 1) c5 ∧ wr'.cell? ⟨g5, i, none⟩ = some (.int .i64 1) ∧ Hid (RfR b B m ar ap cr cp n p0 way step w v3 (.slice a5 (n4 + 1) c5) (.slice (some ⟨g5, 0, none⟩) m m) v6 n3 (n4 + 1) n6 E (PL ++ [u]) F LL wr') := by
  obtain ⟨a5, c5, rfl⟩ := own_slice2 ho
  have e : (PL ++ [u]).map (Value.int .i64) = PL.map (Value.int .i64) ++ [.int .i64 u] := by simp
  rw [← e] at ho
  have h2 := h.put4 hg ho hat
  have k := World.ownsRow.cellAt h2.own5 i (by omega)
  rw [List.getElem?_map, hf] at k
  exact ⟨a5, c5, rfl, k, h2⟩
theorem rf_ev {b B m : Nat} {ar ap : Option Addr} {cr cp n : Nat} {p0 way step : Int} {w : World} {v4 v5 v6 v : Value} {a3 : Option Addr} {n3 n4 n6 c3 : Nat} {E : List Ev} {PL F LL : List Int} {wr wr' : World} (ev : Ev)
    (h : RfR b B m ar ap cr cp n p0 way step w (.slice a3 n3 c3) v4 v5 v6 n3 n4 n6 E PL F LL wr) (ho : wr'.ownsRow B 90 5 v (n3 + 1) (ecells E ++ ecell ev)) (hg : wr.grownBy wr' (Value.slice a3 n3 c3).ownBlock) (hat : v.ownBlock = (Value.slice a3 n3 c3).ownBlock ∨ v.ownBlock = some wr.heap.size) :
    ∃ a5 c5, v = .slice a5 (n3 + 1) c5 ∧ Hid (RfR b B m ar ap cr cp n p0 way step w (.slice a5 (n3 + 1) c5) v4 v5 v6 (n3 + 1) n4 n6 (E ++ [ev]) PL F LL wr') := by
  obtain ⟨a5, c5, rfl⟩ := own_slice2 ho
  rw [← ecells_snoc] at ho
  exact ⟨a5, c5, rfl, h.put3 hg ho hat⟩
theorem ecell_one (ev : Ev) : ∀ u ∈ ecell ev, u.oneCell' = true := fun u hu => by
  simp only [ecell, List.mem_cons, List.not_mem_nil, or_false] at hu
  rcases hu with rfl | rfl | rfl | rfl | rfl <;> rfl
theorem rf_app6 {b B m : Nat} {ar ap : Option Addr} {cr cp n : Nat} {p0 way step : Int} {w : World} {v3 v4 v5 v : Value} {a6 : Option Addr} {n3 n4 n6 c6 : Nat} {E : List Ev} {PL F LL : List Int} {x : Int} {wr wr' : World}
    (h : RfR b B m ar ap cr cp n p0 way step w v3 v4 v5 (.slice a6 n6 c6) n3 n4 n6 E PL F LL wr) (ho : wr'.ownsRow B 3 1 v (n6 + 1) (LL.map (Value.int .i64) ++ [.int .i64 x])) (hg : wr.grownBy wr' (Value.slice a6 n6 c6).ownBlock) (hat : v.ownBlock = (Value.slice a6 n6 c6).ownBlock ∨ v.ownBlock = some wr.heap.size) :
    ∃ a5 c5, v = .slice a5 (n6 + 1) c5 ∧ Hid (RfR b B m ar ap cr cp n p0 way step w v3 v4 v5 (.slice a5 (n6 + 1) c5) n3 n4 (n6 + 1) E PL F (LL ++ [x]) wr') := by
  obtain ⟨a5, c5, rfl⟩ := own_slice2 ho
  have e : (LL ++ [x]).map (Value.int .i64) = LL.map (Value.int .i64) ++ [.int .i64 x] := by simp
  rw [← e] at ho
  exact ⟨a5, c5, rfl, h.put6 hg ho hat⟩
theorem move_pos {n : Nat} {up : Bool} {pos : Nat} (hp : pos < n) : inR 0 ((pos : Int) + wayI up) ((n : Int) - 1) = hasNext n up pos ∧ (hasNext n up pos = true → (pos : Int) + wayI up = ((if up then pos + 1 else pos - 1 : Nat) : Int) ∧ (if up then pos + 1 else pos - 1 : Nat) < n) := by
  unfold inR wayI hasNext
  cases up
  · simp only [Bool.false_eq_true, if_false]
    refine ⟨?_, fun h => ?_⟩
    · rw [Bool.eq_iff_iff]
      simp only [Bool.and_eq_true, decide_eq_true_eq]
      omega
    · simp only [decide_eq_true_eq] at h
      omega
  · simp only [if_true]
    refine ⟨?_, fun h => ?_⟩
    · rw [Bool.eq_iff_iff]
      simp only [Bool.and_eq_true, decide_eq_true_eq]
      omega
    · simp only [decide_eq_true_eq] at h
      omega
set_option maxRecDepth 100000 in
set_option maxHeartbeats 20000000 in
/-- All that the reference's carriage does. -/
theorem Run_any (ar ap : Option Addr) (cr cp : Nat) (rs ps : List (Int × Int)) (p0 way step : Int) (w : World) (hR : Prs w ar rs) (hP : Prs w ap ps) (T : Tr) (hT : IsTr T rs ps p0 way step) (E0 : List Ev) (hE0 : E0 = refRun T 2700 (startC T)) :
    Calls Try.prog 66 #[.agg #[.slice ar rs.length cr, .int .i64 p0, .int .i64 way, .int .i64 step, .slice ap ps.length cp]] w (RunP E0 w) := by
  obtain ⟨j0, hj, jz0, jz1, jz2⟩ := info_parts info3i
  obtain ⟨i0, hi0, iz0, iz1, iz2⟩ := info_parts info90
  have hVT := hT.hv
  obtain ⟨K, hK⟩ := run_ex hVT (Int.le_refl maxI)
  obtain ⟨n, hn⟩ : ∃ n, n = rs.length := ⟨_, rfl⟩
  obtain ⟨m, hm⟩ : ∃ m, m = ps.length := ⟨_, rfl⟩
  have HN := hid hn; have HM := hid hm
  have hn6 := hVT.n6; have hn1 := hVT.n1; have hm13 := hVT.p13
  rw [hT.T1, ← hn] at hn6 hn1
  rw [hT.T2, ← hm] at hm13
  rw [← hn, ← hm]
  have HALL := hid (And.intro hT (And.intro hK hE0))
  have hst := rel_start hK (Nat.le_refl 2700)
  have HPS := hid (show ∀ p ∈ ps, 0 ≤ p.1 ∧ p.1 < 12 ∧ 0 ≤ p.2 ∧ p.2 ≤ 9999 from fun p hp => by have h1 := hVT.pr p (by rw [hT.T2]; exact hp); rw [hT.T1] at h1; omega)
  have hfl : ps.map (flg (-1)) = List.replicate m 0 := by
    rw [List.eq_replicate_iff]
    refine ⟨by rw [List.length_map]; exact hm.symm, fun x hx => ?_⟩
    obtain ⟨p, hp, rfl⟩ := List.mem_map.1 hx
    have := HPS.out p hp
    unfold flg
    rw [if_neg (by omega)]
  have hat0 : (T.at0 : Int) = p0 := hT.T4
  have hw0 : wayI T.up0 = way := hT.T5
  clear hVT hK hE0 hT hn hm
  have hnI : (n : Int) ≤ 6 := by omega
  have hmI : (m : Int) ≤ 13 := by omega
  have hm0 : (0 : Int) ≤ (m : Int) := by omega
  obtain ⟨W, hW, hb, hs, x1⟩ := boxes1 w #[.slice ar n cr, .int .i64 p0, .int .i64 way, .int .i64 step, .slice ap m cp] 25
  obtain ⟨W2, hmk, own5, hb2⟩ := make_row W (w.heap.size + 1) m (by omega) (by omega)
  have x2 := x1.below hb2
  obtain ⟨g5, hg5⟩ : ∃ g, W.heap.size = g := ⟨_, rfl⟩
  rw [hg5] at hmk own5
  have HR := hid (show RfR w.heap.size (w.heap.size + 1) m ar ap cr cp n p0 way step w (.slice none 0 0) (.slice none 0 0) (.slice (some ⟨g5, 0, none⟩) m m) (.slice none 0 0) 0 0 0 [] [] (ps.map (flg (-1))) [] W2 from
    ⟨x2, World.ownsRow_nil _ _ _ _, World.ownsRow_nil _ _ _ _, by rw [hfl]; exact own5, World.ownsRow_nil _ _ _ _, Dj.nil _ _ _, (Dj.nil _ _ _).symm, Dj.nil _ _ _, (Dj.nil _ _ _).symm, Dj.nil _ _ _, Dj.nil _ _ _, Nat.lt_succ_self _, Nat.le_refl _, hb.trans (hb2.mono hb.size)⟩)
  have HST := hid (And.intro hst (And.intro hat0 hw0))
  have c0 := x1.cell 0 rfl; have c1 := x1.cell 1 rfl; have c2 := x1.cell 2 rfl; have c3 := x1.cell 3 rfl; have c4 := x1.cell 4 rfl
  have d0 := x2.cell 0 rfl; have d1 := x2.cell 1 rfl; have d2 := x2.cell 2 rfl; have d3 := x2.cell 3 rfl; have d4 := x2.cell 4 rfl
  clear own5 hb2 hb hst hat0 hw0 hfl
  go_enter Try.func66, Try.ntmps66
  go_wp2_with fail
  clear c0 c1 c2 c3 c4 d0 d1 d2 d3 d4 x1 x2 hmk hW hs
  have hbd := (Below.refl W2.heap.size W2).drew
  have HR1 := hid (HR.out.below hbd)
  have S0 := HR1.out.x1
  clear hbd HR
  refine wp_region_head 6 (fun w' => Bx w' w.heap.size #[.slice ar n cr, .int .i64 p0, .int .i64 way, .int .i64 step, .slice ap m cp] 25) (by kernel_rfl) rfl ?_
  generalize W2.drew = Y0 at *
  refine HeadAt.take (i := 0) (.pointer (some ⟨w.heap.size, 1, none⟩)) rfl (by kernel_rfl) (.inl ⟨rfl, fun _ _ => by simp [go_sem]⟩) S0 ?_
  refine HeadAt.take (i := 1) (.int .i64 p0) rfl (by kernel_rfl) (.inl ⟨rfl, fun w' z => ?_⟩) S0 ?_
  · (have z0 := z.cell 1 rfl; simp [go_sem, z0])
  refine HeadAt.take (i := 2) (.pointer (some ⟨w.heap.size, 2, none⟩)) rfl (by kernel_rfl) (.inl ⟨rfl, fun _ _ => by simp [go_sem]⟩) S0 ?_
  refine HeadAt.take (i := 3) (.int .i64 way) rfl (by kernel_rfl) (.inl ⟨rfl, fun w' z => ?_⟩) S0 ?_
  · (have z0 := z.cell 2 rfl; simp [go_sem, z0])
  simp only [Act.put, List.getElem_toArray, List.getElem_cons_succ, List.getElem_cons_zero, List.setIfInBounds_toArray, List.set_cons_succ, List.set_cons_zero]
  refine HeadAt.take (i := 4) (.int .i64 p0) rfl (by kernel_rfl) (.inl ⟨rfl, fun _ _ => by simp [go_sem]⟩) S0 ?_
  refine HeadAt.take (i := 5) (.int .i64 way) rfl (by kernel_rfl) (.inl ⟨rfl, fun _ _ => by simp [go_sem]⟩) S0 ?_
  refine HeadAt.done (by kernel_rfl) ?_
  (try simp only [Act.put, List.drop_succ_cons, List.drop_zero, List.getElem_toArray, List.getElem_cons_succ, List.getElem_cons_zero])
  clear S0
  go_wp2_with fail
  refine NoPanic.normal ?_
  go_wp2
  go_loopg [3, 4, 6, 7, 8, 9, 10, 11, 12, 13, 14, 15] 2700 (fun f v3 v4 v6 v7 v8 _ _ _ _ _ _ _ wr => ∃ (a3 a4 : Option Addr) (c3 c4 n3 n4 pos : Nat) (y tm : Int),
    v3 = .slice a3 n3 c3 ∧ v4 = .slice a4 n4 c4 ∧ v6 = .int .i64 (pos : Int) ∧ v7 = .int .i64 y ∧ v8 = .int .i64 tm ∧ n4 ≤ 13 ∧ (y = 1 ∨ y = -1) ∧ pos < n ∧ 0 ≤ tm ∧ tm ≤ 3000000 ∧ n3 + 2 * f ≤ 5400 ∧
    Hid (∃ (j : Nat) (c : Car) (E : List Ev) (PL : List Int), RelR T K f j c ∧ E ++ refRun T f c = E0 ∧ PinsIs PL c.pins ∧ PL.length = n4 ∧ E.length = n3 ∧ n4 + yet ps c.heard ≤ m ∧ c.pos = pos ∧ wayI c.up = y ∧ c.time = tm ∧
      RfR w.heap.size (w.heap.size + 1) m ar ap cr cp n p0 way step w (.slice a3 n3 c3) (.slice a4 n4 c4) (.slice (some ⟨g5, 0, none⟩) m m) (.slice none 0 0) n3 n4 0 E PL (ps.map (flg c.heard)) [] wr))
  case atStart =>
    obtain ⟨h1, h2, h3⟩ := HST.out
    exact ⟨none, none, 0, 0, 0, 0, T.at0, way, 0, rfl, rfl, by rw [h2], rfl, rfl, by omega, by rw [← h3]; unfold wayI; cases T.up0 <;> simp, by rw [HN.out, ← HALL.out.1.T1]; exact HALL.out.1.hv.at0, Int.le_refl _, by omega, by omega, 0, startC T, [], [], h1, HALL.out.2.2.symm, PinsIs.nil, rfl, rfl, by show 0 + yet ps (-1) ≤ m; rw [HM.out, Nat.zero_add]; exact List.countP_le_length, rfl, h3, rfl, HR1.out⟩
  case round =>
    clear HR1 HST
    obtain ⟨a3, a4, c3, c4, n3, n4, pos, y, tm, rfl, rfl, rfl, rfl, rfl, hn4, hy, hpos, ht0, htm, hn3, HC⟩ := hrel
    obtain ⟨j, c, E, PL0, hrl, hEE, hpi, hpl, hel, hrm, hcp, hcy, hct, hRR⟩ := HC.out
    clear HC
    have hhd := hrl.ht
    rw [hct] at hhd
    obtain ⟨h, hh⟩ : ∃ h, h = c.heard := ⟨_, rfl⟩
    rw [← hh] at hhd hrm hRR
    have HC := hid (And.intro hrl (And.intro hEE (And.intro hel (And.intro hcp (And.intro hcy (And.intro hct hh))))))
    have HR := hid (And.intro hRR (And.intro hpi (And.intro hpl hrm)))
    clear hrl hEE hpi hpl hel hrm hcp hcy hct hRR hh
    go_wp2
    go_loopw [4, 9, 10, 11] (fun v4 v9 v10 v11 wr => ∃ (i : Nat) (a4 : Option Addr) (c4 n4 : Nat) (nx : Int), i ≤ m ∧ v4 = .slice a4 n4 c4 ∧ v9 = .int .i64 nx ∧ v10 = .int .i64 (i : Int) ∧ n4 ≤ 13 ∧
      Hid (∃ PL : List Int, PinsIs PL (hearS (ps.take i) h tm c.pins) ∧ PL.length = n4 ∧ n4 + room ps h tm i ≤ m ∧ nx = (ps.take i).foldl (next1 tm) neverI ∧
        RfR w.heap.size (w.heap.size + 1) m ar ap cr cp n p0 way step w (.slice a3 n3 c3) (.slice a4 n4 c4) (.slice (some ⟨g5, 0, none⟩) m m) (.slice none 0 0) n3 n4 0 E PL (flgs ps h tm i) [] wr)) (fun _ _ v10 _ _ => m - (intOf v10).toNat)
    case atStart =>
      exact ⟨0, a4, c4, n4, _, Nat.zero_le _, rfl, rfl, rfl, hn4, PL0, HR.out.2.1, HR.out.2.2.1, by rw [room_zero]; exact HR.out.2.2.2, rfl, by rw [flgs_zero]; exact HR.out.1⟩
    case round =>
      clear HR hn4
      obtain ⟨i, a4, c4, n4, nx, hi, rfl, rfl, rfl, hn4, HI⟩ := hrel
      obtain ⟨PL, hpi, hpl, hrm, hnx, hRR⟩ := HI.out
      have x1 := hRR.x1
      by_cases hlt : i < m
      · have hiI : (i : Int) < (m : Int) := by omega
        have hi0 : (0 : Int) ≤ (i : Int) := by omega
        obtain ⟨bp, op, u, t1, rfl, _, g0, g1, hub, htb, hx, _⟩ := (hP.below hRR.hb (Nat.le_refl _)).at (show i < ps.length by rw [← HM.out]; exact hlt)
        have hpr := HPS.out (u, t1) (List.mem_of_getElem? hx.out)
        dsimp only at hpr
        obtain ⟨V, hV, hbx, hsx, xp⟩ := boxes1 wr #[.int .i64 u, .int .i64 t1] 40
        have hRV := hRR.below hbx
        have hl5 := own_lt hRR.own5 g5 rfl
        have kf := World.ownsRow.cellAt hRV.own5 i (by omega)
        rw [List.getElem?_map, flgs_at hx.out] at kf
        have ff := hRV.own5.frozenAt i
        have x1V := hRV.x1
        have k0 := x1.cell 0 rfl; have k1 := x1.cell 1 rfl; have k2 := x1.cell 2 rfl; have k3 := x1.cell 3 rfl; have k4 := x1.cell 4 rfl
        have l0 := x1V.cell 0 rfl; have l1 := x1V.cell 1 rfl; have l2 := x1V.cell 2 rfl; have l3 := x1V.cell 3 rfl; have l4 := x1V.cell 4 rfl
        have e0 := xp.cell 0 rfl; have e1 := xp.cell 1 rfl
        have hxo := hx.out
        have hht := hear_takeP (h := h) (t := tm) (s := c.pins) hxo
        have hnt := next_takeP (t := tm) (m := neverI) hxo
        have hrs := room_stepP (h := h) (t := tm) hxo hhd
        by_cases hA : t1 ≤ h
        · have hf1 : flg h (u, t1) = 1 := by unfold flg; rw [if_pos hA]
          have hf2 : flg tm (u, t1) = 1 := by unfold flg; rw [if_pos (by show t1 ≤ tm; omega)]
          rw [hf1] at kf
          have kf' : V.cell? ⟨g5, i, none⟩ = some (.int .i64 1) := kf
          rw [if_neg (by omega)] at hht hnt hrs
          have HF := hid (show ∃ PL : List Int, PinsIs PL (hearS (ps.take (i + 1)) h tm c.pins) ∧ PL.length = n4 ∧ n4 + room ps h tm (i + 1) ≤ m ∧ nx = (ps.take (i + 1)).foldl (next1 tm) neverI ∧ RfR w.heap.size (w.heap.size + 1) m ar (some ⟨bp, op, none⟩) cr cp n p0 way step w (.slice a3 n3 c3) (.slice a4 n4 c4) (.slice (some ⟨g5, 0, none⟩) m m) (.slice none 0 0) n3 n4 0 E PL (flgs ps h tm (i + 1)) [] V from
            ⟨PL, by rw [hht]; exact hpi, hpl, by omega, by rw [hnt]; exact hnx, by rw [flgs_keep (h := h) (t := tm) hxo (hf1.trans hf2.symm)]; exact hRV⟩)
          clear HI kf hRR hRV hht hnt hrs hpi hpl hrm hnx hx hxo hf1 hf2
          go_wp2
          go_roundw
          case rel => exact ⟨i + 1, a4, c4, n4, nx, by omega, rfl, rfl, by go_num, hn4, HF.out⟩
          case measure => simp [intOf]; omega
        have hf1 : flg h (u, t1) = 0 := by unfold flg; rw [if_neg hA]
        rw [hf1] at kf
        have kf' : V.cell? ⟨g5, i, none⟩ = some (.int .i64 0) := kf
        clear kf
        by_cases hC : tm < t1
        · have hf2 : flg tm (u, t1) = 0 := by unfold flg; rw [if_neg (by show ¬ t1 ≤ tm; omega)]
          rw [if_neg (by omega)] at hht hrs
          rw [if_pos hC] at hnt
          have HF := hid (show ∃ PL : List Int, PinsIs PL (hearS (ps.take (i + 1)) h tm c.pins) ∧ PL.length = n4 ∧ n4 + room ps h tm (i + 1) ≤ m ∧ min nx t1 = (ps.take (i + 1)).foldl (next1 tm) neverI ∧ RfR w.heap.size (w.heap.size + 1) m ar (some ⟨bp, op, none⟩) cr cp n p0 way step w (.slice a3 n3 c3) (.slice a4 n4 c4) (.slice (some ⟨g5, 0, none⟩) m m) (.slice none 0 0) n3 n4 0 E PL (flgs ps h tm (i + 1)) [] V from
            ⟨PL, by rw [hht]; exact hpi, hpl, by omega, by rw [hnt, hnx], by rw [flgs_keep (h := h) (t := tm) hxo (hf1.trans hf2.symm)]; exact hRV⟩)
          clear HI hRR hRV hht hnt hrs hpi hpl hrm hnx hx hxo hf1 hf2
          go_wp2
          go_roundw
          case rel => exact ⟨i + 1, a4, c4, n4, _, by omega, rfl, rfl, by go_num, hn4, HF.out⟩
          case measure => simp [intOf]; omega
        have hB : t1 ≤ tm := by omega
        rw [if_pos (by omega)] at hht hrs
        rw [if_neg hC] at hnt
        obtain ⟨o5, gs⟩ := hRV.own5.stored i (.int .i64 1)
        rw [← List.map_set, flgs_set hxo hB] at o5
        have hR2 := hRV.put5 gs o5
        have hfA : (flgs ps h tm (i + 1))[i]? = some 1 := by
          rw [← flgs_set hxo hB, List.getElem?_set_self]
          rw [flgs_len _ _ _ (by rw [← HM.out]; omega), ← HM.out]; exact hlt
        have kz := World.ownsRow.cellAt hR2.own5 i (by omega)
        rw [List.getElem?_map, hfA] at kz
        have kz' : (V.setCell ⟨g5, i, none⟩ (.int .i64 1)).cell? ⟨g5, i, none⟩ = some (.int .i64 1) := kz
        have xp2 := xp.other (a := ⟨g5, i, none⟩) (by show wr.heap.size ≠ g5; omega) (.int .i64 1)
        have HX := hid (And.intro hR2 (And.intro hfA (And.intro hht (And.intro hnt (And.intro hrs (And.intro hpi (And.intro hpl (And.intro hrm hnx))))))))
        clear kz o5 gs hRV hRR HI hR2 hfA hht hnt hrs hpi hpl hrm hnx hx hxo hf1
        go_upto_region 12 with fail
        clear ff kf' k0 k1 k2 k3 k4 l0 l1 l2 l3 l4 e0 e1 xp x1 x1V
        generalize V.setCell ⟨g5, i, none⟩ (.int .i64 1) = V2 at *
        clear hV
        obtain ⟨hR2, hfA, hht, hnt, hrs, hpi, hpl, hrm, hnx⟩ := HX.out
        have hin := in_any a4 c4 PL u V2 (own_intsA hR2.own4 hpl (by omega) hpi.rng)
        rw [hpl] at hin
        obtain ⟨r, hr⟩ : ∃ r, r = inB u PL := ⟨_, rfl⟩
        rw [← hr] at hin
        have HRB := hid hr
        have e0 := xp2.cell 0 rfl; have e1 := xp2.cell 1 rfl
        clear hR2 hfA hht hnt hrs hpi hpl hrm hnx hr
        go_wp2_with fail
        refine hin.mono ?_
        rintro e V3 ⟨rfl, hb3⟩
        clear hin e0 e1
        obtain ⟨hR2, hfA, hht, hnt, hrs, hpi, hpl, hrm, hnx⟩ := HX.out
        have hR3 := hR2.below hb3
        have kf3 := Below.keep hb3 kz'
        have x3 := xp2.below hb3
        have e0 := x3.cell 0 rfl; have e1 := x3.cell 1 rfl
        clear HX hR2 kz' xp2
        cases r
        · have hb4 := below_one (w := V3) (.cells #[.int .i64 u] 3)
          have hR4 := hR3.below hb4
          have own4 := hR4.own4
          have hcl := Cls.of_bx (Bx.new V3 #[.int .i64 u] 3)
          have hbs : w.heap.size + 1 ≤ (V3.alloc (.cells #[.int .i64 u] 3)).heap.size := by have h1 := hR4.own5.lt g5 rfl; omega
          have x4 := x3.below hb4
          have hn5 : n4 + 1 ≤ 13 := by omega
          have hpn : PinsIs (PL ++ [u]) (hearS (ps.take (i + 1)) h tm c.pins) := by rw [hht]; exact hpi.new ⟨hpr.1, hpr.2.1⟩
          have hpl5 : (PL ++ [u]).length = n4 + 1 := by rw [List.length_append, hpl]; rfl
          have hrm5 : n4 + 1 + room ps h tm (i + 1) ≤ m := by omega
          have hnx5 : nx = (ps.take (i + 1)).foldl (next1 tm) neverI := by rw [hnt]; exact hnx
          have HXX := hid (And.intro hR4 (And.intro hfA (And.intro hpn (And.intro hpl5 (And.intro hrm5 hnx5)))))
          clear hR3 hR4 hpn hpl5 hrm5 hnx5 hfA hht hnt hrs hpi hpl hrm hnx kf3 hb3
          go_wp2_with (at_builtin; refine wpList_appAt rfl (.tmp 55) (.tmp 58) 35 rfl (w.heap.size + 1) 3 j0 (.int .i64 0) 1 8 under35 hj jz0 jz1 jz2 rfl (by decide) (.slice a4 n4 c4) n4 _ rfl own4 (some ⟨V3.heap.size, 0, none⟩) 1 1 [.int .i64 u] rfl rfl hcl (by simp; rfl) (by unfold maxLen; omega) (by omega) hbs ?_; intro v5 W5 hown5 hg5 hat; obtain ⟨a5, c5, rfl, kf5, HF⟩ := rf_app HXX.out.1 hown5 hg5 hat hlt HXX.out.2.1; clear hown5 hg5 hat own4 hcl)
          go_roundw
          case rel => exact ⟨i + 1, a5, c5, n4 + 1, nx, by omega, rfl, rfl, by go_num, hn5, PL ++ [u], HXX.out.2.2.1, HXX.out.2.2.2.1, HXX.out.2.2.2.2.1, HXX.out.2.2.2.2.2, HF.out⟩
          case measure => simp [intOf]; omega
        · have HF := hid (show ∃ PL : List Int, PinsIs PL (hearS (ps.take (i + 1)) h tm c.pins) ∧ PL.length = n4 ∧ n4 + room ps h tm (i + 1) ≤ m ∧ nx = (ps.take (i + 1)).foldl (next1 tm) neverI ∧ RfR w.heap.size (w.heap.size + 1) m ar (some ⟨bp, op, none⟩) cr cp n p0 way step w (.slice a3 n3 c3) (.slice a4 n4 c4) (.slice (some ⟨g5, 0, none⟩) m m) (.slice none 0 0) n3 n4 0 E PL (flgs ps h tm (i + 1)) [] V3 from
            ⟨PL, by rw [hht]; exact hpi.old (inB_iff.1 HRB.out.symm), hpl, by omega, by rw [hnt]; exact hnx, hR3⟩)
          clear hR3 hfA hht hnt hrs hpi hpl hrm hnx
          go_wp2
          go_roundw
          case rel => exact ⟨i + 1, a4, c4, n4, nx, by omega, rfl, rfl, by go_num, hn4, HF.out⟩
          case measure => simp [intOf]; omega
      · have him : i = m := by omega
        have hiI : (m : Int) ≤ (i : Int) := by omega
        have hps : ps.take i = ps := List.take_of_length_le (by have := HM.out; omega)
        rw [hps] at hpi hnx
        have hrm' : n4 + yet ps tm ≤ m := by
          have e := room_end ps h tm
          rw [← HM.out, ← him] at e
          omega
        have hRF : flgs ps h tm i = ps.map (flg tm) := by
          rw [him, HM.out]
          exact flgs_end ps h tm
        rw [hRF] at hRR
        obtain ⟨hrl, hEE, hel, hcp, hcy, hct, hh⟩ := HC.out
        obtain ⟨hT, hK, hE0⟩ := HALL.out
        have hnn := next_never (t := tm) (fun p hp => (HPS.out p hp).2.2.2)
        rw [hnn] at hnx
        have hdp : (hearC T c).pins = hearS ps h tm c.pins := by
          show hearS T.prs c.heard c.time c.pins = _
          rw [hT.T2, ← hh, hct]
        rw [← hdp] at hpi
        have hdh : (hearC T c).heard = tm := hct
        obtain ⟨f', hf', hidle, hgo⟩ := rel_next hT.hv hK hrl
        have hrr : refRun T gk c = if noneSet (hearC T c).pins then idleE T (hearC T c) :: (if nextP T.prs (hearC T c).time = maxI then [] else refRun T f' { hearC T c with time := nextP T.prs (hearC T c).time }) else (rround T (hearC T c)).1 ++ refRun T f' (rround T (hearC T c)).2 := by
          rw [hf']; rfl
        have k0 := x1.cell 0 rfl; have k1 := x1.cell 1 rfl; have k2 := x1.cell 2 rfl; have k3 := x1.cell 3 rfl; have k4 := x1.cell 4 rfl
        by_cases hns : noneSet (hearC T c).pins = true
        · have hn0 : n4 = 0 := by rw [← hpl, hpi.isNone.1 hns]; rfl
          subst hn0
          rw [if_pos hns] at hrr
          have hdt : (hearC T c).time = tm := hct
          rw [hdt, hT.T2] at hrr
          rw [hct, hT.T2] at hidle
          have hidle' := hidle hns
          have hev : idleE T (hearC T c) = ⟨tm, nx, (pos : Int), y, -2⟩ := by
            unfold idleE
            show Ev.mk c.time (if nextP T.prs c.time = maxI then neverI else nextP T.prs c.time) ((c.pos : Nat) : Int) (wayI c.up) (-2) = _
            rw [hct, hcp, hcy, hT.T2, ← hnx]
          rw [hev] at hrr
          have hb4 := below_one (w := wr) (.cells #[.int .i64 tm, .int .i64 nx, .int .i64 (pos : Int), .int .i64 y, .int .i64 (-2)] 90)
          have hR4 := hRR.below hb4
          have own3 := hR4.own3
          have hcl := Cls.of_bx (Bx.new wr #[.int .i64 tm, .int .i64 nx, .int .i64 (pos : Int), .int .i64 y, .int .i64 (-2)] 90)
          have hbs : w.heap.size + 1 ≤ (wr.alloc (.cells #[.int .i64 tm, .int .i64 nx, .int .i64 (pos : Int), .int .i64 y, .int .i64 (-2)] 90)).heap.size := by have h1 := hR4.own5.lt g5 rfl; omega
          by_cases hmx : nextP ps tm = maxI
          · rw [if_pos hmx] at hrr hnx
            have hnx' : nx = 1099511627776 := hnx
            subst hnx'
            have hE1 : E0 = E ++ [⟨tm, 1099511627776, (pos : Int), y, -2⟩] := by rw [← hEE, hrr]
            have HXX := hid (And.intro hR4 (And.intro hel hE1))
            clear HI HC HALL hR4 hel hE1 hRR hpi hpl hrm hnx hrl hEE hcp hcy hct hh hT hK hE0 hnn hdp hdh hf' hidle hgo hrr hidle' hev hb4 hmx hns hdt hps hrm' hRF
            go_wp2_with (at_builtin; refine wpList_appAt rfl (.tmp 72) (.tmp 78) 87 rfl (w.heap.size + 1) 90 i0 (.agg #[.int .i64 0, .int .i64 0, .int .i64 0, .int .i64 0, .int .i64 0]) 5 40 under87 hi0 iz0 iz1 iz2 rfl (by decide) (.slice a3 n3 c3) n3 _ rfl own3 (some ⟨wr.heap.size, 0, none⟩) 1 1 (ecell ⟨tm, 1099511627776, (pos : Int), y, -2⟩) rfl rfl hcl (ecell_one _) (by unfold maxLen; omega) (by omega) hbs ?_; intro v5 W5 hown5 hg5 hat; obtain ⟨a5, c5, rfl, HF⟩ := rf_ev _ HXX.out.1 hown5 hg5 hat; clear hown5 hg5 hat own3 hcl)
            go_ret
            obtain ⟨_, hel, hE1⟩ := HXX.out
            exact ⟨HF.out.hb, a5, c5, by rw [hE1, List.length_append, hel]; rfl, by rw [hE1]; exact Evs.of_own HF.out.own3 (by rw [List.length_append, hel]; rfl) (by omega), fun ad had => by have := own_new2 HF.out.own3 ad had; omega⟩
          · rw [if_neg hmx] at hrr hnx
            obtain ⟨j', hrl'⟩ := hidle' hmx
            have hbn := hrl'.bounds hK
            have hnb : 0 ≤ nx ∧ nx ≤ 3000000 := by rw [hnx]; exact ⟨hbn.1, hbn.2.1⟩
            have hPE := hpi.isNone.1 hns
            subst hPE
            have hEE' : (E ++ [⟨tm, nx, (pos : Int), y, -2⟩]) ++ refRun T f' { hearC T c with time := nextP ps tm } = E0 := by
              rw [← hEE, hrr, List.append_assoc]; rfl
            have HY := hid (And.intro hrl' (And.intro hEE' (And.intro hpi (And.intro (show (E ++ [(⟨tm, nx, (pos : Int), y, -2⟩ : Ev)]).length = n3 + 1 by rw [List.length_append, hel]; rfl) (And.intro (show 0 + yet ps ({ hearC T c with time := nextP ps tm } : Car).heard ≤ m by rw [show ({ hearC T c with time := nextP ps tm } : Car).heard = tm from hct]; exact hrm') (And.intro hcp (And.intro hcy (And.intro hnx.symm hct))))))))
            have HXX := hid (And.intro hR4 hel)
            have hmeas : f' < gk := by omega
            have hn3' : n3 + 1 + 2 * f' ≤ 5400 := by omega
            clear HI HC HALL hR4 hel hRR hpi hpl hrm hnx hrl hEE hcp hcy hct hh hT hK hE0 hnn hdp hdh hf' hidle hgo hrr hidle' hev hb4 hmx hns hdt hps hrm' hRF hrl' hEE' hbn
            go_wp2_with (at_builtin; refine wpList_appAt rfl (.tmp 72) (.tmp 78) 87 rfl (w.heap.size + 1) 90 i0 (.agg #[.int .i64 0, .int .i64 0, .int .i64 0, .int .i64 0, .int .i64 0]) 5 40 under87 hi0 iz0 iz1 iz2 rfl (by decide) (.slice a3 n3 c3) n3 _ rfl own3 (some ⟨wr.heap.size, 0, none⟩) 1 1 (ecell ⟨tm, nx, (pos : Int), y, -2⟩) rfl rfl hcl (ecell_one _) (by unfold maxLen; omega) (by omega) hbs ?_; intro v5 W5 hown5 hg5 hat; obtain ⟨a5, c5, rfl, HF⟩ := rf_ev _ HXX.out.1 hown5 hg5 hat; clear hown5 hg5 hat own3 hcl)
            go_roundg f'
            case measure => exact hmeas
            case rel =>
              obtain ⟨h1, h2, h3, h4, h5, h6, h7, h8, h9⟩ := HY.out
              exact ⟨a5, a4, c5, c4, n3 + 1, 0, pos, y, nx, rfl, rfl, rfl, rfl, rfl, Nat.zero_le _, hy, hpos, hnb.1, hnb.2, hn3', j', _, _, [], h1, h2, h3, rfl, h4, h5, h6, h7, h8, by rw [show ({ hearC T c with time := nextP ps tm } : Car).heard = tm from h9]; exact HF.out⟩
        · rw [if_neg hns] at hrr
          obtain ⟨j', hrl'⟩ := hgo (by simpa using hns)
          have hn0 : 0 < n4 := by
            rcases Nat.eq_zero_or_pos n4 with h0 | h0
            · exact absurd (hpi.isNone.2 (List.length_eq_zero_iff.1 (by rw [hpl, h0]))) hns
            · exact h0
          have hn0I : (0 : Int) < (n4 : Int) := by omega
          obtain ⟨sd, hsd⟩ : ∃ sd, sd = sideAt c.up c.pos := ⟨_, rfl⟩
          have hsl : sd < 2 * n := by rw [hsd, hcp]; exact side_lt hpos
          have hSA : ∀ V, Calls Try.prog 31 #[.int .i64 (pos : Int), .int .i64 y] V fun e w' => e = .returned (.int .i64 (sd : Nat)) ∧ V = w' := fun V => by
            have h1 := SideAt_any c.pos c.up V (by omega)
            rw [← hsd] at h1
            rw [← hcp, ← hcy]
            exact h1
          have hin := in_any a4 c4 PL (sd : Int) wr (own_intsA hRR.own4 hpl (by omega) hpi.rng)
          rw [hpl] at hin
          obtain ⟨r, hr⟩ : ∃ r, r = inB (sd : Int) PL := ⟨_, rfl⟩
          rw [← hr] at hin
          have hrp : r = (hearC T c).pins sd := by
            rw [hr, Bool.eq_iff_iff, inB_iff]; exact hpi.mem sd
          obtain ⟨d, hd⟩ : ∃ d, d = hearC T c := ⟨_, rfl⟩
          have hd1 : d.pos = pos := by rw [hd]; exact hcp
          have hd2 : wayI d.up = y := by rw [hd]; exact hcy
          have hd3 : d.time = tm := by rw [hd]; exact hct
          have hd4 : d.heard = tm := by rw [hd]; exact hct
          have hd5 : sideAt d.up d.pos = sd := by rw [hd, hsd]; rfl
          rw [← hd] at hrp hpi hrl' hrr
          have hmeas : f' < gk := by omega
          have hTr : T.rcs = rs := hT.T1
          have hsb := secs_le hT.hv (k := sd) (by rw [hT.T1, ← HN.out]; exact hsl)
          have HD := hid (And.intro hRR (And.intro hpi (And.intro hpl (And.intro hrm' (And.intro hrp (And.intro hrr (And.intro hrl' (And.intro hd1 (And.intro hd2 (And.intro hd3 (And.intro hd4 (And.intro hd5 (And.intro hEE (And.intro hel hTr))))))))))))))
          have hT4 := hT.hv.st
          rw [hT.T3] at hT4
          have hT1n : T.rcs.length = n := by rw [hTr, HN.out]
          have hE00 := hE0
          have HTN := hid hT1n
          clear HI HC hRR hpi hpl hrm hnx hrl hEE hcp hcy hct hh hT hK hE0 hnn hdp hdh hf' hidle hgo hrr hns hps hrm' hRF hrl' hel hr hrp hd hd1 hd2 hd3 hd4 hd5 hsd hTr hT1n hE00
          go_wp2_with fail
          refine (hSA _).mono ?_
          rintro e V3 ⟨rfl, rfl⟩
          clear hSA
          go_wp2_with fail
          refine hin.mono ?_
          rintro e V3 ⟨rfl, hb3⟩
          clear hin k0 k1 k2 k3 k4
          cases r
          · obtain ⟨hRR, hpi, hpl, hrm', hrp, hrr, hrl', hd1, hd2, hd3, hd4, hd5, hEE, hel, hTr⟩ := HD.out
            have hro : rround T d = ((rmove T d).1, (rmove T d).2) := by
              unfold rround rplay
              rw [hd5, ← hrp]
              rfl
            rw [hro] at hrr hrl'
            obtain ⟨e0, he0⟩ : ∃ e0, e0 = d := ⟨_, rfl⟩
            subst he0
            have hnB := hn4
            have hyB := hrm'
            have hn3' : n3 + 1 + 2 * f' ≤ 5400 := by omega
            have HMV := hid (And.intro (hRR.below hb3) (And.intro hpi (And.intro hpl (And.intro hel (And.intro hd1 (And.intro hd2 (And.intro hd3 (And.intro hd4 (And.intro (show (E ++ (rmove T e0).1) ++ refRun T f' (rmove T e0).2 = E0 by rw [List.append_assoc, ← hrr]; exact hEE) (And.intro hrl' HTN.out))))))))))
            clear hRR hpi hpl hrm' hrp hrr hrl' hd1 hd2 hd3 hd4 hd5 hEE hel hTr hro HD hb3
            obtain ⟨q, hq⟩ : ∃ q : Int, q = (pos : Int) + y := ⟨_, rfl⟩
            have ewq : IntKind.i64.wrap ((pos : Int) + y) = q := by rw [hq]; exact IntWalk.i64_in _ (by omega)
            have ewn : IntKind.i64.wrap ((n : Int) - 1) = (n : Int) - 1 := IntWalk.i64_in _ (by omega)
            have hwi := fun V => within_any q 0 ((n : Int) - 1) V
            obtain ⟨bm, hbm⟩ : ∃ bm, bm = inR 0 q ((n : Int) - 1) := ⟨_, rfl⟩
            rw [← hbm] at hwi
            have HQ := hid (And.intro hq hbm)
            have y1 := HMV.out.1.x1
            have l0 := y1.cell 0 rfl; have l1 := y1.cell 1 rfl; have l2 := y1.cell 2 rfl; have l3 := y1.cell 3 rfl; have l4 := y1.cell 4 rfl
            clear hq hbm
            go_wp2_with fail
            refine (hwi _).mono ?_
            rintro e V7 ⟨rfl, rfl⟩
            clear hwi ewq ewn
            cases bm
            · have ewy : IntKind.i64.wrap (-y) = -y := IntWalk.i64_in _ (by omega)
              have hy2 : -y = 1 ∨ -y = -1 := by omega
              go_wp2
              go_roundg f'
              case measure => exact hmeas
              case rel =>
                obtain ⟨hR1, q1, q2, q3, q4, q5, q6, q7, q8, q9, q10⟩ := HMV.out
                obtain ⟨hq, hbm⟩ := HQ.out
                obtain ⟨m1, _⟩ := move_pos (n := n) (up := e0.up) (pos := pos) hpos
                rw [q5, ← hq, ← hbm] at m1
                have hrm : rmove T e0 = ([], { e0 with up := !e0.up }) := by
                  unfold rmove
                  rw [q4, q10, ← m1]
                  rfl
                rw [hrm] at q8 q9
                have hbn := q9.bounds HALL.out.2.1
                exact ⟨a3, a4, c3, c4, n3, n4, pos, -y, tm, rfl, rfl, rfl, rfl, rfl, hnB, hy2, hpos, by rw [← q6]; exact hbn.1, by rw [← q6]; exact hbn.2.1, by omega, j', { e0 with up := !e0.up }, _, _, q9, by simpa using q8, q1, q2, q3, by rw [show ({ e0 with up := !e0.up } : Car).heard = tm from q7]; exact hyB, q4, by rw [← q5]; unfold wayI; cases e0.up <;> rfl, q6, by rw [show ({ e0 with up := !e0.up } : Car).heard = tm from q7]; exact hR1⟩
            · have hR1 := HMV.out.1
              obtain ⟨tm2, htm2⟩ : ∃ t2 : Int, t2 = tm + step := ⟨_, rfl⟩
              have ew2 : IntKind.i64.wrap (tm + step) = tm2 := by rw [htm2]; exact IntWalk.i64_in _ (by omega)
              have HT2 := hid htm2
              have hb4 := below_one (w := V3) (.cells #[.int .i64 tm, .int .i64 tm2, .int .i64 (pos : Int), .int .i64 y, .int .i64 (-1)] 90)
              have hR4 := hR1.below hb4
              have own3 := hR4.own3
              have hcl := Cls.of_bx (Bx.new V3 #[.int .i64 tm, .int .i64 tm2, .int .i64 (pos : Int), .int .i64 y, .int .i64 (-1)] 90)
              have hbs : w.heap.size + 1 ≤ (World.alloc V3 (.cells #[.int .i64 tm, .int .i64 tm2, .int .i64 (pos : Int), .int .i64 y, .int .i64 (-1)] 90)).heap.size := by have h1 := hR4.own5.lt g5 rfl; omega
              have HXX := hid hR4
              clear hR1 hR4 hb4 htm2
              go_wp2_with (at_builtin; refine wpList_appAt rfl (.tmp 137) (.tmp 146) 87 rfl (w.heap.size + 1) 90 i0 (.agg #[.int .i64 0, .int .i64 0, .int .i64 0, .int .i64 0, .int .i64 0]) 5 40 under87 hi0 iz0 iz1 iz2 rfl (by decide) (.slice a3 (n3) c3) (n3) _ rfl own3 (some ⟨V3.heap.size, 0, none⟩) 1 1 (ecell ⟨tm, tm2, (pos : Int), y, -1⟩) rfl rfl hcl (ecell_one _) (by unfold maxLen; omega) (by omega) hbs ?_; intro v5 W5 hown5 hg5 hat; obtain ⟨a7, c7, rfl, HF⟩ := rf_ev _ HXX.out hown5 hg5 hat; clear hown5 hg5 hat own3 hcl)
              have hbd := (Below.refl W5.heap.size W5).drew
              have HF1 := hid (HF.out.below hbd)
              have S0 := HF1.out.x1
              clear hbd HF l0 l1 l2 l3 l4 y1
              refine wp_region_head 6 (fun w' => Bx w' w.heap.size #[.slice ar n cr, .int .i64 p0, .int .i64 way, .int .i64 step, .slice ap m cp] 25) (by kernel_rfl) rfl ?_
              generalize W5.drew = Y5 at *
              refine HeadAt.take (i := 0) (.int .i64 q) rfl (by kernel_rfl) (.inl ⟨rfl, fun _ _ => by simp [go_sem]⟩) S0 ?_
              refine HeadAt.take (i := 1) (.int .i64 tm) rfl (by kernel_rfl) (.inl ⟨rfl, fun _ _ => by simp [go_sem]⟩) S0 ?_
              refine HeadAt.take (i := 2) (.pointer (some ⟨w.heap.size, 3, none⟩)) rfl (by kernel_rfl) (.inl ⟨rfl, fun _ _ => by simp [go_sem]⟩) S0 ?_
              simp only [Act.put, List.getElem_toArray, List.getElem_cons_succ, List.getElem_cons_zero, List.setIfInBounds_toArray, List.set_cons_succ, List.set_cons_zero]
              refine HeadAt.take (i := 3) (.int .i64 step) rfl (by kernel_rfl) (.inl ⟨rfl, fun w' z => ?_⟩) S0 ?_
              · (have z0 := z.cell 3 rfl; simp [go_sem, z0])
              refine HeadAt.take (i := 4) (.int .i64 tm2) rfl (by kernel_rfl) (.inl ⟨rfl, fun w' z => ?_⟩) S0 ?_
              · (simp [go_sem, ew2])
              simp only [Act.put, List.getElem_toArray, List.getElem_cons_succ, List.getElem_cons_zero, List.setIfInBounds_toArray, List.set_cons_succ, List.set_cons_zero]
              refine HeadAt.take (i := 5) (.int .i64 q) rfl (by kernel_rfl) (.inl ⟨rfl, fun _ _ => by simp [go_sem]⟩) S0 ?_
              refine HeadAt.done (by kernel_rfl) ?_
              (try simp only [Act.put, List.drop_succ_cons, List.drop_zero, List.getElem_toArray, List.getElem_cons_succ, List.getElem_cons_zero])
              clear S0
              go_wp2_with fail
              refine NoPanic.normal ?_
              go_wp2
              go_roundg f'
              case measure => exact hmeas
              case rel =>
                obtain ⟨_, q1, q2, q3, q4, q5, q6, q7, q8, q9, q10⟩ := HMV.out
                obtain ⟨hq, hbm⟩ := HQ.out
                obtain ⟨m1, m2⟩ := move_pos (n := n) (up := e0.up) (pos := pos) hpos
                rw [q5, ← hq] at m2
                rw [q5, ← hq, ← hbm] at m1
                obtain ⟨m3, m4⟩ := m2 m1.symm
                have hrm : rmove T e0 = ([⟨tm, tm2, (pos : Int), y, -1⟩], { e0 with pos := (if e0.up then pos + 1 else pos - 1 : Nat), time := tm2, steps := e0.steps + 1 }) := by
                  unfold rmove
                  rw [q4, q10, ← m1, if_pos rfl, q5, q6, HALL.out.1.T3, ← HT2.out]
                rw [hrm] at q8 q9
                have hbn := q9.bounds HALL.out.2.1
                exact ⟨a7, a4, c7, c4, n3 + 1, n4, (if e0.up then pos + 1 else pos - 1 : Nat), y, tm2, rfl, rfl, by rw [m3], rfl, rfl, hnB, hy, m4, hbn.1, hbn.2.1, by omega, j', _, _, _, q9, q8, q1, q2, by rw [List.length_append, q3]; rfl, by rw [show ({ e0 with pos := (if e0.up then pos + 1 else pos - 1 : Nat), time := tm2, steps := e0.steps + 1 } : Car).heard = tm from q7]; exact hyB, rfl, q5, rfl, by rw [show ({ e0 with pos := (if e0.up then pos + 1 else pos - 1 : Nat), time := tm2, steps := e0.steps + 1 } : Car).heard = tm from q7]; exact HF1.out⟩
          · have hR3 := HD.out.1.below hb3
            have hpl := HD.out.2.2.1
            have hrg := HD.out.2.1.rng
            have hb0 := HD.out.1.hb
            have HR := hid hR3
            have HPL := hid hpl; have HRG := hid hrg
            clear hR3 hpl hrg hb0 hb3
            go_wp2
            go_loopw [13, 14] (fun v13 v14 wr => ∃ (i : Nat) (a6 : Option Addr) (c6 n6 : Nat), i ≤ n4 ∧ v13 = .slice a6 n6 c6 ∧ v14 = .int .i64 (i : Int) ∧ n6 ≤ i ∧
              Hid (∃ LL : List Int, LL = without (PL.take i) (sd : Int) ∧ LL.length = n6 ∧
                RfR w.heap.size (w.heap.size + 1) m ar ap cr cp n p0 way step w (.slice a3 n3 c3) (.slice a4 n4 c4) (.slice (some ⟨g5, 0, none⟩) m m) (.slice a6 n6 c6) n3 n4 n6 E PL (ps.map (flg tm)) LL wr)) (fun _ v14 _ => n4 - (intOf v14).toNat)
            case atStart => exact ⟨0, none, 0, 0, Nat.zero_le _, rfl, rfl, Nat.le_refl _, [], rfl, rfl, HR.out⟩
            case round =>
              clear HR
              obtain ⟨i, a6, c6, n6, hi, rfl, rfl, hn6i, HI⟩ := hrel
              obtain ⟨LL, hLL, hll, hRR⟩ := HI.out
              by_cases hlt : i < n4
              · have hiI : (i : Int) < (n4 : Int) := by omega
                have hi0 : (0 : Int) ≤ (i : Int) := by omega
                have hints := own_intsA hRR.own4 HPL.out (by omega) HRG.out
                obtain ⟨b4, o4, x, rfl, _, hx, hxb, _, hxi, _⟩ := hints.at (show i < PL.length by rw [HPL.out]; exact hlt)
                have htk := take_snocI hxi.out
                by_cases hxs : x = (sd : Int)
                · have HF := hid (show ∃ LL : List Int, LL = without (PL.take (i + 1)) (sd : Int) ∧ LL.length = n6 ∧ RfR w.heap.size (w.heap.size + 1) m ar ap cr cp n p0 way step w (.slice a3 n3 c3) (.slice (some ⟨b4, o4, none⟩) n4 c4) (.slice (some ⟨g5, 0, none⟩) m m) (.slice a6 n6 c6) n3 n4 n6 E PL (ps.map (flg tm)) LL wr from
                    ⟨LL, by rw [htk, without_snoc, if_neg (by simp [hxs])]; exact hLL, hll, hRR⟩)
                  clear HI hRR hLL hll hints htk hxi
                  subst hxs
                  go_wp2
                  go_roundw
                  case rel => exact ⟨i + 1, a6, c6, n6, by omega, rfl, by go_num, by omega, HF.out⟩
                  case measure => simp [intOf]; omega
                · have hb4 := below_one (w := wr) (.cells #[.int .i64 x] 3)
                  have hR4 := hRR.below hb4
                  have own6 := hR4.own6
                  have hcl := Cls.of_bx (Bx.new wr #[.int .i64 x] 3)
                  have hbs : w.heap.size + 1 ≤ (wr.alloc (.cells #[.int .i64 x] 3)).heap.size := by have h1 := hR4.own5.lt g5 rfl; omega
                  have HXX := hid (And.intro hR4 (And.intro (show LL ++ [x] = without (PL.take (i + 1)) (sd : Int) by rw [htk, without_snoc, if_pos hxs, ← hLL]) (show (LL ++ [x]).length = n6 + 1 by rw [List.length_append, hll]; rfl)))
                  clear HI hRR hR4 hLL hll hints htk hxi hb4
                  go_wp2_with (at_builtin; refine wpList_appAt rfl (.tmp 102) (.tmp 107) 35 rfl (w.heap.size + 1) 3 j0 (.int .i64 0) 1 8 under35 hj jz0 jz1 jz2 rfl (by decide) (.slice a6 n6 c6) n6 _ rfl own6 (some ⟨wr.heap.size, 0, none⟩) 1 1 [.int .i64 x] rfl rfl hcl (by simp; rfl) (by unfold maxLen; omega) (by omega) hbs ?_; intro v5 W5 hown5 hg5 hat; obtain ⟨a5, c5, rfl, HF⟩ := rf_app6 HXX.out.1 hown5 hg5 hat; clear hown5 hg5 hat own6 hcl)
                  go_roundw
                  case rel => exact ⟨i + 1, a5, c5, n6 + 1, by omega, rfl, by go_num, by omega, _, HXX.out.2.1, HXX.out.2.2, HF.out⟩
                  case measure => simp [intOf]; omega
              · have hie : i = n4 := by omega
                have hiI : (n4 : Int) ≤ (i : Int) := by omega
                rw [hie, List.take_of_length_le (by rw [HPL.out]; exact Nat.le_refl _)] at hLL
                have hR6 := hRR.turn
                obtain ⟨_, hpi, hpl, hrm', hrp, hrr, hrl', hd1, hd2, hd3, hd4, hd5, hEE, hel, hTr⟩ := HD.out
                obtain ⟨sc, hsc⟩ : ∃ sc, sc = secs T sd := ⟨_, rfl⟩
                have hSC : ∀ V, Prs V ar rs → Prs V ap ps → Calls Try.prog 23 #[.agg #[.slice ar n cr, .int .i64 p0, .int .i64 way, .int .i64 step, .slice ap m cp], .int .i64 (sd : Int)] V fun e w' => e = .returned (.int .i64 sc) ∧ Below V.heap.size V w' := fun V h1 h2 => by
                  have h3 := Seconds_any ar ap cr cp rs ps p0 way step sd V h1 h2 T hTr (by rw [← HN.out]; exact hsl) (by rw [← HN.out]; exact hn6)
                  rw [← HN.out, ← HM.out, ← hsc] at h3
                  exact h3
                rw [← hsc] at hsb
                obtain ⟨tm1, htm1⟩ : ∃ t1 : Int, t1 = tm + sc := ⟨_, rfl⟩
                have ew1 : IntKind.i64.wrap (tm + sc) = tm1 := by rw [htm1]; exact IntWalk.i64_in _ (by omega)
                obtain ⟨e0, he0⟩ : ∃ e0 : Car, e0 = { playC T d sd with side := -1 } := ⟨_, rfl⟩
                have hro : rround T d = (⟨tm, tm1, (pos : Int), y, (sd : Int)⟩ :: (rmove T e0).1, (rmove T e0).2) := by
                  unfold rround rplay
                  rw [hd5, ← hrp, if_pos rfl, hd3, hd1, hd2, ← hsc, ← htm1, ← he0]
                  rfl
                rw [hro] at hrr hrl'
                have hpn : PinsIs LL e0.pins := by rw [he0, hLL]; exact hpi.without sd
                have hnB : n6 ≤ 13 := by omega
                have hyB : n6 + yet ps tm ≤ m := by
                  have h1 := without_len PL (sd : Int)
                  rw [← hLL, hll, hpl] at h1
                  omega
                have htm1b : 0 ≤ tm1 ∧ tm1 ≤ 3001000 := by omega
                have HPR := hid (And.intro hpn (And.intro hll (And.intro (show (E ++ [(⟨tm, tm1, (pos : Int), y, (sd : Int)⟩ : Ev)]).length = n3 + 1 by rw [List.length_append, hel]; rfl) (And.intro (show e0.pos = pos by rw [he0]; exact hd1) (And.intro (show wayI e0.up = y by rw [he0]; exact hd2) (And.intro (show e0.time = tm1 by rw [he0, htm1, hsc, ← hd3]; rfl) (And.intro (show e0.heard = tm by rw [he0]; exact hd4) (And.intro (show ((E ++ [(⟨tm, tm1, (pos : Int), y, (sd : Int)⟩ : Ev)]) ++ (rmove T e0).1) ++ refRun T f' (rmove T e0).2 = E0 by rw [List.append_assoc, List.append_assoc, ← hEE, hrr]; rfl) (And.intro hrl' HTN.out)))))))))
                have hn3' : n3 + 2 + 2 * f' ≤ 5400 := by omega
                have HR := hid hR6
                have x1 := hRR.x1
                have hbw := hRR.hb
                have k0 := x1.cell 0 rfl; have k1 := x1.cell 1 rfl; have k2 := x1.cell 2 rfl; have k3 := x1.cell 3 rfl; have k4 := x1.cell 4 rfl
                clear hRR hR6 hpi hpl hrm' hrp hrr hrl' hd1 hd2 hd3 hd4 hd5 hEE hel hTr hro HD HI hpn hll hLL he0 htm1 hsc hie hlt
                go_wp2_with fail
                refine (hSC _ (hR.below hbw (Nat.le_refl _)) (hP.below hbw (Nat.le_refl _))).mono ?_
                rintro e V4 ⟨rfl, hb4⟩
                clear k0 k1 k2 k3 k4
                have hR4 := HR.out.below hb4
                have hb5 := below_one (w := V4) (.cells #[.int .i64 tm, .int .i64 tm1, .int .i64 (pos : Int), .int .i64 y, .int .i64 (sd : Int)] 90)
                have hR5 := hR4.below hb5
                have own3 := hR5.own3
                have hcl := Cls.of_bx (Bx.new V4 #[.int .i64 tm, .int .i64 tm1, .int .i64 (pos : Int), .int .i64 y, .int .i64 (sd : Int)] 90)
                have hbs : w.heap.size + 1 ≤ (V4.alloc (.cells #[.int .i64 tm, .int .i64 tm1, .int .i64 (pos : Int), .int .i64 y, .int .i64 (sd : Int)] 90)).heap.size := by have h1 := hR5.own5.lt g5 rfl; omega
                have HXX := hid hR5
                clear HR hR4 hR5 hb4 hb5 x1 hbw
                go_wp2_with (at_builtin; refine wpList_appAt rfl (.tmp 110) (.tmp 121) 87 rfl (w.heap.size + 1) 90 i0 (.agg #[.int .i64 0, .int .i64 0, .int .i64 0, .int .i64 0, .int .i64 0]) 5 40 under87 hi0 iz0 iz1 iz2 rfl (by decide) (.slice a3 n3 c3) n3 _ rfl own3 (some ⟨V4.heap.size, 0, none⟩) 1 1 (ecell ⟨tm, tm1, (pos : Int), y, (sd : Int)⟩) rfl rfl hcl (ecell_one _) (by unfold maxLen; omega) (by omega) hbs ?_; intro v5 W5 hown5 hg5 hat; obtain ⟨a5, c5, rfl, HF⟩ := rf_ev _ HXX.out hown5 hg5 hat; have x1 := HF.out.x1; have hbw := HF.out.hb; have k0 := x1.cell 0 rfl; have k1 := x1.cell 1 rfl; have k2 := x1.cell 2 rfl; have k3 := x1.cell 3 rfl; have k4 := x1.cell 4 rfl; clear hown5 hg5 hat own3 hcl)
                refine (hSC _ (hR.below hbw (Nat.le_refl _)) (hP.below hbw (Nat.le_refl _))).mono ?_
                rintro e V6 ⟨rfl, hb6⟩
                clear k0 k1 k2 k3 k4 x1 hbw hSC HXX
                have HMV := hid (And.intro (HF.out.below hb6) HPR.out)
                clear HF HPR hb6
                obtain ⟨q, hq⟩ : ∃ q : Int, q = (pos : Int) + y := ⟨_, rfl⟩
                have ewq : IntKind.i64.wrap ((pos : Int) + y) = q := by rw [hq]; exact IntWalk.i64_in _ (by omega)
                have ewn : IntKind.i64.wrap ((n : Int) - 1) = (n : Int) - 1 := IntWalk.i64_in _ (by omega)
                have hwi := fun V => within_any q 0 ((n : Int) - 1) V
                obtain ⟨bm, hbm⟩ : ∃ bm, bm = inR 0 q ((n : Int) - 1) := ⟨_, rfl⟩
                rw [← hbm] at hwi
                have HQ := hid (And.intro hq hbm)
                have y1 := HMV.out.1.x1
                have l0 := y1.cell 0 rfl; have l1 := y1.cell 1 rfl; have l2 := y1.cell 2 rfl; have l3 := y1.cell 3 rfl; have l4 := y1.cell 4 rfl
                clear hq hbm
                go_wp2_with fail
                refine (hwi _).mono ?_
                rintro e V7 ⟨rfl, rfl⟩
                clear hwi ewq ewn
                cases bm
                · have ewy : IntKind.i64.wrap (-y) = -y := IntWalk.i64_in _ (by omega)
                  have hy2 : -y = 1 ∨ -y = -1 := by omega
                  go_wp2
                  go_roundg f'
                  case measure => exact hmeas
                  case rel =>
                    obtain ⟨hR1, q1, q2, q3, q4, q5, q6, q7, q8, q9, q10⟩ := HMV.out
                    obtain ⟨hq, hbm⟩ := HQ.out
                    obtain ⟨m1, _⟩ := move_pos (n := n) (up := e0.up) (pos := pos) hpos
                    rw [q5, ← hq, ← hbm] at m1
                    have hrm : rmove T e0 = ([], { e0 with up := !e0.up }) := by
                      unfold rmove
                      rw [q4, q10, ← m1]
                      rfl
                    rw [hrm] at q8 q9
                    have hbn := q9.bounds HALL.out.2.1
                    exact ⟨a5, a6, c5, c6, n3 + 1, n6, pos, -y, tm1, rfl, rfl, rfl, rfl, rfl, hnB, hy2, hpos, by rw [← q6]; exact hbn.1, by rw [← q6]; exact hbn.2.1, by omega, j', { e0 with up := !e0.up }, _, _, q9, by simpa using q8, q1, q2, q3, by rw [show ({ e0 with up := !e0.up } : Car).heard = tm from q7]; exact hyB, q4, by rw [← q5]; unfold wayI; cases e0.up <;> rfl, q6, by rw [show ({ e0 with up := !e0.up } : Car).heard = tm from q7]; exact hR1⟩
                · have hR1 := HMV.out.1
                  obtain ⟨tm2, htm2⟩ : ∃ t2 : Int, t2 = tm1 + step := ⟨_, rfl⟩
                  have ew2 : IntKind.i64.wrap (tm1 + step) = tm2 := by rw [htm2]; exact IntWalk.i64_in _ (by omega)
                  have HT2 := hid htm2
                  have hb4 := below_one (w := V6) (.cells #[.int .i64 tm1, .int .i64 tm2, .int .i64 (pos : Int), .int .i64 y, .int .i64 (-1)] 90)
                  have hR4 := hR1.below hb4
                  have own3 := hR4.own3
                  have hcl := Cls.of_bx (Bx.new V6 #[.int .i64 tm1, .int .i64 tm2, .int .i64 (pos : Int), .int .i64 y, .int .i64 (-1)] 90)
                  have hbs : w.heap.size + 1 ≤ (World.alloc V6 (.cells #[.int .i64 tm1, .int .i64 tm2, .int .i64 (pos : Int), .int .i64 y, .int .i64 (-1)] 90)).heap.size := by have h1 := hR4.own5.lt g5 rfl; omega
                  have HXX := hid hR4
                  clear hR1 hR4 hb4 htm2
                  go_wp2_with (at_builtin; refine wpList_appAt rfl (.tmp 137) (.tmp 146) 87 rfl (w.heap.size + 1) 90 i0 (.agg #[.int .i64 0, .int .i64 0, .int .i64 0, .int .i64 0, .int .i64 0]) 5 40 under87 hi0 iz0 iz1 iz2 rfl (by decide) (.slice a5 (n3 + 1) c5) (n3 + 1) _ rfl own3 (some ⟨V6.heap.size, 0, none⟩) 1 1 (ecell ⟨tm1, tm2, (pos : Int), y, -1⟩) rfl rfl hcl (ecell_one _) (by unfold maxLen; omega) (by omega) hbs ?_; intro v5 W5 hown5 hg5 hat; obtain ⟨a7, c7, rfl, HF⟩ := rf_ev _ HXX.out hown5 hg5 hat; clear hown5 hg5 hat own3 hcl)
                  have hbd := (Below.refl W5.heap.size W5).drew
                  have HF1 := hid (HF.out.below hbd)
                  have S0 := HF1.out.x1
                  clear hbd HF l0 l1 l2 l3 l4 y1
                  refine wp_region_head 6 (fun w' => Bx w' w.heap.size #[.slice ar n cr, .int .i64 p0, .int .i64 way, .int .i64 step, .slice ap m cp] 25) (by kernel_rfl) rfl ?_
                  generalize W5.drew = Y5 at *
                  refine HeadAt.take (i := 0) (.int .i64 q) rfl (by kernel_rfl) (.inl ⟨rfl, fun _ _ => by simp [go_sem]⟩) S0 ?_
                  refine HeadAt.take (i := 1) (.int .i64 tm1) rfl (by kernel_rfl) (.inl ⟨rfl, fun _ _ => by simp [go_sem]⟩) S0 ?_
                  refine HeadAt.take (i := 2) (.pointer (some ⟨w.heap.size, 3, none⟩)) rfl (by kernel_rfl) (.inl ⟨rfl, fun _ _ => by simp [go_sem]⟩) S0 ?_
                  simp only [Act.put, List.getElem_toArray, List.getElem_cons_succ, List.getElem_cons_zero, List.setIfInBounds_toArray, List.set_cons_succ, List.set_cons_zero]
                  refine HeadAt.take (i := 3) (.int .i64 step) rfl (by kernel_rfl) (.inl ⟨rfl, fun w' z => ?_⟩) S0 ?_
                  · (have z0 := z.cell 3 rfl; simp [go_sem, z0])
                  refine HeadAt.take (i := 4) (.int .i64 tm2) rfl (by kernel_rfl) (.inl ⟨rfl, fun w' z => ?_⟩) S0 ?_
                  · (simp [go_sem, ew2])
                  simp only [Act.put, List.getElem_toArray, List.getElem_cons_succ, List.getElem_cons_zero, List.setIfInBounds_toArray, List.set_cons_succ, List.set_cons_zero]
                  refine HeadAt.take (i := 5) (.int .i64 q) rfl (by kernel_rfl) (.inl ⟨rfl, fun _ _ => by simp [go_sem]⟩) S0 ?_
                  refine HeadAt.done (by kernel_rfl) ?_
                  (try simp only [Act.put, List.drop_succ_cons, List.drop_zero, List.getElem_toArray, List.getElem_cons_succ, List.getElem_cons_zero])
                  clear S0
                  go_wp2_with fail
                  refine NoPanic.normal ?_
                  go_wp2
                  go_roundg f'
                  case measure => exact hmeas
                  case rel =>
                    obtain ⟨_, q1, q2, q3, q4, q5, q6, q7, q8, q9, q10⟩ := HMV.out
                    obtain ⟨hq, hbm⟩ := HQ.out
                    obtain ⟨m1, m2⟩ := move_pos (n := n) (up := e0.up) (pos := pos) hpos
                    rw [q5, ← hq] at m2
                    rw [q5, ← hq, ← hbm] at m1
                    obtain ⟨m3, m4⟩ := m2 m1.symm
                    have hrm : rmove T e0 = ([⟨tm1, tm2, (pos : Int), y, -1⟩], { e0 with pos := (if e0.up then pos + 1 else pos - 1 : Nat), time := tm2, steps := e0.steps + 1 }) := by
                      unfold rmove
                      rw [q4, q10, ← m1, if_pos rfl, q5, q6, HALL.out.1.T3, ← HT2.out]
                    rw [hrm] at q8 q9
                    have hbn := q9.bounds HALL.out.2.1
                    exact ⟨a7, a6, c7, c6, n3 + 1 + 1, n6, (if e0.up then pos + 1 else pos - 1 : Nat), y, tm2, rfl, rfl, by rw [m3], rfl, rfl, hnB, hy, m4, hbn.1, hbn.2.1, by omega, j', _, _, _, q9, q8, q1, q2, by rw [List.length_append, q3]; rfl, by rw [show ({ e0 with pos := (if e0.up then pos + 1 else pos - 1 : Nat), time := tm2, steps := e0.steps + 1 } : Car).heard = tm from q7]; exact hyB, rfl, q5, rfl, by rw [show ({ e0 with pos := (if e0.up then pos + 1 else pos - 1 : Nat), time := tm2, steps := e0.steps + 1 } : Car).heard = tm from q7]; exact HF1.out⟩
end Go.Proofs.Ytknaljghpfeikaa
