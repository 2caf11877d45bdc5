import Derived.Test.YtakodllejndfeaaT4
/-! What is whose of any pool. -/
namespace Go.Proofs.Ytakodllejndfeaa
set_option linter.unusedSimpArgs false
set_option linter.unusedVariables false
open Go Go.RowKit

theorem info3i : (Try.prog.info? 3).map (fun i => (i.zero, i.size, i.bytes)) = some (some (.int .i64 0), 1, 8) := by kernel_rfl
theorem under23 : Try.prog.underlying 23 = some (.slice 3) := by kernel_rfl

theorem make_ints (n : Nat) (hn : n ≤ 1000) (w : World) : (Instr.makeSlice 23 (.int .i64 (n : Int)) (.int .i64 (n : Int))).run Try.prog w = .ok (.slice (some ⟨w.heap.size, 0, none⟩) n n) (w.alloc (.cells (vrow (List.replicate n 0)) 3)) := by
  obtain ⟨i0, hi, hz0, hz1, hz2⟩ := info_parts info3i
  have h := run_makeSlice (P := Try.prog) (w := w) 23 3 i0 (.int .i64 0) under23 hi hz0 .i64 .i64 (n : Int) (n : Int) (by omega) (Int.le_refl _) (by rw [hz1]; simp; omega) (by rw [hz2]; omega) (by omega)
  rw [hz1, Int.toNat_natCast] at h
  rw [h, ← made_ints n]
/-- The claims while a side's parts are added. -/
def clJ (S : List Sd) (n : Nat) (pl : Int) (ps : List (Int × Int)) : List Int := (List.range n).map fun i => clS S (i : Nat) + pl * pctOf ps (i : Nat)
theorem clJ_zero (S : List Sd) (n : Nat) (pl : Int) : clJ S n pl [] = clL S n := by simp [clJ, clL, pctOf]
theorem clJ_end (S : List Sd) (n : Nat) (s : Sd) : clJ S n s.pl s.ps = clL (S ++ [s]) n := by simp [clJ, clL, clS_snoc]
theorem clJ_get (S : List Sd) {n : Nat} (pl : Int) (ps : List (Int × Int)) {i : Nat} (h : i < n) : (clJ S n pl ps)[i]? = some (clS S (i : Nat) + pl * pctOf ps (i : Nat)) := by simp [clJ, h]
theorem clJ_len (S : List Sd) (n : Nat) (pl : Int) (ps : List (Int × Int)) : (clJ S n pl ps).length = n := by simp [clJ]
theorem clJ_snoc (S : List Sd) {n : Nat} (pl : Int) (ps : List (Int × Int)) {x : Nat} (y : Int) (h : x < n) :
    (clJ S n pl ps).set x (clS S (x : Nat) + pl * pctOf ps (x : Nat) + pl * y) = clJ S n pl (ps ++ [((x : Int), y)]) := by
  apply List.ext_getElem?
  intro i
  rw [List.getElem?_set]
  by_cases hi : i < n
  · rw [clJ_get S pl _ hi, clJ_get S pl _ hi, clJ_len, pctOf_snoc]
    by_cases e : x = i
    · subst e
      rw [if_pos rfl, if_pos hi, if_pos rfl, Int.mul_add, Int.add_assoc]
    · rw [if_neg e, if_neg (by simp; omega)]; simp
  · rw [List.getElem?_eq_none (by rw [clJ_len]; omega), List.getElem?_eq_none (by rw [clJ_len]; omega)]
    split
    · rw [if_neg (by rw [clJ_len]; omega)]
    · rfl

/-- The world while claims are added. -/
structure CW (w : World) (p : Int) (aS aO : Option Addr) (cS cO m n : Nat) (all : Int) (row : List Int) (wr : World) : Prop where
  x0 : Bx wr w.heap.size #[.int .i64 p, .slice aS m cS, .slice aO n cO] 25
  x1 : Bx wr (w.heap.size + 1) #[.slice none 0 0, .int .i64 0] 66
  x3 : Bx wr (w.heap.size + 3) #[.slice (some ⟨w.heap.size + 2, 0, none⟩) n n, .int .i64 all] 66
  y : Bx wr (w.heap.size + 2) (vrow row) 3
  bl : Below w.heap.size w wr
  sz : w.heap.size + 4 ≤ wr.heap.size
theorem CW.below {w : World} {p : Int} {aS aO : Option Addr} {cS cO m n : Nat} {all : Int} {row : List Int} {wr w' : World} (h : CW w p aS aO cS cO m n all row wr) (hb : Below wr.heap.size wr w') : CW w p aS aO cS cO m n all row w' :=
  ⟨h.x0.below hb, h.x1.below hb, h.x3.below hb, h.y.below hb, h.bl.trans (hb.mono h.bl.size), Nat.le_trans h.sz hb.size⟩
theorem CW.add {w : World} {p : Int} {aS aO : Option Addr} {cS cO m n : Nat} {all : Int} {row : List Int} {wr : World} (h : CW w p aS aO cS cO m n all row wr) (x : Int) : CW w p aS aO cS cO m n x row (wr.setCell ⟨w.heap.size + 3, 1, none⟩ (.int .i64 x)) :=
  ⟨h.x0.other (by show w.heap.size ≠ w.heap.size + 3; omega) _, h.x1.other (by show w.heap.size + 1 ≠ w.heap.size + 3; omega) _, h.x3.put2_1 _, h.y.other (by show w.heap.size + 2 ≠ w.heap.size + 3; omega) _, h.bl.setCell (by show w.heap.size ≤ w.heap.size + 3; omega) _, by simpa [World.setCell] using h.sz⟩
theorem CW.put {w : World} {p : Int} {aS aO : Option Addr} {cS cO m n : Nat} {all : Int} {row : List Int} {wr : World} (h : CW w p aS aO cS cO m n all row wr) (i : Nat) (x : Int) : CW w p aS aO cS cO m n all (row.set i x) (wr.setCell ⟨w.heap.size + 2, i, none⟩ (.int .i64 x)) :=
  ⟨h.x0.other (by show w.heap.size ≠ w.heap.size + 2; omega) _, h.x1.other (by show w.heap.size + 1 ≠ w.heap.size + 2; omega) _, h.x3.other (by show w.heap.size + 3 ≠ w.heap.size + 2; omega) _, by have := h.y.set i (.int .i64 x); rwa [vrow_set] at this, h.bl.setCell (by show w.heap.size ≤ w.heap.size + 2; omega) _, by simpa [World.setCell] using h.sz⟩

/-- What claims are in memory. -/
def ClP (S : List Sd) (n : Nat) (w : World) (e : Ending) (w' : World) : Prop :=
  ∃ g : Nat, e = .returned (.agg #[.slice (some ⟨g, 0, none⟩) n n, .int .i64 (100 * alS S)]) ∧ Bx w' g (vrow (clL S n)) 3 ∧ Below w.heap.size w w' ∧ w.heap.size ≤ g

theorem clL_nil (n : Nat) : clL [] n = List.replicate n 0 := by
  apply List.ext_getElem
  · simp [clL]
  · intro i h1 h2; simp [clL, clS]
theorem VOk.s_take {p : Int} {S : List Sd} {O : List Int} (h : VOk p S O) (k : Nat) : ∀ s ∈ S.take k, SOk O.length s := fun s hs => h.sd s (List.mem_of_mem_take hs)
set_option maxRecDepth 100000 in
set_option maxHeartbeats 6000000 in
theorem claimsOf_any (p : Int) (aS aO : Option Addr) (cS cO : Nat) (S : List Sd) (O : List Int) (w : World) (hX : Ry w aS aO p S O) (hV : VOk p S O) : Calls Try.prog 64 #[.agg #[.int .i64 p, .slice aS S.length cS, .slice aO O.length cO]] w (ClP S O.length w) := by
  obtain ⟨n, hn⟩ : ∃ n, n = O.length := ⟨_, rfl⟩
  obtain ⟨m, hm⟩ : ∃ m, m = S.length := ⟨_, rfl⟩
  have hX1 := hX.sd
  unfold ClP
  have hn6 := hV.n6; have hm6 := hV.m6
  rw [← hn] at hn6 ⊢
  rw [← hm] at hm6 ⊢
  have HN := hid hn; have HM := hid hm
  have hnI : (n : Int) ≤ 6 := by omega
  have hmI : (m : Int) ≤ 6 := by omega
  have hmk := make_ints n (by omega)
  clear hX hn hm
  go_enter Try.func64, Try.ntmps64
  go_upto_region 2 with fail
  obtain ⟨W, hW, hb, hs, x0, x1, x2, x3⟩ := boxes4 w #[.int .i64 p, .slice aS m cS, .slice aO n cO] 25 #[.slice none 0 0, .int .i64 0] 66 (vrow (List.replicate n 0)) 3 #[.slice (some ⟨w.heap.size + 1 + 1, 0, none⟩) n n, .int .i64 0] 66
  rw [hW]
  have E0 : CW w p aS aO cS cO m n (100 * alS (S.take 0)) (clL (S.take 0) n) W := ⟨x0, x1, x3, by rw [List.take_zero, clL_nil]; exact x2, hb, by omega⟩
  clear x0 x1 x2 x3 hb hs
  clear hW hmk
  have c1 := E0.x0.cell 1 rfl
  go_wp2
  clear c1
  go_loopw [16] (fun v16 wr => ∃ k : Nat, k ≤ m ∧ v16 = .int .i64 (k : Int) ∧ CW w p aS aO cS cO m n (100 * alS (S.take k)) (clL (S.take k) n) wr) (fun v16 _ => m - (intOf v16).toNat)
  case atStart => exact ⟨0, Nat.zero_le _, rfl, E0⟩
  case round =>
    clear E0
    obtain ⟨k, hk, rfl, E⟩ := hrel
    by_cases hlt : k < m
    · obtain ⟨b, off, s, a', c', rfl, hbl, q0, q1, hP, hpl, hrg, hmem, hg⟩ := (hX1.below E.bl (Nat.le_refl _)).at (k := k) (by rw [← HM.out]; exact hlt)
      have hkI : (k : Int) < m := by omega
      have hk0 : (0 : Int) ≤ (k : Int) := by omega
      have hP0 : Prs w a' s.ps := by
        obtain ⟨b', off', s', a2, c2, e', _, p0, p1, hP', _, _, _, hg'⟩ := hX1.at (k := k) (by rw [← HM.out]; exact hlt)
        cases e'
        have := hg.out.symm.trans hg'.out
        cases this
        have hb1 := E.bl.cell (p := ⟨b, off + k * 2 + 1, none⟩) (cell_lt p1)
        rw [p1] at hb1
        rw [hb1] at q1
        cases q1
        exact hP'
      have hso := hV.sd s hmem
      have hal := VOk.take hV k
      have hal2 := VOk.take hV (k + 1)
      have hst : alS (S.take (k + 1)) = alS (S.take k) + s.pl := by rw [take_snoc hg.out, alS_snoc]
      have hcl : clL (S.take (k + 1)) n = clJ (S.take k) n s.pl s.ps := by rw [take_snoc hg.out, clJ_end]
      have hcr := fun w => clS_rng (VOk.s_take hV k) w
      rw [← HN.out] at hso
      generalize S.take k = T at *
      have HCL := hid hcl
      have HST := hid hst
      have HCR := hid hcr
      have HSO := hid hso
      obtain ⟨pl, ps⟩ := s
      simp only at q0 q1 hpl hrg
      obtain ⟨u, hu⟩ : ∃ u, u = alS T := ⟨_, rfl⟩
      have hsp := hso.pl
      simp only at hsp hst
      rw [← hu] at hal hst
      obtain ⟨q, hq⟩ : ∃ q, q = ps.length := ⟨_, rfl⟩
      rw [← hq] at q1 hpl
      have HQ := hid hq
      have HU := hid hu
      have ew1 : IntKind.i64.wrap (pl * 100) = pl * 100 := IntWalk.i64_in _ (by omega)
      have ew2 : IntKind.i64.wrap (100 * u + pl * 100) = 100 * u + pl * 100 := IntWalk.i64_in _ (by omega)
      have hba := below_one (w := wr) (.cells #[.int .i64 pl, .slice a' q c'] 39)
      have E1 := E.below hba
      have HXa := hid (And.intro E1 (And.intro (Bx.new wr #[.int .i64 pl, .slice a' q c'] 39) (show w.heap.size + 4 ≤ wr.heap.size from E.sz)))
      rw [← hu] at HXa
      clear E E1 hcl hcr hso hst hq hu hba hP hal2 hmem hg
      go_upto_region 5 with fail
      obtain ⟨E, x5, hsz⟩ := HXa.out
      clear HXa q0 q1
      generalize wr.heap.size = s5 at *
      generalize World.alloc _ _ = wa at *
      have d0 := E.x3.cell 1 rfl; have d1 := E.x3.free 1; have f0 := x5.cell 0 rfl
      go_upto_region 6 with fail
      clear d0 d1 f0
      replace E := E.add (100 * u + pl * 100)
      replace x5 := x5.other (a := ⟨w.heap.size + 3, 1, none⟩) (by show s5 ≠ w.heap.size + 3; omega) (.int .i64 (100 * u + pl * 100))
      generalize World.setCell _ _ _ = wb at *
      have f1 := x5.cell 1 rfl
      go_wp2
      clear f1
      have E0 : CW w p (some ⟨b, off, none⟩) aO cS cO m n (100 * u + pl * 100) (clJ T n pl (ps.take 0)) wb := by rw [List.take_zero, clJ_zero]; exact E
      clear E
      have Hs5 : s5 < wb.heap.size := x5.lt
      go_loopw [30] (fun v30 wr => ∃ j : Nat, j ≤ q ∧ v30 = .int .i64 (j : Int) ∧ CW w p (some ⟨b, off, none⟩) aO cS cO m n (100 * u + pl * 100) (clJ T n pl (ps.take j)) wr ∧ Bx wr s5 #[.int .i64 pl, .slice a' q c'] 39) (fun v30 _ => q - (intOf v30).toNat)
      case atStart => exact ⟨0, Nat.zero_le _, rfl, E0, x5⟩
      case round =>
        clear E0 x5 Hs5
        obtain ⟨j, hj, rfl, E, x5⟩ := hrel
        by_cases hltj : j < q
        · obtain ⟨b2, off2, x, y, rfl, hbl2, q0, q1, hx1, hy1, hg, _⟩ := (hP0.below E.bl (Nat.le_refl _)).at (k := j) (by rw [← HQ.out]; exact hltj)
          have hmem := List.mem_of_getElem? hg.out
          have hwho := HSO.out.who _ hmem
          have hpct := HSO.out.pct _ hmem
          simp only at hwho hpct
          obtain ⟨z, rfl⟩ := Int.eq_ofNat_of_zero_le hwho.1
          have hzn : z < n := by omega
          have hjI : (j : Int) < q := by omega
          have hj0 : (0 : Int) ≤ (j : Int) := by omega
          have hsn := clJ_snoc T pl (ps.take j) y hzn
          rw [← take_snoc hg.out] at hsn
          have hget := clJ_get T pl (ps.take j) hzn
          have hr1 := HCR.out (z : Int)
          have hr2 := pct_rng (ps := ps.take j) (fun q hq => HSO.out.pct q (List.mem_of_mem_take hq)) (z : Int)
          have hr3 := (sumP_rng (ps := ps.take j) (fun q hq => HSO.out.pct q (List.mem_of_mem_take hq))).2
          rw [List.length_take] at hr3
          have hr4 : 0 ≤ pl * pctOf (ps.take j) (z : Int) := Int.mul_nonneg hsp.1 hr2.1
          have hr5 : pl * pctOf (ps.take j) (z : Int) ≤ 9999 * 100000 := Int.mul_le_mul hsp.2 (by omega) hr2.1 (by omega)
          have hr6 : 0 ≤ pl * y := Int.mul_nonneg hsp.1 (by omega)
          have hr7 : pl * y ≤ 9999 * 100 := Int.mul_le_mul hsp.2 hpct.2 (by omega) (by omega)
          obtain ⟨e, he⟩ : ∃ e, e = clS T (z : Int) + pl * pctOf (ps.take j) (z : Int) := ⟨_, rfl⟩
          rw [← he] at hsn hget
          rw [← HU.out] at hr1
          obtain ⟨t, ht⟩ : ∃ t, t = pl * y := ⟨_, rfl⟩
          have ew1 : IntKind.i64.wrap (pl * y) = t := by rw [ht]; exact IntWalk.i64_in _ (by omega)
          have ew2 : IntKind.i64.wrap (e + t) = e + t := IntWalk.i64_in _ (by omega)
          rw [← ht] at hsn
          have HSN := hid hsn
          have hba := below_one (w := wr) (.cells #[.int .i64 (z : Int), .int .i64 y] 53)
          have HXa := hid (And.intro (E.below hba) (And.intro (x5.below hba) (And.intro (Bx.new wr #[.int .i64 (z : Int), .int .i64 y] 53) (show w.heap.size + 4 ≤ wr.heap.size from E.sz))))
          have HGE := hid hget
          clear E x5 hsn hba he ht hr1 hr2 hr3 hr4 hr5 hr6 hr7 hg hmem hget
          have hs5 : w.heap.size + 3 < s5 := by omega
          go_upto_region 9 with fail
          obtain ⟨E, x5, x7, hsz7⟩ := HXa.out
          clear HXa q0 q1
          generalize wr.heap.size = s7 at *
          generalize World.alloc _ _ = wa at *
          have g0 := E.x3.ext 0 rfl
          have g1 := x5.ext 0 rfl
          have g2 := x7.ext 0 rfl
          have g3 := x7.ext 1 rfl
          have g4 := E.y.ext z (vrow_at HGE.out)
          have hznI : (z : Int) < (n : Int) := by omega
          have hz0 : (0 : Int) ≤ (z : Int) := by omega
          refine wp_region_ext_tail 13 (by kernel_rfl) (by kernel_rfl) ?_
          simp only [List.take_succ_cons, List.take_zero, List.drop_succ_cons, List.drop_zero]
          repeat (quiet_step (fail))
          refine wpQuiet_nil ?_
          intro _ hw'
          obtain ⟨tt, rfl⟩ := hw'
          replace E := E.below tt.below
          replace x5 := x5.below tt.below
          generalize tt.w = wc at *
          clear g0 g1 g2 g3 g4
          have k0 := E.y.cell z (vrow_at HGE.out)
          have k1 := E.y.free z
          have E2 := E.put z (e + t)
          rw [HSN.out] at E2
          have x52 := x5.other (a := ⟨w.heap.size + 2, z, none⟩) (by show s5 ≠ w.heap.size + 2; omega) (.int .i64 (e + t))
          have HE2 := hid (And.intro E2 x52)
          clear E x5 x7 E2 x52
          go_wp2
          go_roundw
          case rel => exact ⟨j + 1, by omega, by simp, HE2.out.1, HE2.out.2⟩
          case measure => simp [intOf]; omega
        · have hjq : j = q := by omega
          have hjI : ¬ (j : Int) < q := by omega
          have ht : ps.take j = ps := by rw [hjq, HQ.out, List.take_length]
          rw [ht, ← HCL.out] at E
          have e : 100 * u + pl * 100 = 100 * alS (S.take (k + 1)) := by rw [HST.out, ← HU.out]; omega
          rw [e] at E
          have HE := hid E
          clear E x5 ht e
          go_wp2
          go_roundw
          case rel => exact ⟨k + 1, by omega, by simp, HE.out⟩
          case measure => simp [intOf]; omega
    · have hkm : k = m := by omega
      have hkI : ¬ (k : Int) < m := by omega
      have ht : S.take k = S := by rw [hkm, HM.out, List.take_length]
      rw [ht] at E
      obtain ⟨A, hA⟩ : ∃ A, A = 100 * alS S := ⟨_, rfl⟩
      rw [← hA] at E
      have HA := hid hA
      obtain ⟨x0, x1, x3, y, bl, sz⟩ := E
      have c0 := x3.cell 0 rfl; have c1 := x3.cell 1 rfl
      have d0 := x1.cell 0 rfl; have d1 := x1.cell 1 rfl; have f0 := x1.free 0; have f1 := x1.free 1
      have z1 := x1.set2 (.slice (some ⟨w.heap.size + 2, 0, none⟩) n n) (.int .i64 A)
      have z2 := (y.other (a := ⟨w.heap.size + 1, 0, none⟩) (by show w.heap.size + 2 ≠ w.heap.size + 1; omega) (.slice (some ⟨w.heap.size + 2, 0, none⟩) n n)).other (a := ⟨w.heap.size + 1, 1, none⟩) (by show w.heap.size + 2 ≠ w.heap.size + 1; omega) (.int .i64 A)
      have z3 := (bl.setCell (p := ⟨w.heap.size + 1, 0, none⟩) (by show w.heap.size ≤ w.heap.size + 1; omega) (.slice (some ⟨w.heap.size + 2, 0, none⟩) n n)).setCell (p := ⟨w.heap.size + 1, 1, none⟩) (by show w.heap.size ≤ w.heap.size + 1; omega) (.int .i64 A)
      have HZ := hid (And.intro z1 (And.intro z2 z3))
      clear z1 z2 z3 x0 x1 x3 y bl hkm ht hA
      go_wp2_with fail
      obtain ⟨z1, z2, z3⟩ := HZ.out
      clear HZ
      generalize World.setCell _ _ _ = VV at *
      have k0 := z1.cell 0 rfl; have k1 := z1.cell 1 rfl
      refine bodyPost_ret (v := .agg #[.slice (some ⟨w.heap.size + 2, 0, none⟩) n n, .int .i64 A]) ?_ rfl ⟨w.heap.size + 2, by rw [HA.out], z2, z3, by omega⟩
      simp [results, Try.results64, go_sem, k0, k1]
end Go.Proofs.Ytakodllejndfeaa
