import Derived.Test.YtknaljghpfeikaaT21
import Derived.Lib.SliceRun
namespace Go.Proofs.Ytknaljghpfeikaa
open Go.RowKit

set_option maxRecDepth 100000 in
set_option maxHeartbeats 1000000 in
theorem Far_any (ar ap : Option Addr) (cr cp : Nat) (rs ps : List (Int × Int)) (p0 way step : Int) (w : World) (hlr : rs.length ≤ 4611686018427387903) (hlp : ps.length ≤ 4611686018427387903) :
    Calls Try.prog 36 #[.agg #[.slice ar rs.length cr, .int .i64 p0, .int .i64 way, .int .i64 step, .slice ap ps.length cp]] w fun e w' => e = .returned (.bool (decide (40 < rs.length) || decide (40 < ps.length))) ∧ Below w.heap.size w w' := by
  obtain ⟨n, hn⟩ : ∃ n, n = rs.length := ⟨_, rfl⟩
  obtain ⟨m, hm⟩ : ∃ m, m = ps.length := ⟨_, rfl⟩
  rw [← hn, ← hm]
  have hnI : (n : Int) ≤ 4611686018427387903 := by omega
  have hmI : (m : Int) ≤ 4611686018427387903 := by omega
  have hn0 : (0 : Int) ≤ (n : Int) := by omega
  have hm0 : (0 : Int) ≤ (m : Int) := by omega
  clear hn hm hlr hlp
  obtain ⟨W, hW, hb, hs, x0⟩ := boxes1 w #[.slice ar n cr, .int .i64 p0, .int .i64 way, .int .i64 step, .slice ap m cp] 25
  clear hs
  have c0 := x0.cell 0 rfl; have c1 := x0.cell 1 rfl; have c2 := x0.cell 2 rfl; have c3 := x0.cell 3 rfl; have c4 := x0.cell 4 rfl
  by_cases h1 : 40 < n
  · have h1I : (40 : Int) < (n : Int) := by omega
    go_enter Try.func36, Try.ntmps36
    go_wp2
    go_ret
    exact ⟨by simp [h1], hb⟩
  · have h1I : (n : Int) ≤ 40 := by omega
    by_cases h2 : 40 < m
    · have h2I : (40 : Int) < (m : Int) := by omega
      go_enter Try.func36, Try.ntmps36
      go_wp2
      go_ret
      exact ⟨by simp [h2], hb⟩
    · have h2I : (m : Int) ≤ 40 := by omega
      go_enter Try.func36, Try.ntmps36
      go_wp2
      go_ret
      exact ⟨by simp [h1, h2]; exact ⟨h1I, h2I⟩, hb⟩

set_option maxRecDepth 100000 in
set_option maxHeartbeats 3000000 in
/-- Two rows of the same plays. -/
theorem SamePlays_eq (a b : Option Addr) (ca cb : Nat) (xs : List (Int × Int)) (w : World) (hA : Prs w a xs) (hB : Prs w b xs) :
    Calls Try.prog 25 #[.slice a xs.length ca, .slice b xs.length cb] w fun e w' => e = .returned (.bool true) ∧ Below w.heap.size w w' := by
  have ll := hA.1
  have llI : (xs.length : Int) ≤ 4611686018427387903 := by omega
  go_enter Try.func25, Try.ntmps25
  go_wp2
  go_loopw [5] (fun v5 wr => ∃ k : Nat, k ≤ xs.length ∧ v5 = .int .i64 (k : Int) ∧ Below w.heap.size w wr) (fun v5 _ => xs.length - (intOf v5).toNat)
  case atStart => exact ⟨0, Nat.zero_le _, rfl, Below.refl _ _⟩
  case round =>
    obtain ⟨k, hk, rfl, hb⟩ := hrel
    by_cases hlt : k < xs.length
    · obtain ⟨b1, o1, u1, t1, rfl, _, g0, g1, _, _, hx1, _⟩ := (hA.below hb (Nat.le_refl _)).at hlt
      obtain ⟨b2, o2, u2, t2, rfl, _, d0, d1, _, _, hx2, _⟩ := (hB.below hb (Nat.le_refl _)).at hlt
      have he := hx2.out
      rw [hx1.out] at he
      simp only [Option.some.injEq, Prod.mk.injEq] at he
      obtain ⟨rfl, rfl⟩ := he
      clear hx1 hx2
      have hkI : (k : Int) < (xs.length : Int) := by omega
      have hk0 : (0 : Int) ≤ (k : Int) := by omega
      go_upto_region 6 with fail
      go_quiet ((fail))
      generalize hV2 : wr.drewN nq = V2
      have hbd : Below wr.heap.size wr V2 := by rw [← hV2]; exact below_drewN (Below.refl _ _) _
      have hb2 := hb.trans (hbd.mono hb.size)
      clear hV2 g0 g1 d0 d1 hbd
      go_wp2
      go_roundw
      case rel => exact ⟨k + 1, by omega, by go_num, hb2⟩
      case measure => simp [intOf]; omega
    · have hkI : (xs.length : Int) ≤ (k : Int) := by omega
      go_wp2
      go_ret
      exact ⟨rfl, hb⟩
end Go.Proofs.Ytknaljghpfeikaa
namespace Go.Proofs.Ytknaljghpfeikaa
open Go.RowKit

set_option maxRecDepth 100000 in
set_option maxHeartbeats 4000000 in
/-- Two trays that read alike. -/
theorem Same_eq (ar ap : Option Addr) (cr cp : Nat) (rs ps : List (Int × Int)) (p0 way step : Int) (br bp : Option Addr) (dr dp : Nat) (w : World) (hR : Prs w ar rs) (hP : Prs w ap ps) (hR2 : Prs w br rs) (hP2 : Prs w bp ps) :
    Calls Try.prog 41 #[.agg #[.slice ar rs.length cr, .int .i64 p0, .int .i64 way, .int .i64 step, .slice ap ps.length cp], .agg #[.slice br rs.length dr, .int .i64 p0, .int .i64 way, .int .i64 step, .slice bp ps.length dp]] w fun e w' => e = .returned (.bool true) ∧ Below w.heap.size w w' := by
  have lr := hR.1; have lp := hP.1
  obtain ⟨n, hn⟩ : ∃ n, n = rs.length := ⟨_, rfl⟩
  obtain ⟨m, hm⟩ : ∃ m, m = ps.length := ⟨_, rfl⟩
  rw [← hn, ← hm]
  rw [← hn] at lr; rw [← hm] at lp
  have HN := hid hn; have HM := hid hm
  clear hn hm
  have hnI : (n : Int) ≤ 4611686018427387903 := by omega
  have hmI : (m : Int) ≤ 4611686018427387903 := by omega
  have hn0 : (0 : Int) ≤ (n : Int) := by omega
  have hm0 : (0 : Int) ≤ (m : Int) := by omega
  obtain ⟨W, hW, hb, hs, x0, y0⟩ := boxes2 w #[.slice ar n cr, .int .i64 p0, .int .i64 way, .int .i64 step, .slice ap m cp] 25 #[.slice br n dr, .int .i64 p0, .int .i64 way, .int .i64 step, .slice bp m dp] 25
  have c0 := x0.cell 0 rfl; have c1 := x0.cell 1 rfl; have c2 := x0.cell 2 rfl; have c3 := x0.cell 3 rfl; have c4 := x0.cell 4 rfl
  have d0 := y0.cell 0 rfl; have d1 := y0.cell 1 rfl; have d2 := y0.cell 2 rfl; have d3 := y0.cell 3 rfl; have d4 := y0.cell 4 rfl
  have hw1 := x0.lt; have hw2 := y0.lt
  go_enter Try.func41, Try.ntmps41
  go_wp2
  clear c0 c1 c2 c3 c4 d0 d1 d2 d3 d4
  go_loopw [5] (fun v5 wr => ∃ k : Nat, k ≤ n ∧ v5 = .int .i64 (k : Int) ∧ Below W.heap.size W wr) (fun v5 _ => n - (intOf v5).toNat)
  case atStart => exact ⟨0, Nat.zero_le _, rfl, Below.refl _ _⟩
  case round =>
    obtain ⟨k, hk, rfl, hb1⟩ := hrel
    have x1 := x0.below hb1; have y1 := y0.below hb1
    have hbr := hb.trans (hb1.mono hb.size)
    have c0 := x1.cell 0 rfl; have c1 := x1.cell 1 rfl; have c2 := x1.cell 2 rfl; have c3 := x1.cell 3 rfl; have c4 := x1.cell 4 rfl
    have d0 := y1.cell 0 rfl; have d1 := y1.cell 1 rfl; have d2 := y1.cell 2 rfl; have d3 := y1.cell 3 rfl; have d4 := y1.cell 4 rfl
    by_cases hlt : k < n
    · obtain ⟨b1, o1, u1, t1, rfl, _, g0, g1, _, _, hx1, _⟩ := (hR.below hbr (Nat.le_refl _)).at (show k < rs.length by rw [← HN.out]; exact hlt)
      obtain ⟨b2, o2, u2, t2, rfl, _, e0, e1, _, _, hx2, _⟩ := (hR2.below hbr (Nat.le_refl _)).at (show k < rs.length by rw [← HN.out]; exact hlt)
      have he := hx2.out
      rw [hx1.out] at he
      simp only [Option.some.injEq, Prod.mk.injEq] at he
      obtain ⟨rfl, rfl⟩ := he
      clear hx1 hx2
      have hkI : (k : Int) < (n : Int) := by omega
      have hk0 : (0 : Int) ≤ (k : Int) := by omega
      go_upto_region 6 with fail
      go_quiet ((fail))
      generalize hV2 : wr.drewN nq = V2
      have hbd : Below wr.heap.size wr V2 := by rw [← hV2]; exact below_drewN (Below.refl _ _) _
      have hb2 := hb1.trans (hbd.mono hb1.size)
      clear hV2 g0 g1 e0 e1 c0 c1 c2 c3 c4 d0 d1 d2 d3 d4 x1 y1 hbd
      go_wp2
      go_roundw
      case rel => exact ⟨k + 1, by omega, by go_num, hb2⟩
      case measure => simp [intOf]; omega
    · have hkI : (n : Int) ≤ (k : Int) := by omega
      go_wp2
      clear c0 c1 c2 c3 c4 d0 d1 d2 d3 d4
      go_loopw [6] (fun v6 wr => ∃ k : Nat, k ≤ m ∧ v6 = .int .i64 (k : Int) ∧ Below W.heap.size W wr) (fun v6 _ => m - (intOf v6).toNat)
      case atStart => exact ⟨0, Nat.zero_le _, rfl, hb1⟩
      case round =>
        obtain ⟨j, hj, rfl, hb1'⟩ := hrel
        have x2 := x0.below hb1'; have y2 := y0.below hb1'
        have hbv := hb.trans (hb1'.mono hb.size)
        have c0 := x2.cell 0 rfl; have c1 := x2.cell 1 rfl; have c2 := x2.cell 2 rfl; have c3 := x2.cell 3 rfl; have c4 := x2.cell 4 rfl
        have d0 := y2.cell 0 rfl; have d1 := y2.cell 1 rfl; have d2 := y2.cell 2 rfl; have d3 := y2.cell 3 rfl; have d4 := y2.cell 4 rfl
        by_cases hlt2 : j < m
        · obtain ⟨b1, o1, u1, t1, rfl, _, g0, g1, _, _, hx1, _⟩ := (hP.below hbv (Nat.le_refl _)).at (show j < ps.length by rw [← HM.out]; exact hlt2)
          obtain ⟨b2, o2, u2, t2, rfl, _, e0, e1, _, _, hx2, _⟩ := (hP2.below hbv (Nat.le_refl _)).at (show j < ps.length by rw [← HM.out]; exact hlt2)
          have he := hx2.out
          rw [hx1.out] at he
          simp only [Option.some.injEq, Prod.mk.injEq] at he
          obtain ⟨rfl, rfl⟩ := he
          clear hx1 hx2
          have hjI : (j : Int) < (m : Int) := by omega
          have hj0 : (0 : Int) ≤ (j : Int) := by omega
          go_upto_region 11 with fail
          go_quiet ((fail))
          generalize hV2 : wr.drewN nq = V2
          have hbd : Below wr.heap.size wr V2 := by rw [← hV2]; exact below_drewN (Below.refl _ _) _
          have hb2 := hb1'.trans (hbd.mono hb1'.size)
          clear hV2 g0 g1 e0 e1 c0 c1 c2 c3 c4 d0 d1 d2 d3 d4 x2 y2 hbd
          go_wp2
          go_roundw
          case rel => exact ⟨j + 1, by omega, by go_num, hb2⟩
          case measure => simp [intOf]; omega
        · have hjI : (m : Int) ≤ (j : Int) := by omega
          go_wp2
          go_ret
          exact ⟨rfl, hbv⟩
end Go.Proofs.Ytknaljghpfeikaa
namespace Go.Proofs.Ytknaljghpfeikaa
open Go.RowKit

theorem Prs.empty {w : World} {ps : List (Int × Int)} (h : Prs w none ps) : ps = [] := by
  cases ps with
  | nil => rfl
  | cons p l =>
    obtain ⟨_, _, h3⟩ := h
    obtain ⟨b, off, e, _⟩ := h3 0 (by simp)
    cases e

set_option maxRecDepth 100000 in
set_option maxHeartbeats 4000000 in
/-- slices.Clone of a row of presses. -/
theorem clone_any (ap : Option Addr) (cp : Nat) (ps : List (Int × Int)) (w : World) (hP : Prs w ap ps) (hl : ps.length ≤ 100000) :
    Calls Try.prog 93 #[.slice ap ps.length cp] w fun e w' => ∃ a cv, e = .returned (.slice a ps.length cv) ∧ Prs w' a ps ∧ Below w.heap.size w w' ∧ (∀ ad, a = some ad → w.heap.size ≤ ad.block) := by
  obtain ⟨i0, hi0, iz0, iz1, iz2⟩ := info_parts info40
  rcases ap with _ | ad
  · have h0 := hP.empty
    subst h0
    have hE : ∀ w, (binOp .eql 23 (.slice none 0 cp) (.slice none 0 0)).run Try.prog w = .ok (.bool true) w := fun w => Lib.run_eql_slice_nil w 23 40 none 0 cp 0 0 under23
    go_enter Try.func93, Try.ntmps93
    go_wp2
    go_ret
    exact ⟨none, 0, rfl, hP, Below.refl _ _, fun _ h => by cases h⟩
  · have hb1 := below_one (w := w) (.cells #[] 40)
    have hown : (w.alloc (.cells #[] 40)).ownsRow w.heap.size 40 2 (.slice (some ⟨w.heap.size, 0, none⟩) 0 0) 0 [] := World.ownsRow_made w #[] 0 (Nat.le_refl _) (by unfold maxLen; omega) (by simp)
    have hcl := (hP.below hb1 (Nat.le_refl _)).cls
    obtain ⟨n, hn⟩ : ∃ n, n = ps.length := ⟨_, rfl⟩
    have ln : (pcells ps).length = n * 2 := by rw [pcells_len, hn]
    have hbd := hP.2.1
    rw [← hn] at hl ⊢
    have HN := hid hn; have LN := hid ln; have HBD := hid hbd
    clear hn ln hbd
    have hnI : (n : Int) ≤ 100000 := by omega
    have hn0 : (0 : Int) ≤ (n : Int) := by omega
    have hE : ∀ w, (binOp .eql 23 (.slice (some ad) n cp) (.slice none 0 0)).run Try.prog w = .ok (.bool false) w := fun w => Lib.run_eql_slice_nil w 23 40 (some ad) n cp 0 0 under23
    go_enter Try.func93, Try.ntmps93
    go_wp2_with (at_builtin; refine wpList_appAt rfl (.tmp 5) (.tmp 6) 23 rfl w.heap.size 40 i0 (.agg #[.int .i64 0, .int .i64 0]) 2 16 under23 hi0 iz0 iz1 iz2 rfl (by decide) (.slice (some ⟨w.heap.size, 0, none⟩) 0 0) 0 _ rfl hown (some ad) n cp (pcells ps) rfl LN.out hcl (pcells_one ps) (by unfold maxLen; omega) (by omega) hb1.size ?_; intro v5 W5 hown5 hg5 hat)
    obtain ⟨a6, c6, rfl⟩ := own_slice2 hown5
    have hb5 := hb1.grown hg5 hb1.size (own_ge2 hown)
    have hown6 : W5.ownsRow w.heap.size 40 2 (.slice a6 (0 + n) c6) ps.length (pcells ps) := by rw [← HN.out]; rw [Nat.zero_add] at hown5 ⊢; exact hown5
    have hnew := own_new2 hown6
    obtain ⟨a7, c7, he, hprs⟩ := Prs.of_own hown6 (by rw [← HN.out]; omega) HBD.out
    rw [← HN.out] at he
    have he2 : a6 = a7 := by injection he
    subst he2
    have HE := hid (And.intro he (And.intro hprs hnew))
    clear he hprs hnew hown5 hown6 hown hcl hat hg5
    go_ret
    exact ⟨a6, c7, by rw [← HE.out.1]; rfl, HE.out.2.1, hb5, HE.out.2.2⟩
end Go.Proofs.Ytknaljghpfeikaa
namespace Go.Proofs.Ytknaljghpfeikaa
open Go.RowKit


set_option maxRecDepth 100000 in
set_option maxHeartbeats 1000000 in
theorem Soonest_bad (ar ap : Option Addr) (cr cp : Nat) (rs ps : List (Int × Int)) (p0 way step : Int) (w : World) (hR : Prs w ar rs) (hP : Prs w ap ps) (hl : ps.length ≤ 4611686018427387903) (r : Int) (hr : r = if trB rs ps p0 way step then (if ps.length = 0 then 3 else 0) else 20) (hr0 : r ≠ 0) (_hrb : 0 ≤ r ∧ r ≤ 20) :
    Calls Try.prog 34 #[.agg #[.slice ar rs.length cr, .int .i64 p0, .int .i64 way, .int .i64 step, .slice ap ps.length cp]] w fun e w' => e = .returned (.tuple #[.int .i64 0, .int .i64 r]) ∧ Below w.heap.size w w' := by
  obtain ⟨W, hW, hb, hs, x0⟩ := boxes1 w #[.slice ar rs.length cr, .int .i64 p0, .int .i64 way, .int .i64 step, .slice ap ps.length cp] 25
  clear hs
  replace hR := hR.below hb (Nat.le_refl _); replace hP := hP.below hb (Nat.le_refl _)
  have hck := checkPressed_any ar ap cr cp rs ps p0 way step W hR hP hl
  rw [← hr] at hck
  clear hr
  have c0 := x0.cell 0 rfl; have c1 := x0.cell 1 rfl; have c2 := x0.cell 2 rfl; have c3 := x0.cell 3 rfl; have c4 := x0.cell 4 rfl
  go_enter Try.func34, Try.ntmps34
  go_wp2_with fail
  refine hck.mono ?_
  rintro e W1 ⟨rfl, hb1⟩
  replace hb := hb.trans (hb1.mono hb.size)
  clear hW x0 c0 c1 c2 c3 c4 hb1 hck
  go_wp2
  go_ret2
  exact ⟨rfl, hb⟩
set_option maxRecDepth 100000 in
set_option maxHeartbeats 1000000 in
theorem Soonest_of (ar ap : Option Addr) (cr cp : Nat) (rs ps : List (Int × Int)) (p0 way step : Int) (w : World) (hR : Prs w ar rs) (hP : Prs w ap ps) (hv : trB rs ps p0 way step = true) (h0 : ps.length ≠ 0) (Good : World → Value → Int → Prop)
    (hbo : ∀ W, Prs W ar rs → Prs W ap ps → Calls Try.prog 63 #[.agg #[.slice ar rs.length cr, .int .i64 p0, .int .i64 way, .int .i64 step, .slice ap ps.length cp]] W fun e w' => ∃ v q, e = .returned (.tuple #[v, .int .i64 q]) ∧ Good w' v q ∧ Below W.heap.size W w') :
    Calls Try.prog 34 #[.agg #[.slice ar rs.length cr, .int .i64 p0, .int .i64 way, .int .i64 step, .slice ap ps.length cp]] w fun e w' => ∃ v q, e = .returned (.tuple #[.int .i64 q, .int .i64 0]) ∧ Good w' v q ∧ Below w.heap.size w w' := by
  have hl := hP.1
  obtain ⟨W, hW, hb, hs, x0⟩ := boxes1 w #[.slice ar rs.length cr, .int .i64 p0, .int .i64 way, .int .i64 step, .slice ap ps.length cp] 25
  clear hs
  replace hR := hR.below hb (Nat.le_refl _); replace hP := hP.below hb (Nat.le_refl _)
  have hck := checkPressed_any ar ap cr cp rs ps p0 way step W hR hP (by omega)
  rw [hv, if_pos rfl, if_neg h0] at hck
  have c0 := x0.cell 0 rfl; have c1 := x0.cell 1 rfl; have c2 := x0.cell 2 rfl; have c3 := x0.cell 3 rfl; have c4 := x0.cell 4 rfl
  go_enter Try.func34, Try.ntmps34
  go_wp2_with fail
  refine hck.mono ?_
  rintro e W1 ⟨rfl, hb1⟩
  clear hW hck
  replace hR := hR.below hb1 (Nat.le_refl _); replace hP := hP.below hb1 (Nat.le_refl _)
  (try clear c0 c1 c2 c3 c4); replace x0 := x0.below hb1; have c0 := x0.cell 0 rfl; have c1 := x0.cell 1 rfl; have c2 := x0.cell 2 rfl; have c3 := x0.cell 3 rfl; have c4 := x0.cell 4 rfl; replace hb := hb.trans (hb1.mono hb.size); clear hb1
  go_wp2_with fail
  refine (hbo _ hR hP).mono ?_
  rintro e W2 ⟨v, q, rfl, hg, hb1⟩
  replace hb := hb.trans (hb1.mono hb.size)
  clear hbo x0 c0 c1 c2 c3 c4 hb1
  go_wp2
  go_ret2
  exact ⟨v, q, rfl, hg, hb⟩

set_option maxRecDepth 100000 in
set_option maxHeartbeats 1000000 in
theorem Arrange_bad (ar ap : Option Addr) (cr cp : Nat) (rs ps : List (Int × Int)) (p0 way step : Int) (w : World) (hR : Prs w ar rs) (hP : Prs w ap ps) (hl : ps.length ≤ 4611686018427387903) (r : Int) (hr : r = if trB rs ps p0 way step then (if ps.length = 0 then 3 else 0) else 20) (hr0 : r ≠ 0) (_hrb : 0 ≤ r ∧ r ≤ 20) :
    Calls Try.prog 50 #[.agg #[.slice ar rs.length cr, .int .i64 p0, .int .i64 way, .int .i64 step, .slice ap ps.length cp]] w fun e w' => e = .returned (.tuple #[.slice none 0 0, .int .i64 r]) ∧ Below w.heap.size w w' := by
  obtain ⟨W, hW, hb, hs, x0⟩ := boxes1 w #[.slice ar rs.length cr, .int .i64 p0, .int .i64 way, .int .i64 step, .slice ap ps.length cp] 25
  clear hs
  replace hR := hR.below hb (Nat.le_refl _); replace hP := hP.below hb (Nat.le_refl _)
  have hck := checkPressed_any ar ap cr cp rs ps p0 way step W hR hP hl
  rw [← hr] at hck
  clear hr
  have c0 := x0.cell 0 rfl; have c1 := x0.cell 1 rfl; have c2 := x0.cell 2 rfl; have c3 := x0.cell 3 rfl; have c4 := x0.cell 4 rfl
  go_enter Try.func50, Try.ntmps50
  go_wp2_with fail
  refine hck.mono ?_
  rintro e W1 ⟨rfl, hb1⟩
  replace hb := hb.trans (hb1.mono hb.size)
  clear hW x0 c0 c1 c2 c3 c4 hb1 hck
  go_wp2
  go_ret2
  exact ⟨rfl, hb⟩
set_option maxRecDepth 100000 in
set_option maxHeartbeats 1000000 in
theorem Arrange_of (ar ap : Option Addr) (cr cp : Nat) (rs ps : List (Int × Int)) (p0 way step : Int) (w : World) (hR : Prs w ar rs) (hP : Prs w ap ps) (hv : trB rs ps p0 way step = true) (h0 : ps.length ≠ 0) (Good : World → Value → Int → Prop)
    (hbo : ∀ W, Prs W ar rs → Prs W ap ps → Calls Try.prog 63 #[.agg #[.slice ar rs.length cr, .int .i64 p0, .int .i64 way, .int .i64 step, .slice ap ps.length cp]] W fun e w' => ∃ v q, e = .returned (.tuple #[v, .int .i64 q]) ∧ Good w' v q ∧ Below W.heap.size W w') :
    Calls Try.prog 50 #[.agg #[.slice ar rs.length cr, .int .i64 p0, .int .i64 way, .int .i64 step, .slice ap ps.length cp]] w fun e w' => ∃ v q, e = .returned (.tuple #[v, .int .i64 0]) ∧ Good w' v q ∧ Below w.heap.size w w' := by
  have hl := hP.1
  obtain ⟨W, hW, hb, hs, x0⟩ := boxes1 w #[.slice ar rs.length cr, .int .i64 p0, .int .i64 way, .int .i64 step, .slice ap ps.length cp] 25
  clear hs
  replace hR := hR.below hb (Nat.le_refl _); replace hP := hP.below hb (Nat.le_refl _)
  have hck := checkPressed_any ar ap cr cp rs ps p0 way step W hR hP (by omega)
  rw [hv, if_pos rfl, if_neg h0] at hck
  have c0 := x0.cell 0 rfl; have c1 := x0.cell 1 rfl; have c2 := x0.cell 2 rfl; have c3 := x0.cell 3 rfl; have c4 := x0.cell 4 rfl
  go_enter Try.func50, Try.ntmps50
  go_wp2_with fail
  refine hck.mono ?_
  rintro e W1 ⟨rfl, hb1⟩
  clear hW hck
  replace hR := hR.below hb1 (Nat.le_refl _); replace hP := hP.below hb1 (Nat.le_refl _)
  (try clear c0 c1 c2 c3 c4); replace x0 := x0.below hb1; have c0 := x0.cell 0 rfl; have c1 := x0.cell 1 rfl; have c2 := x0.cell 2 rfl; have c3 := x0.cell 3 rfl; have c4 := x0.cell 4 rfl; replace hb := hb.trans (hb1.mono hb.size); clear hb1
  go_wp2_with fail
  refine (hbo _ hR hP).mono ?_
  rintro e W2 ⟨v, q, rfl, hg, hb1⟩
  replace hb := hb.trans (hb1.mono hb.size)
  clear hbo x0 c0 c1 c2 c3 c4 hb1
  go_wp2
  go_ret2
  exact ⟨v, q, rfl, hg, hb⟩

end Go.Proofs.Ytknaljghpfeikaa
