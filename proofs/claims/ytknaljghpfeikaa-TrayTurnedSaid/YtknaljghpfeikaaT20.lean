import Derived.Test.YtknaljghpfeikaaT19
namespace Go.Proofs.Ytknaljghpfeikaa
open Go.RowKit

/-- A tray with one more press. -/
def addP (T : Tr) (x y : Int) : Tr := { T with prs := T.prs ++ [(x, y)] }
theorem addP_is {T : Tr} {rs ps : List (Int × Int)} {p0 way step x y : Int} (hT : IsTr T rs ps p0 way step) (hl : ps.length ≤ 12) (hx : 0 ≤ x ∧ x < 2 * (rs.length : Int)) (hy : 0 ≤ y ∧ y ≤ 9999) : IsTr (addP T x y) rs (ps ++ [(x, y)]) p0 way step := by
  obtain ⟨h1, h2, h3, h4, h5, hv⟩ := hT
  refine ⟨h1, by unfold addP; simp [h2], h3, h4, h5, ⟨hv.n1, hv.n6, hv.rc, hv.at0, hv.st, ?_, ?_⟩⟩
  · show (T.prs ++ [(x, y)]).length ≤ 13
    rw [h2]; simp; omega
  · intro p hp
    rcases List.mem_append.1 (show p ∈ T.prs ++ [(x, y)] from hp) with h | h
    · exact hv.pr p h
    · rw [List.mem_singleton] at h
      subst h
      show 0 ≤ x ∧ x < 2 * (T.rcs.length : Int) ∧ 0 ≤ y ∧ y ≤ 9999
      rw [h1]
      omega

/-- Whether one more press of a side is served too late. -/
def lateP (T : Tr) (x by' : Int) (i : Nat) : Bool := decide (by' < begF (addP T x (i : Int)) x (i : Int))

set_option maxRecDepth 100000 in
set_option maxHeartbeats 4000000 in
theorem late_any (ar ap : Option Addr) (cr cp : Nat) (rs ps : List (Int × Int)) (p0 way step : Int) (x by' : Int) (i : Nat) (g : Nat) (w : World) (hR : Prs w ar rs) (hP : Prs w ap ps) (hg : Bx w g #[.slice ar rs.length cr, .int .i64 p0, .int .i64 way, .int .i64 step, .slice ap ps.length cp] 25) (hgx : Bx w (g + 1) #[.int .i64 x] 3) (hgb : Bx w (g + 1 + 1) #[.int .i64 by'] 3) (T : Tr) (hT : IsTr (addP T x (i : Int)) rs (ps ++ [(x, (i : Int))]) p0 way step) :
    Calls Try.prog 77 (#[.int .i64 (i : Int)] ++ #[.pointer (some ⟨g, 0, none⟩), .pointer (some ⟨g + 1, 0, none⟩), .pointer (some ⟨g + 1 + 1, 0, none⟩)]) w fun e w' => e = .returned (.bool (lateP T x by' i)) ∧ Below w.heap.size w w' := by
  have hbe := fun W h1 h2 => begins_any ar ap cr cp rs ps p0 way step x (i : Int) W h1 h2 (addP T x (i : Int)) hT
  unfold lateP
  obtain ⟨r, hr⟩ : ∃ r, r = begF (addP T x (i : Int)) x (i : Int) := ⟨_, rfl⟩
  rw [← hr] at hbe ⊢
  clear hr hT
  go_enter Try.func77, Try.ntmps77
  go_upto_region 1 with fail
  have hbd := (Below.refl w.heap.size w).drew
  replace hR := hR.below hbd (Nat.le_refl _); replace hP := hP.below hbd (Nat.le_refl _)
  have S0 := And.intro (hg.below hbd) (And.intro (hgx.below hbd) (hgb.below hbd))
  have hb := hbd
  clear hbd hg hgx hgb
  refine wp_region_head 7 (fun w' => Bx w' g #[.slice ar rs.length cr, .int .i64 p0, .int .i64 way, .int .i64 step, .slice ap ps.length cp] 25 ∧ Bx w' (g + 1) #[.int .i64 x] 3 ∧ Bx w' (g + 1 + 1) #[.int .i64 by'] 3) (by kernel_rfl) rfl ?_
  generalize hY : w.drew = Y0 at *
  refine HeadAt.take (i := 0) (.agg #[.slice ar rs.length cr, .int .i64 p0, .int .i64 way, .int .i64 step, .slice ap ps.length cp]) rfl (by kernel_rfl) (.inl ⟨rfl, fun w' z => ?_⟩) S0 ?_
  · (have z0 := z.1.cell 0 rfl; have z1 := z.1.cell 1 rfl; have z2 := z.1.cell 2 rfl; have z3 := z.1.cell 3 rfl; have z4 := z.1.cell 4 rfl; simp [go_sem, z0, z1, z2, z3, z4])
  refine HeadAt.take (i := 1) (.int .i64 x) rfl (by kernel_rfl) (.inl ⟨rfl, fun w' z => ?_⟩) S0 ?_
  · (have z0 := z.2.1.cell 0 rfl; simp [go_sem, z0])
  refine HeadAt.take (i := 2) (.int .i64 (i : Int)) rfl (by kernel_rfl) (.inl ⟨rfl, fun _ _ => by simp [go_sem]⟩) S0 ?_
  refine HeadAt.take (i := 3) (.agg #[.int .i64 x, .int .i64 (i : Int)]) rfl (by kernel_rfl) (.inl ⟨rfl, fun _ _ => by simp [go_sem]⟩) S0 ?_
  refine HeadAt.take (i := 5) (.int .i64 by') rfl (by kernel_rfl) (.inl ⟨rfl, fun w' z => ?_⟩) S0 ?_
  · (have z0 := z.2.2.cell 0 rfl; simp [go_sem, z0])
  refine HeadAt.one (i := 4) rfl (by kernel_rfl) ?_
  generalize hK : Upto _ _ = K0
  (try simp only [Act.put, List.getElem_toArray, List.getElem_cons_succ, List.getElem_cons_zero, List.setIfInBounds_toArray, List.set_cons_succ, List.set_cons_zero])
  go_wp2_with fail
  refine (hbe _ hR hP).mono ?_
  rintro e Y1 ⟨rfl, hb1⟩
  replace S0 := And.intro (S0.1.below hb1) (And.intro (S0.2.1.below hb1) (S0.2.2.below hb1))
  replace hb := hb.trans (hb1.mono hb.size)
  clear hb1 hbe hR hP
  go_wp2_with fail
  subst hK
  refine ⟨S0, ?_⟩
  refine HeadAt.take (i := 6) (.bool (decide (by' < r))) rfl (by kernel_rfl) (.inl ⟨rfl, fun _ _ => by simp [go_sem]⟩) S0 ?_
  refine HeadAt.done (by kernel_rfl) ?_
  (try simp only [Act.put, List.drop_succ_cons, List.drop_zero, List.getElem_toArray, List.getElem_cons_succ, List.getElem_cons_zero])
  clear S0
  go_wp2_with fail
  refine NoPanic.normal ?_
  go_wp2
  go_ret
  exact ⟨rfl, hb⟩

set_option maxRecDepth 100000 in
set_option maxHeartbeats 4000000 in
theorem latest_any (ar ap : Option Addr) (cr cp : Nat) (rs ps : List (Int × Int)) (p0 way step : Int) (x by' : Int) (w : World) (hR : Prs w ar rs) (hP : Prs w ap ps) (hx : 0 ≤ x ∧ x < 2 * (rs.length : Int)) (hby : 0 ≤ by' ∧ by' ≤ 9999) (hl : ps.length ≤ 12) (T : Tr) (hT : IsTr T rs ps p0 way step) :
    Calls Try.prog 61 #[.agg #[.slice ar rs.length cr, .int .i64 p0, .int .i64 way, .int .i64 step, .slice ap ps.length cp], .int .i64 x, .int .i64 by'] w fun e w' => ∃ k : Nat, e = .returned (.tuple #[.int .i64 ((k : Int) - 1), .bool (decide (0 < k))]) ∧ (k : Int) ≤ by' + 1 ∧ (0 < k → lateP T x by' (k - 1) = false) ∧ ((k : Int) < by' + 1 → lateP T x by' k = true) ∧ Below w.heap.size w w' := by
  obtain ⟨m, rfl⟩ : ∃ m : Nat, by' = (m : Int) := ⟨by'.toNat, by omega⟩
  obtain ⟨W, hW, hb, hs, x0, x1⟩ := boxes2 w #[.slice ar rs.length cr, .int .i64 p0, .int .i64 way, .int .i64 step, .slice ap ps.length cp] 25 #[.int .i64 x] 3
  obtain ⟨W1, hW1, hb1, hs1, x2⟩ := boxes1 W #[.int .i64 (m : Int)] 3
  rw [hs] at hs1 x2
  replace x0 := x0.below hb1
  replace x1 := x1.below hb1
  replace hb := hb.trans (hb1.mono hb.size)
  have hsr := search_any (m + 1) #[.pointer (some ⟨w.heap.size, 0, none⟩), .pointer (some ⟨w.heap.size + 1, 0, none⟩), .pointer (some ⟨w.heap.size + 1 + 1, 0, none⟩)] (lateP T x (m : Int)) W1 (by omega) (fun V i hV hi =>
    late_any ar ap cr cp rs ps p0 way step x (m : Int) i w.heap.size V ((hR.below hb (Nat.le_refl _)).below hV (Nat.le_refl _)) ((hP.below hb (Nat.le_refl _)).below hV (Nat.le_refl _)) (x0.below hV) (x1.below hV) (x2.below hV) T (addP_is hT hl hx (by omega)))
  rw [show (((m + 1 : Nat)) : Int) = (m : Int) + 1 by omega] at hsr
  clear hT hR hP
  have hmI : (m : Int) ≤ 9999 := by omega
  have hm0 : (0 : Int) ≤ (m : Int) := by omega
  have c0 := x0.cell 0 rfl; have c1 := x0.cell 1 rfl; have c2 := x0.cell 2 rfl; have c3 := x0.cell 3 rfl; have c4 := x0.cell 4 rfl
  have e0 := x1.cell 0 rfl
  have f0 := x2.cell 0 rfl
  go_enter Try.func61, Try.ntmps61
  go_wp2_with fail
  refine hsr.mono ?_
  rintro e V ⟨k, rfl, hk, h1, h2, hb2⟩
  replace hb := hb.trans (hb2.mono hb.size)
  have H := hid (And.intro h1 h2)
  have hkI : (k : Int) ≤ 10000 := by omega
  have hk0 : (0 : Int) ≤ (k : Int) := by omega
  clear hsr x0 x1 x2 c0 c1 c2 c3 c4 e0 f0 h1 h2 hb1 hb2 hW hW1 hs hs1
  go_wp2
  go_ret2
  exact ⟨k, rfl, by omega, H.out.1, fun h => H.out.2 (by omega), hb⟩
end Go.Proofs.Ytknaljghpfeikaa
