import Derived.Test.YtakodllejndfeaaT15
/-! The chapter's example. -/
namespace Go.Proofs.Ytakodllejndfeaa
set_option linter.unusedSimpArgs false
set_option linter.unusedVariables false
open Go Go.RowKit

set_option maxRecDepth 100000 in
set_option maxHeartbeats 2000000 in
theorem SameInts_eq (a b : Option Addr) (ca cb : Nat) (xs : List Int) (w : World) (hA : Ints w a xs) (hB : Ints w b xs) : Calls Try.prog 20 #[.slice a xs.length ca, .slice b xs.length cb] w fun e w' => e = .returned (.bool true) ∧ Below w.heap.size w w' := by
  have hlen := hA.len
  obtain ⟨n, hn⟩ : ∃ n, n = xs.length := ⟨_, rfl⟩
  rw [← hn] at hlen ⊢
  have HN := hid hn
  have hne : ((n : Int) != (n : Int)) = false := by simp
  clear hn
  go_enter Try.func20, Try.ntmps20
  go_wp2
  go_loopw [5] (fun v5 wr => ∃ k : Nat, k ≤ n ∧ v5 = .int .i64 (k : Int) ∧ Below w.heap.size w wr) (fun v5 _ => n - (intOf v5).toNat)
  case atStart => exact ⟨0, Nat.zero_le _, rfl, Below.refl _ _⟩
  case round =>
    obtain ⟨k, hk, rfl, hb⟩ := hrel
    by_cases hlt : k < n
    · obtain ⟨b1, o1, x, rfl, _, hc1, _, _, hg1, _⟩ := (hA.below hb (Nat.le_refl _)).at (k := k) (by rw [← HN.out]; exact hlt)
      obtain ⟨b2, o2, y, rfl, _, hc2, _, _, hg2, _⟩ := (hB.below hb (Nat.le_refl _)).at (k := k) (by rw [← HN.out]; exact hlt)
      obtain rfl : x = y := by have := hg1.out; rw [hg2.out] at this; injection this with e; exact e.symm
      have hkI : (k : Int) < n := by omega
      have hk0 : (0 : Int) ≤ (k : Int) := by omega
      have hxx : (x != x) = false := by simp
      have u1 := Ext.cell hc1
      have u2 := Ext.cell hc2
      clear hg1 hg2 hc1 hc2
      go_upto_region 6 with fail
      refine wp_region_ext_lit (by kernel_rfl) (by kernel_rfl) ?_
      repeat (quiet_step (fail))
      refine wpQuiet_nil ?_
      intro _ hw'
      obtain ⟨tt, rfl⟩ := hw'
      have hb2 := hb.trans (tt.below.mono hb.size)
      go_wp2
      go_roundw
      case rel => exact ⟨k + 1, by omega, by simp, hb2⟩
      case measure => simp [intOf]; omega
    · obtain rfl : k = n := by omega
      go_wp2
      go_ret
      exact ⟨rfl, hb⟩

theorem Bx.gb {w w' : World} {b : Nat} {vs : Array Value} {T : TypeId} {row : Option Nat} (h : Bx w b vs T) (hg : w.grownBy w' row) (hne : ∀ k, row = some k → b ≠ k) : Bx w' b vs T := by
  have := hg.block b h.lt (fun e => hne b e.symm rfl)
  unfold Bx at *; rw [this]; exact h
theorem gput3 (W : World) (b : Nat) (v0 v1 v2 : Value) : W.grownBy (((W.setCell ⟨b, 0, none⟩ v0).setCell ⟨b, 1, none⟩ v1).setCell ⟨b, 2, none⟩ v2) (some b) :=
  ((gsetR _ ⟨b, 0, none⟩ v0).trans (gsetR _ ⟨b, 1, none⟩ v1)).trans (gsetR _ ⟨b, 2, none⟩ v2)
theorem below_put3 {B b : Nat} {a W : World} (h : Below B a W) (hb : B ≤ b) (v0 v1 v2 : Value) : Below B a (((W.setCell ⟨b, 0, none⟩ v0).setCell ⟨b, 1, none⟩ v1).setCell ⟨b, 2, none⟩ v2) := ((h.setCell (p := ⟨b, 0, none⟩) hb v0).setCell (p := ⟨b, 1, none⟩) hb v1).setCell (p := ⟨b, 2, none⟩) hb v2
/-- Pairs out of a box. -/
theorem Prs.of_bx {w : World} {g : Nat} {T : TypeId} {ps : List (Int × Int)} (h : Bx w g (pcells ps).toArray T) (h1 : ps.length ≤ 1000) (h2 : ∀ x ∈ ps, i64R x.1 ∧ i64R x.2) : Prs w (some ⟨g, 0, none⟩) ps :=
  ⟨by omega, fun x hx => ⟨(h2 x hx).1.1, (h2 x hx).1.2, (h2 x hx).2.1, (h2 x hx).2.2⟩, fun i hi => by
    obtain ⟨p1, p2⟩ := pcells_at ps i hi
    exact ⟨g, 0, rfl, h.lt, h.cell (0 + i * 2) (by rw [Nat.zero_add]; simpa using p1), h.cell (0 + i * 2 + 1) (by rw [Nat.zero_add]; simpa using p2)⟩⟩
/-- Sides out of a box. -/
theorem Sds.of_bx {w : World} {g : Nat} {T : TypeId} {S : List Sd} {vs : Array Value} (h : Bx w g vs T) (h1 : S.length ≤ 1000) (h2 : ∀ i s, S[i]? = some s → ∃ a' c, vs[i * 2]? = some (.int .i64 s.pl) ∧ vs[i * 2 + 1]? = some (.slice a' s.ps.length c) ∧ Prs w a' s.ps ∧ s.ps.length ≤ 1000 ∧ i64R s.pl) : Sds w (some ⟨g, 0, none⟩) S :=
  ⟨h1, fun i hi => by
    obtain ⟨a', c, e1, e2, hP, hl, hr⟩ := h2 i _ (get_of_lt sd0 hi)
    exact ⟨g, 0, rfl, h.lt, a', c, by rw [Nat.zero_add]; exact h.cell (i * 2) e1, by rw [Nat.zero_add]; exact h.cell (i * 2 + 1) e2, hP, hl, hr⟩⟩

/-- The sides of the chapter's royal, and what is owed. -/
def exSd : List Sd := [⟨3, [(0, 50), (1, 50)]⟩, ⟨1, [(1, 30), (2, 70)]⟩]
def exOw : List Int := [0, 40, 0]
def ExP (w : World) (e : Ending) (w' : World) : Prop := Below w.heap.size w w' ∧ ∃ (aS aO : Option Addr) (cS cO : Nat), e = .returned (.agg #[.int .i64 100, .slice aS 2 cS, .slice aO 3 cO]) ∧ Ry w' aS aO 100 exSd exOw

set_option maxRecDepth 100000 in
set_option maxHeartbeats 2000000 in
theorem Example_any (w : World) : Calls Try.prog 44 #[] w (ExP w) := by
  obtain ⟨W, hW, hb, hs, y0, y1, y2, y3, y4⟩ := boxes5 w #[.int .i64 0, .slice none 0 0, .slice none 0 0] 25 #[.int .i64 0, .int .i64 50, .int .i64 1, .int .i64 50] 53 #[.int .i64 1, .int .i64 30, .int .i64 2, .int .i64 70] 53 #[.int .i64 3, .slice (some ⟨w.heap.size + 1, 0, none⟩) 2 2, .int .i64 1, .slice (some ⟨w.heap.size + 1 + 1, 0, none⟩) 2 2] 39 #[.int .i64 0, .int .i64 40, .int .i64 0] 3
  have hg := gput3 W w.heap.size (.int .i64 100) (.slice (some ⟨w.heap.size + 1 + 1 + 1, 0, none⟩) 2 2) (.slice (some ⟨w.heap.size + 1 + 1 + 1 + 1, 0, none⟩) 3 3)
  have x0 := y0.set3 (.int .i64 100) (.slice (some ⟨w.heap.size + 1 + 1 + 1, 0, none⟩) 2 2) (.slice (some ⟨w.heap.size + 1 + 1 + 1 + 1, 0, none⟩) 3 3)
  have hb' := below_put3 hb (Nat.le_refl _) (b := w.heap.size) (.int .i64 100) (.slice (some ⟨w.heap.size + 1 + 1 + 1, 0, none⟩) 2 2) (.slice (some ⟨w.heap.size + 1 + 1 + 1 + 1, 0, none⟩) 3 3)
  have x1 := y1.gb hg (fun k hk => by injection hk with hk; omega); have x2 := y2.gb hg (fun k hk => by injection hk with hk; omega); have x3 := y3.gb hg (fun k hk => by injection hk with hk; omega); have x4 := y4.gb hg (fun k hk => by injection hk with hk; omega); 
  have HX := hid (And.intro x0 (And.intro x1 (And.intro x2 (And.intro x3 (And.intro x4 hb')))))
  have c0 := y0.cell 0 rfl; have c1 := y0.cell 1 rfl; have c2 := y0.cell 2 rfl
  have f0 := y0.free 0; have f1 := y0.free 1; have f2 := y0.free 2
  clear x0 x1 x2 x3 x4 y0 y1 y2 y3 y4 hb hg hb'
  go_enter Try.func44, Try.ntmps44
  go_wp2_with fail
  obtain ⟨x0, x1, x2, x3, x4, hb⟩ := HX.out
  clear HX hW c0 c1 c2 f0 f1 f2 hs
  generalize World.setCell _ _ _ = V4 at *
  have e0 := x0.cell 0 rfl; have e1 := x0.cell 1 rfl; have e2 := x0.cell 2 rfl
  have q1 : Prs V4 _ [(0, 50), (1, 50)] := Prs.of_bx (ps := [(0, 50), (1, 50)]) x1 (by decide) (by unfold i64R; decide +kernel)
  have q2 : Prs V4 _ [(1, 30), (2, 70)] := Prs.of_bx (ps := [(1, 30), (2, 70)]) x2 (by decide) (by unfold i64R; decide +kernel)
  have q3 : Sds V4 _ exSd := Sds.of_bx x3 (by decide) (fun i s hi => by
    match i, hi with
    | 0, hi => cases hi; exact ⟨_, _, rfl, rfl, q1, by decide, by decide, by decide⟩
    | 1, hi => cases hi; exact ⟨_, _, rfl, rfl, q2, by decide, by decide, by decide⟩)
  have q4 : Ints V4 _ exOw := Ints.of_bx x4 (by decide) (by decide)
  go_wp2
  refine bodyPost_ret (v := .agg #[.int .i64 100, .slice (some ⟨w.heap.size + 1 + 1 + 1, 0, none⟩) 2 2, .slice (some ⟨w.heap.size + 1 + 1 + 1 + 1, 0, none⟩) 3 3]) ?_ rfl ⟨hb, _, _, _, _, rfl, q3, q4, by decide, by decide, by decide⟩
  simp [results, Try.results44, go_sem, e0, e1, e2]

theorem ex_exact : exU 100 exSd exOw 0 = 75 ∧ exL 100 exSd exOw 0 = 2 ∧ askE 100 exSd exOw (hasB exOw 0) = 0 := by decide +kernel
theorem ex_shares : shR 100 exSd exOw = [38, 45, 17] ∧ askE 100 exSd exOw true = 0 := by decide +kernel
theorem ex_paid : stR paidV 100 exSd exOw = [38, 5, 17] := by decide +kernel
theorem ex_odd : odV 100 exSd exOw 2 = 15 ∧ odE 100 exSd exOw 2 = 0 := by decide +kernel
theorem ex_least : leV 100 exSd exOw 2 18 = 101 ∧ leE 100 exSd exOw 2 18 = 0 := by decide +kernel
set_option maxRecDepth 100000 in
set_option maxHeartbeats 6000000 in
theorem works_any (w : World) : Calls Try.prog 14 #[] w fun e w' => e = .returned (.bool true) ∧ Below w.heap.size w w' := by
  have hEx := Example_any w
  go_enter Try.func14, Try.ntmps14
  go_wp2_with fail
  refine hEx.mono ?_
  rintro e V1 ⟨hb, aS, aO, cS, cO, rfl, hX⟩
  clear hEx
  have h1 : ∀ V, Ry V aS aO 100 exSd exOw → _ := fun V h => Exact_any 100 aS aO cS cO exSd exOw 0 V h
  have h2 : ∀ V, Ry V aS aO 100 exSd exOw → _ := fun V h => Shares_any 100 aS aO cS cO exSd exOw V h
  have h3 : ∀ V, Ry V aS aO 100 exSd exOw → _ := fun V h => Paid_any 100 aS aO cS cO exSd exOw V h
  have h4 : ∀ V, Ry V aS aO 100 exSd exOw → _ := fun V h => Least_any 100 aS aO cS cO exSd exOw 2 18 V h
  have h5 : ∀ V, Ry V aS aO 100 exSd exOw → _ := fun V h => Odd_any 100 aS aO cS cO exSd exOw 2 V h
  rw [ex_exact.1, ex_exact.2.1, ex_exact.2.2] at h1
  rw [ex_shares.1, ex_shares.2] at h2
  rw [ex_paid, ex_shares.2] at h3
  rw [ex_least.1, ex_least.2] at h4
  rw [ex_odd.1, ex_odd.2] at h5
  have hl1 : exSd.length = 2 := rfl
  have hl2 : exOw.length = 3 := rfl
  rw [hl1, hl2] at h1 h2 h3 h4 h5
  clear hl1 hl2
  have hba := below_one (w := V1) (.cells #[.int .i64 100, .slice aS 2 cS, .slice aO 3 cO] 25)
  have x0 := Bx.new V1 #[.int .i64 100, .slice aS 2 cS, .slice aO 3 cO] 25
  have HX := hid (And.intro x0 (And.intro (hX.below hba (Nat.le_refl _)) (hb.trans (hba.mono hb.size))))
  clear x0 hba hX hb
  go_upto_region 2 with fail
  obtain ⟨x0, hX, hb⟩ := HX.out
  clear HX
  generalize V1.heap.size = s0 at *
  generalize World.alloc _ _ = V2 at *
  have c0 := x0.cell 0 rfl; have c1 := x0.cell 1 rfl; have c2 := x0.cell 2 rfl
  go_wp2_with fail
  refine (h1 _ hX).mono ?_
  rintro e Vc1 ⟨rfl, hb1⟩
  clear c0 c1 c2
  replace x0 := x0.below hb1
  replace hX := hX.below hb1 (Nat.le_refl _)
  replace hb := hb.trans (hb1.mono hb.size)
  clear hb1
  have c0 := x0.cell 0 rfl; have c1 := x0.cell 1 rfl; have c2 := x0.cell 2 rfl
  clear h1
  go_wp2_with fail
  refine (h2 _ hX).mono ?_
  rintro e Vc2 ⟨a2, k2, rfl, hI2, hb1⟩
  clear c0 c1 c2
  replace x0 := x0.below hb1
  replace hX := hX.below hb1 (Nat.le_refl _)
  replace hb := hb.trans (hb1.mono hb.size)
  clear hb1
  have c0 := x0.cell 0 rfl; have c1 := x0.cell 1 rfl; have c2 := x0.cell 2 rfl
  clear h2
  go_wp2_with fail
  refine (h3 _ hX).mono ?_
  rintro e Vc3 ⟨a3, k3, rfl, hI3, hb1⟩
  clear c0 c1 c2
  replace x0 := x0.below hb1
  replace hX := hX.below hb1 (Nat.le_refl _)
  replace hI2 := hI2.below hb1 (Nat.le_refl _)
  replace hb := hb.trans (hb1.mono hb.size)
  clear hb1
  have c0 := x0.cell 0 rfl; have c1 := x0.cell 1 rfl; have c2 := x0.cell 2 rfl
  clear h3
  go_wp2_with fail
  refine (h4 _ hX).mono ?_
  rintro e Vc4 ⟨rfl, hb1⟩
  clear c0 c1 c2
  replace x0 := x0.below hb1
  replace hX := hX.below hb1 (Nat.le_refl _)
  replace hI2 := hI2.below hb1 (Nat.le_refl _)
  replace hI3 := hI3.below hb1 (Nat.le_refl _)
  replace hb := hb.trans (hb1.mono hb.size)
  clear hb1
  have c0 := x0.cell 0 rfl; have c1 := x0.cell 1 rfl; have c2 := x0.cell 2 rfl
  clear h4
  go_wp2_with fail
  refine (h5 _ hX).mono ?_
  rintro e Vc5 ⟨rfl, hb1⟩
  clear c0 c1 c2
  replace x0 := x0.below hb1
  replace hX := hX.below hb1 (Nat.le_refl _)
  replace hI2 := hI2.below hb1 (Nat.le_refl _)
  replace hI3 := hI3.below hb1 (Nat.le_refl _)
  replace hb := hb.trans (hb1.mono hb.size)
  clear hb1
  have c0 := x0.cell 0 rfl; have c1 := x0.cell 1 rfl; have c2 := x0.cell 2 rfl
  clear h5
  clear c0 c1 c2 x0 hX
  have hba := below_one (w := Vc5) (.cells #[.int .i64 38, .int .i64 45, .int .i64 17] 3)
  have hL : Ints (Vc5.alloc (.cells #[.int .i64 38, .int .i64 45, .int .i64 17] 3)) (some ⟨Vc5.heap.size, 0, none⟩) [38, 45, 17] := Ints.of_bx (Bx.new Vc5 #[.int .i64 38, .int .i64 45, .int .i64 17] 3) (by decide) (by decide)
  have hsm := SameInts_eq a2 _ k2 3 [38, 45, 17] _ (hI2.below hba (Nat.le_refl _)) hL
  have hI3n := hI3.below hba (Nat.le_refl _)
  have hbn := hb.trans (hba.mono hb.size)
  clear hba hL hI2 hI3 hb
  go_wp2_with fail
  refine hsm.mono ?_
  rintro e V8 ⟨rfl, hb1⟩
  replace hI3n := hI3n.below hb1 (Nat.le_refl _)
  replace hbn := hbn.trans (hb1.mono hbn.size)
  clear hb1 hsm
  have hba := below_one (w := V8) (.cells #[.int .i64 38, .int .i64 5, .int .i64 17] 3)
  have hL : Ints (V8.alloc (.cells #[.int .i64 38, .int .i64 5, .int .i64 17] 3)) (some ⟨V8.heap.size, 0, none⟩) [38, 5, 17] := Ints.of_bx (Bx.new V8 #[.int .i64 38, .int .i64 5, .int .i64 17] 3) (by decide) (by decide)
  have hsm := SameInts_eq a3 _ k3 3 [38, 5, 17] _ (hI3n.below hba (Nat.le_refl _)) hL
  have hb := hbn.trans (hba.mono hbn.size)
  clear hba hL hI3n hbn
  go_wp2_with fail
  refine hsm.mono ?_
  rintro e V9 ⟨rfl, hb1⟩
  replace hb := hb.trans (hb1.mono hb.size)
  clear hb1 hsm
  go_wp2
  go_ret
  exact ⟨rfl, hb⟩
end Go.Proofs.Ytakodllejndfeaa
