import Derived.Test.YtknaljghpfeikaaT4
namespace Go.Proofs.Ytknaljghpfeikaa
open Go.RowKit

set_option maxRecDepth 100000 in
set_option maxHeartbeats 4000000 in
theorem hear_any (ar ap : Option Addr) (cr cp : Nat) (rs ps : List (Int × Int)) (p0 way step : Int) (g : Nat) (v : Value) (c : Car) (B : Nat) (w : World) (hc : CarAt w g ar ap cr cp rs ps p0 way step v c) (hB : B ≤ g)
    (w0 : World) (hP : Prs w0 ap ps) (hb0 : Below B w0 w) (hB0 : w0.heap.size ≤ B) (T : Tr) (hT : T.prs = ps) (hpx : ∀ p ∈ ps, 0 ≤ p.1 ∧ p.1 < 12) :
    Calls Try.prog 74 #[.pointer (some ⟨g, 0, none⟩)] w (CarP g ar ap cr cp rs ps p0 way step v (hearC T c) w) := by
  have lp := hP.1
  have lpI : (ps.length : Int) ≤ 4611686018427387903 := by omega
  have c10 := Bx.cell hc 10 (v := .slice ap ps.length cp) rfl
  have hgw := Bx.lt hc
  have Hc := hid hc; clear hc
  go_enter Try.func74, Try.ntmps74
  go_wp2
  clear c10
  go_loopw [10] (fun v10 wr => ∃ j : Nat, j ≤ ps.length ∧ v10 = .int .i64 (j : Int) ∧ w.grownBy wr (some g) ∧ CarAt wr g ar ap cr cp rs ps p0 way step v { c with pins := hearS (ps.take j) c.heard c.time c.pins }) (fun v10 _ => ps.length - (intOf v10).toNat)
  case atStart => exact ⟨0, Nat.zero_le _, rfl, World.grownBy.refl _ _, Hc.out⟩
  case round =>
    obtain ⟨j, hj, rfl, hg, hcr⟩ := hrel
    have hbr : Below B w0 wr := hb0.grown hg (by omega) (fun k hk => by cases hk; exact hB)
    obtain ⟨pn, hpn⟩ : ∃ f, f = hearS (ps.take j) c.heard c.time c.pins := ⟨_, rfl⟩
    rw [← hpn] at hcr
    by_cases hlt : j < ps.length
    · obtain ⟨b, off, x, y, rfl, hbs, hc1, hc2, _, _, hx, _⟩ := (hP.below hbr hB0).at hlt
      have hjI : (j : Int) < (ps.length : Int) := by omega
      have hj0 : (0 : Int) ≤ (j : Int) := by omega
      have hxx := hpx (x, y) (List.mem_of_getElem? hx.out)
      obtain ⟨kx, rfl⟩ : ∃ k : Nat, x = (k : Int) := ⟨x.toNat, by have := hxx.1; dsimp only at this; omega⟩
      have hk12 : kx < 12 := by have := hxx.2; dsimp only at this; omega
      have hnx : hearS (ps.take (j + 1)) c.heard c.time c.pins = hear1 c.heard c.time pn ((kx : Int), y) := by
        rw [hpn, List.take_add_one, hx.out]; simp [hearS]
      have Hnx := hid hnx
      have hkI : (kx : Int) < 12 := by omega
      have hk0 : (0 : Int) ≤ (kx : Int) := by omega
      have hb1 := below_one (w := wr) (.cells #[.int .i64 (kx : Int), .int .i64 y] 40)
      have xp := Bx.new wr #[.int .i64 (kx : Int), .int .i64 y] 40
      have hc1' := Bx.below hcr hb1
      have hg1 := gtr hg (gbel (g := g) hb1)
      have hgr := Bx.lt hcr
      clear hnx hpn hx hxx hb1 hcr hg
      go_upto_region 3 with fail
      generalize wr.alloc (.cells #[.int .i64 (kx : Int), .int .i64 y] 40) = V at *
      generalize wr.heap.size = h at *
      have g0 := xp.cell 0 rfl; have g1 := xp.cell 1 rfl
      have v23 := Bx.cell hc1' 23 (v := .int .i64 c.heard) rfl
      have v24 := Bx.cell hc1' 24 (v := .int .i64 c.time) rfl
      by_cases h1 : c.heard < y
      · by_cases h2 : y ≤ c.time
        · have hr : hearS (ps.take (j + 1)) c.heard c.time c.pins = fun i => decide (i = kx) || pn i := by
            rw [Hnx.out]; unfold hear1; rw [if_pos ⟨h1, h2⟩]; simp
          have HR := hid hr; clear hr
          go_quiet ((fail))
          generalize hV2 : V.drewN nq = V2
          have hbd : Below V.heap.size V V2 := by rw [← hV2]; exact below_drewN (Below.refl _ _) _
          have hc2' := Bx.below hc1' hbd
          have hg2 := gtr hg1 (gbel (g := g) hbd)
          have xp2 := xp.below hbd
          clear hV2 g0 g1 v23 v24
          go_upto_region 4 with fail
          have e0 := xp2.ext 0 rfl
          refine wp_region_ext_tail 6 (by kernel_rfl) (by kernel_rfl) ?_
          simp only [List.take_succ_cons, List.take_zero, List.drop_succ_cons, List.drop_zero]
          repeat (quiet_step (first | fail))
          refine wpQuiet_nil ?_
          intro _ hw'
          obtain ⟨t, rfl⟩ := hw'
          have hb := t.below
          have h3 := Bx.below hc2' hb
          have hg3 := gtr hg2 (gbel (g := g) hb)
          clear e0
          generalize t.w = V3 at *
          have fr := Bx.free h3 (11 + kx)
          have kc := Bx.cell h3 (11 + kx) (car_pin _ hk12)
          have h4 : CarAt (V3.setCell ⟨g, 11 + kx, none⟩ (.bool true)) g ar (some ⟨b, off, none⟩) cr cp rs ps p0 way step v { c with pins := fun i => decide (i = kx) || pn i } := by
            have := Bx.set h3 (11 + kx) (.bool true)
            rw [car_on _ hk12] at this
            exact this
          have hg4 := gtr hg3 (gset V3 ⟨g, 11 + kx, none⟩ (.bool true))
          go_wp2
          go_roundw
          case rel => exact ⟨j + 1, by omega, by go_num, hg4, by rw [HR.out]; exact h4⟩
          case measure => simp [intOf]; omega
        · have hr : hearS (ps.take (j + 1)) c.heard c.time c.pins = pn := by
            rw [Hnx.out]; unfold hear1; rw [if_neg (fun hh => h2 hh.2)]
          have HR := hid hr; clear hr
          have h3 : c.time < y := by omega
          clear h2
          go_quiet ((fail))
          generalize hV2 : V.drewN nq = V2
          have hbd : Below V.heap.size V V2 := by rw [← hV2]; exact below_drewN (Below.refl _ _) _
          have hc2' := Bx.below hc1' hbd
          have hg2 := gtr hg1 (gbel (g := g) hbd)
          clear hV2 g0 g1 v23 v24
          go_wp2
          go_roundw
          case rel => exact ⟨j + 1, by omega, by go_num, hg2, by rw [HR.out]; exact hc2'⟩
          case measure => simp [intOf]; omega
      · have hr : hearS (ps.take (j + 1)) c.heard c.time c.pins = pn := by
          rw [Hnx.out]; unfold hear1; rw [if_neg (fun hh => h1 hh.1)]
        have HR := hid hr; clear hr
        have h3 : y ≤ c.heard := by omega
        clear h1
        have hbd : Below V.heap.size V V.drew := (Below.refl _ _).drew
        have hc2' := Bx.below hc1' hbd
        have hg2 := gtr hg1 (gbel (g := g) hbd)
        have xp2 := xp.below hbd
        clear g0 g1 v23 v24
        refine wp_region_head 15 (fun w' => CarAt w' g ar (some ⟨b, off, none⟩) cr cp rs ps p0 way step v { c with pins := pn } ∧ Bx w' h #[.int .i64 (kx : Int), .int .i64 y] 40) (by kernel_rfl) rfl ?_
        generalize V.drew = Y0 at *
        refine HeadAt.take (i := 0) (.pointer (some ⟨g, 0, none⟩)) rfl (by kernel_rfl) (.inl ⟨rfl, fun _ _ => by simp [go_sem]⟩) ⟨hc2', xp2⟩ ?_
        refine HeadAt.take (i := 1) (.pointer (some ⟨g, 0, none⟩)) rfl (by kernel_rfl) (.inl ⟨rfl, fun _ _ => by simp [go_sem]⟩) ⟨hc2', xp2⟩ ?_
        refine HeadAt.take (i := 2) (.pointer (some ⟨g, 23, none⟩)) rfl (by kernel_rfl) (.inl ⟨rfl, fun _ _ => by simp [go_sem]⟩) ⟨hc2', xp2⟩ ?_
        refine HeadAt.take (i := 3) (.int .i64 c.heard) rfl (by kernel_rfl) (.inl ⟨rfl, fun w' z => ?_⟩) ⟨hc2', xp2⟩ ?_
        · (have z0 := Bx.cell z.1 23 (v := .int .i64 c.heard) rfl; simp [go_sem, z0])
        refine HeadAt.take (i := 4) (.pointer (some ⟨h, 1, none⟩)) rfl (by kernel_rfl) (.inl ⟨rfl, fun _ _ => by simp [go_sem]⟩) ⟨hc2', xp2⟩ ?_
        refine HeadAt.take (i := 5) (.int .i64 y) rfl (by kernel_rfl) (.inl ⟨rfl, fun w' z => ?_⟩) ⟨hc2', xp2⟩ ?_
        · (have z0 := Bx.cell z.2 1 (v := .int .i64 y) rfl; simp [go_sem, z0])
        refine HeadAt.take (i := 6) (.bool false) rfl (by kernel_rfl) (.inl ⟨rfl, fun _ _ => by simp [go_sem]; omega⟩) ⟨hc2', xp2⟩ ?_
        refine HeadAt.take (i := 7) (.bool false) rfl (by kernel_rfl) (.inl ⟨rfl, fun _ _ => by simp [go_sem]⟩) ⟨hc2', xp2⟩ ?_
        refine HeadAt.take (i := 8) undef rfl (by kernel_rfl) (.inr ⟨by kernel_rfl, rfl⟩) ⟨hc2', xp2⟩ ?_
        refine HeadAt.take (i := 9) undef rfl (by kernel_rfl) (.inr ⟨by kernel_rfl, rfl⟩) ⟨hc2', xp2⟩ ?_
        refine HeadAt.take (i := 10) undef rfl (by kernel_rfl) (.inr ⟨by kernel_rfl, rfl⟩) ⟨hc2', xp2⟩ ?_
        refine HeadAt.take (i := 11) undef rfl (by kernel_rfl) (.inr ⟨by kernel_rfl, rfl⟩) ⟨hc2', xp2⟩ ?_
        refine HeadAt.take (i := 12) undef rfl (by kernel_rfl) (.inr ⟨by kernel_rfl, rfl⟩) ⟨hc2', xp2⟩ ?_
        refine HeadAt.take (i := 13) undef rfl (by kernel_rfl) (.inr ⟨by kernel_rfl, rfl⟩) ⟨hc2', xp2⟩ ?_
        refine HeadAt.take (i := 14) undef rfl (by kernel_rfl) (.inr ⟨by kernel_rfl, rfl⟩) ⟨hc2', xp2⟩ ?_
        refine HeadAt.done (by kernel_rfl) ?_
        (try simp only [Act.put, List.drop_succ_cons, List.drop_zero, List.getElem_toArray, List.getElem_cons_succ, List.getElem_cons_zero])
        go_wp2_with fail
        refine NoPanic.normal ?_
        go_wp2_with fail
        go_roundw
        case rel => exact ⟨j + 1, by omega, by go_num, hg2, by rw [HR.out]; exact hc2'⟩
        case measure => simp [intOf]; omega
    · have hjI : (ps.length : Int) ≤ (j : Int) := by omega
      have hall : pn = hearS T.prs c.heard c.time c.pins := by rw [hpn, List.take_of_length_le (by omega), hT]
      have hfin : hearC T c = { c with pins := pn, heard := c.time } := by rw [hall]; rfl
      have v24 := Bx.cell hcr 24 (v := .int .i64 c.time) rfl
      have v23 := Bx.cell hcr 23 (v := .int .i64 c.heard) rfl
      have fr := Bx.free hcr 23
      have h4 : CarAt (wr.setCell ⟨g, 23, none⟩ (.int .i64 c.time)) g ar ap cr cp rs ps p0 way step v (hearC T c) := by rw [hfin]; exact Bx.set hcr 23 _
      have hg4 := gtr hg (gset wr ⟨g, 23, none⟩ (.int .i64 c.time))
      clear hall hfin hpn
      go_wp2
      go_end0
      exact ⟨rfl, hg4, h4⟩
end Go.Proofs.Ytknaljghpfeikaa
