import Derived.Test.YtknaljghpfeikaaT10
namespace Go.Proofs.Ytknaljghpfeikaa
open Go.RowKit

set_option maxRecDepth 100000 in
set_option maxHeartbeats 1000000 in
theorem Stand_bad (ar ap : Option Addr) (cr cp : Nat) (rs ps : List (Int × Int)) (p0 way step : Int) (n : Int) (w : World) (hR : Prs w ar rs) (hP : Prs w ap ps) (hv : trB rs ps p0 way step = false) :
    Calls Try.prog 30 #[.agg #[.slice ar rs.length cr, .int .i64 p0, .int .i64 way, .int .i64 step, .slice ap ps.length cp], .int .i64 n] w fun e w' => e = .returned (.tuple #[.agg #[.int .i64 0, .int .i64 0, .int .i64 0], .int .i64 20]) ∧ Below w.heap.size w w' := by
  obtain ⟨W, hW, hb, hs, x0, x4⟩ := boxes2 w #[.slice ar rs.length cr, .int .i64 p0, .int .i64 way, .int .i64 step, .slice ap ps.length cp] 25 #[.int .i64 0, .int .i64 0, .int .i64 0] 50
  replace hR := hR.below hb (Nat.le_refl _); replace hP := hP.below hb (Nat.le_refl _)
  have c0 := x0.cell 0 rfl; have c1 := x0.cell 1 rfl; have c2 := x0.cell 2 rfl; have c3 := x0.cell 3 rfl; have c4 := x0.cell 4 rfl
  go_enter Try.func30, Try.ntmps30
  go_wp2_with fail
  refine (valid_any _ _ _ _ _ _ _ _ _ _ hR hP).mono ?_
  rintro e W1 ⟨rfl, hb1⟩
  rw [hv]
  replace hb := hb.trans (hb1.mono hb.size)
  replace x4 := x4.below hb1
  clear hW x0 c0 c1 c2 c3 c4 hb1
  have f0 := x4.free 0; have f1 := x4.free 1; have f2 := x4.free 2
  have z0 := x4.cell 0 rfl; have z1 := x4.cell 1 rfl; have z2 := x4.cell 2 rfl
  have x5 := x4.set3 (.int .i64 0) (.int .i64 0) (.int .i64 0)
  have k0 := x5.cell 0 rfl; have k1 := x5.cell 1 rfl; have k2 := x5.cell 2 rfl
  have hb2 := ((hb.setCell (p := ⟨w.heap.size + 1, 0, none⟩) (by show w.heap.size ≤ w.heap.size + 1; omega) (.int .i64 0)).setCell (p := ⟨w.heap.size + 1, 1, none⟩) (by show w.heap.size ≤ w.heap.size + 1; omega) (.int .i64 0)).setCell (p := ⟨w.heap.size + 1, 2, none⟩) (by show w.heap.size ≤ w.heap.size + 1; omega) (.int .i64 0)
  go_wp2
  refine bodyPost_ret (v := .tuple #[.agg #[.int .i64 0, .int .i64 0, .int .i64 0], .int .i64 20]) ?_ rfl ⟨rfl, hb2⟩
  simp [results, Try.results30, go_sem, k0, k1, k2]
set_option maxRecDepth 100000 in
set_option maxHeartbeats 1000000 in
theorem Stand_arg (ar ap : Option Addr) (cr cp : Nat) (rs ps : List (Int × Int)) (p0 way step : Int) (n : Int) (w : World) (hR : Prs w ar rs) (hP : Prs w ap ps) (hv : trB rs ps p0 way step = true) (hn : inR 0 n 9999 = false) :
    Calls Try.prog 30 #[.agg #[.slice ar rs.length cr, .int .i64 p0, .int .i64 way, .int .i64 step, .slice ap ps.length cp], .int .i64 n] w fun e w' => e = .returned (.tuple #[.agg #[.int .i64 0, .int .i64 0, .int .i64 0], .int .i64 1]) ∧ Below w.heap.size w w' := by
  obtain ⟨W, hW, hb, hs, x0, x4⟩ := boxes2 w #[.slice ar rs.length cr, .int .i64 p0, .int .i64 way, .int .i64 step, .slice ap ps.length cp] 25 #[.int .i64 0, .int .i64 0, .int .i64 0] 50
  replace hR := hR.below hb (Nat.le_refl _); replace hP := hP.below hb (Nat.le_refl _)
  have c0 := x0.cell 0 rfl; have c1 := x0.cell 1 rfl; have c2 := x0.cell 2 rfl; have c3 := x0.cell 3 rfl; have c4 := x0.cell 4 rfl
  go_enter Try.func30, Try.ntmps30
  go_wp2_with fail
  refine (valid_any _ _ _ _ _ _ _ _ _ _ hR hP).mono ?_
  rintro e W1 ⟨rfl, hb1⟩
  rw [hv]
  replace hb := hb.trans (hb1.mono hb.size)
  replace x4 := x4.below hb1
  clear hW x0 c0 c1 c2 c3 c4 hb1
  have f0 := x4.free 0; have f1 := x4.free 1; have f2 := x4.free 2
  have z0 := x4.cell 0 rfl; have z1 := x4.cell 1 rfl; have z2 := x4.cell 2 rfl
  have x5 := x4.set3 (.int .i64 0) (.int .i64 0) (.int .i64 0)
  have k0 := x5.cell 0 rfl; have k1 := x5.cell 1 rfl; have k2 := x5.cell 2 rfl
  have hb2 := ((hb.setCell (p := ⟨w.heap.size + 1, 0, none⟩) (by show w.heap.size ≤ w.heap.size + 1; omega) (.int .i64 0)).setCell (p := ⟨w.heap.size + 1, 1, none⟩) (by show w.heap.size ≤ w.heap.size + 1; omega) (.int .i64 0)).setCell (p := ⟨w.heap.size + 1, 2, none⟩) (by show w.heap.size ≤ w.heap.size + 1; omega) (.int .i64 0)
  go_wp2_with (first | (go_at_call 57; refine (isTime_any _ _).mono ?_; rintro e w' ⟨rfl, rfl⟩))
  refine bodyPost_ret (v := .tuple #[.agg #[.int .i64 0, .int .i64 0, .int .i64 0], .int .i64 1]) ?_ rfl ⟨rfl, hb2⟩
  simp [results, Try.results30, go_sem, k0, k1, k2]

def standV (c : Car) : Value := .agg #[.int .i64 (c.pos : Nat), .int .i64 (if c.up then 1 else -1), .int .i64 c.side]
set_option maxRecDepth 100000 in
set_option maxHeartbeats 3000000 in
theorem Stand_ok (ar ap : Option Addr) (cr cp : Nat) (rs ps : List (Int × Int)) (p0 way step : Int) (n : Int) (w : World) (hR : Prs w ar rs) (hP : Prs w ap ps) (hv : trB rs ps p0 way step = true) (hn : inR 0 n 9999 = true) (T : Tr) (hT : IsTr T rs ps p0 way step) (c : Car) (hce : c = runM T (n + 1)) :
    Calls Try.prog 30 #[.agg #[.slice ar rs.length cr, .int .i64 p0, .int .i64 way, .int .i64 step, .slice ap ps.length cp], .int .i64 n] w fun e w' => e = .returned (.tuple #[standV c, .int .i64 0]) ∧ Below w.heap.size w w' := by
  have hn2 := inR_iff.1 hn
  have hbm : n + 1 ≤ maxI := by unfold maxI; omega
  have hrun := fun g B w0 w a cv hc hown hne hB hR hP hb0 hB0 => run_any ar ap cr cp rs ps p0 way step g T hT B w0 w a cv hc hown hne hB hR hP hb0 hB0 (n + 1) hbm
  rw [← hce] at hrun
  clear hce hbm
  obtain ⟨Wb, hWb, hb, hs, x0, x1⟩ := boxes2 w #[.slice ar rs.length cr, .int .i64 p0, .int .i64 way, .int .i64 step, .slice ap ps.length cp] 25 #[.int .i64 0, .int .i64 0, .int .i64 0] 50
  have hRb := hR.below hb (Nat.le_refl _); have hPb := hP.below hb (Nat.le_refl _)
  have c0 := x0.cell 0 rfl; have c1 := x0.cell 1 rfl; have c2 := x0.cell 2 rfl; have c3 := x0.cell 3 rfl; have c4 := x0.cell 4 rfl
  go_enter Try.func30, Try.ntmps30
  go_wp2_with fail
  refine (valid_any _ _ _ _ _ _ _ _ _ _ hRb hPb).mono ?_
  rintro e V ⟨rfl, hb9⟩
  rw [hv]
  have hRv := hRb.below hb9 (Nat.le_refl _); have hPv := hPb.below hb9 (Nat.le_refl _)
  replace x1 := x1.below hb9
  have hbV := hb.trans (hb9.mono hb.size)
  replace x0 := x0.below hb9
  clear c0 c1 c2 c3 c4 hWb
  have c0 := x0.cell 0 rfl; have c1 := x0.cell 1 rfl; have c2 := x0.cell 2 rfl; have c3 := x0.cell 3 rfl; have c4 := x0.cell 4 rfl
  have hsV := hb9.size
  go_wp2_with (first | (go_at_call 57; refine (isTime_any _ _).mono ?_; rintro e w' ⟨rfl, rfl⟩) | (go_at_call 58; refine (newCarriage_any ar ap cr cp rs ps p0 way step V T hT).mono ?_; rintro e W1 ⟨hb1, g, rfl, hg, hc⟩))
  have hn1 : W1.ownsRow V.heap.size 39 2 (.slice none 0 0) 0 [] := World.ownsRow_nil _ _ _ _
  have hrn := hrun g V.heap.size V W1 none 0 hc hn1 (by simp [Value.ownBlock]) hg hRv hPv hb1 (Nat.le_refl _)
  clear c0 c1 c2 c3 c4
  refine hrn.mono ?_
  rintro e W2 ⟨rfl, hb2, a, cv, hc2, hown, hne⟩
  have x12 := Bx.belowB (x1.below hb1) hb2 (by have := x1.lt; omega)
  have hb3 : Below w.heap.size w W2 := (hbV.trans (hb1.mono hbV.size)).trans (hb2.mono hbV.size)
  have v0 := Bx.cell hc2 0 (v := .int .i64 (c.pos : Nat)) rfl
  obtain ⟨d, hd⟩ : ∃ d : Int, d = if c.up then 1 else -1 := ⟨_, rfl⟩
  have v1 := Bx.cell hc2 1 (v := .int .i64 d) (by rw [hd]; rfl)
  have v2 := Bx.cell hc2 2 (v := .int .i64 c.side) rfl
  have f0 := x12.free 0; have f1 := x12.free 1; have f2 := x12.free 2
  have z0 := x12.cell 0 rfl; have z1 := x12.cell 1 rfl; have z2 := x12.cell 2 rfl
  have x5 := x12.set3 (.int .i64 (c.pos : Nat)) (.int .i64 d) (.int .i64 c.side)
  have k0 := x5.cell 0 rfl; have k1 := x5.cell 1 rfl; have k2 := x5.cell 2 rfl
  have hb4 := ((hb3.setCell (p := ⟨w.heap.size + 1, 0, none⟩) (by show w.heap.size ≤ w.heap.size + 1; omega) (.int .i64 (c.pos : Nat))).setCell (p := ⟨w.heap.size + 1, 1, none⟩) (by show w.heap.size ≤ w.heap.size + 1; omega) (.int .i64 d)).setCell (p := ⟨w.heap.size + 1, 2, none⟩) (by show w.heap.size ≤ w.heap.size + 1; omega) (.int .i64 c.side)
  have HD := hid hd
  have HB := hid hb4
  clear hd hb4 hown x5 hc2 hrn hc hrun
  go_wp2
  refine bodyPost_ret (v := .tuple #[standV c, .int .i64 0]) ?_ rfl ⟨rfl, HB.out⟩
  unfold standV
  rw [← HD.out]
  simp [results, Try.results30, go_sem, k0, k1, k2]
end Go.Proofs.Ytknaljghpfeikaa
