import Derived.Test.YtknaljghpfeikaaT8
namespace Go.Proofs.Ytknaljghpfeikaa
open Go.RowKit

theorem Bx.belowB {W W' : World} {b B : Nat} {vs : Array Value} {T : TypeId} (h : Bx W b vs T) (hb : Below B W W') (hlt : b < B) : Bx W' b vs T := by
  unfold Bx at *; rw [hb.block b hlt]; exact h
/-- What a carriage has done, as a value. -/
def deedV (c : Car) (v : Value) : Value := .agg #[.int .i64 (c.pos : Nat), .int .i64 (if c.up then 1 else -1), .int .i64 c.side, v, .int .i64 (c.steps : Nat), .int .i64 c.fin]
theorem rng_run {T : Tr} (hv : VT T) {b : Int} (hb : b ≤ maxI) : Rng T (runM T b) 2700 := by
  obtain ⟨K, hK⟩ := run_ex hv hb
  rw [runM_is hK]
  have h := hK.rng K (Nat.le_refl _)
  have hk := hK.kb
  refine ⟨h.inv, h.t0, ?_, Nat.le_trans h.pl hk, fun p hp => ?_, Nat.le_trans h.sb hk, ?_⟩
  · rcases h.tb with h | h
    · left; omega
    · right; exact h
  · have := h.pb p hp; omega
  · have := h.fb; omega
theorem gset6 (W : World) (g : Nat) (v0 v1 v2 v3 v4 v5 : Value) : W.grownBy ((((((W.setCell ⟨g, 0, none⟩ v0).setCell ⟨g, 1, none⟩ v1).setCell ⟨g, 2, none⟩ v2).setCell ⟨g, 3, none⟩ v3).setCell ⟨g, 4, none⟩ v4).setCell ⟨g, 5, none⟩ v5) (some g) :=
  gtr (gtr (gtr (gtr (gtr (gset W ⟨g, 0, none⟩ v0) (gset _ ⟨g, 1, none⟩ v1)) (gset _ ⟨g, 2, none⟩ v2)) (gset _ ⟨g, 3, none⟩ v3)) (gset _ ⟨g, 4, none⟩ v4)) (gset _ ⟨g, 5, none⟩ v5)

def DeedP (T : Tr) (b : Int) (w : World) (e : Ending) (w' : World) : Prop :=
  Below w.heap.size w w' ∧ ∃ (a : Option Addr) (cv : Nat), e = .returned (deedV (runM T b) (.slice a (runM T b).plays.length cv)) ∧ Prs w' a (runM T b).plays

set_option maxRecDepth 100000 in
set_option maxHeartbeats 4000000 in
theorem deedsOf_any (ar ap : Option Addr) (cr cp : Nat) (rs ps : List (Int × Int)) (p0 way step : Int) (w : World) (hR : Prs w ar rs) (hP : Prs w ap ps) (T : Tr) (hT : IsTr T rs ps p0 way step) : Calls Try.prog 53 #[.agg #[.slice ar rs.length cr, .int .i64 p0, .int .i64 way, .int .i64 step, .slice ap ps.length cp]] w (DeedP T maxI w) := by
  obtain ⟨c, hce⟩ : ∃ c, c = runM T maxI := ⟨_, rfl⟩
  have hgoal : ∀ e w', (Below w.heap.size w w' ∧ ∃ (a : Option Addr) (cv : Nat), e = .returned (deedV c (.slice a c.plays.length cv)) ∧ Prs w' a c.plays) → DeedP T maxI w e w' := fun e w' h => by unfold DeedP; rw [← hce]; exact h
  refine Calls.mono ?_ hgoal
  clear hgoal
  have hrg := rng_run hT.hv (Int.le_refl maxI)
  have hrun := fun g B w0 w a cv hc hown hne hB hR hP hb0 hB0 => run_any ar ap cr cp rs ps p0 way step g T hT B w0 w a cv hc hown hne hB hR hP hb0 hB0 maxI (Int.le_refl _)
  rw [← hce] at hrg hrun
  clear hce
  obtain ⟨Wb, hWb, hb, hs, x0, x1⟩ := boxes2 w #[.slice ar rs.length cr, .int .i64 p0, .int .i64 way, .int .i64 step, .slice ap ps.length cp] 25 #[.int .i64 0, .int .i64 0, .int .i64 0, .slice none 0 0, .int .i64 0, .int .i64 0] 68
  have hRb := hR.below hb (Nat.le_refl _); have hPb := hP.below hb (Nat.le_refl _)
  have c0 := x0.cell 0 rfl; have c1 := x0.cell 1 rfl; have c2 := x0.cell 2 rfl; have c3 := x0.cell 3 rfl; have c4 := x0.cell 4 rfl
  go_enter Try.func53, Try.ntmps53
  go_wp2_with fail
  refine (newCarriage_any ar ap cr cp rs ps p0 way step Wb T hT).mono ?_
  rintro e W1 ⟨hb1, g, rfl, hg, hc⟩
  have hn1 : W1.ownsRow Wb.heap.size 39 2 (.slice none 0 0) 0 [] := World.ownsRow_nil _ _ _ _
  have hrn := hrun g Wb.heap.size Wb W1 none 0 hc hn1 (by simp [Value.ownBlock]) hg hRb hPb hb1 (Nat.le_refl _)
  clear c0 c1 c2 c3 c4
  go_wp2_with fail
  refine hrn.mono ?_
  rintro e W2 ⟨rfl, hb2, a, cv, hc2, hown, hne⟩
  have x12 := Bx.belowB (x1.below hb1) hb2 (by omega)
  have hpl := hrg.pl
  obtain ⟨a', cv', hev, hprs⟩ := Prs.of_own hown (by omega) (fun p hp => by have := hrg.pb p hp; omega)
  simp only [Value.slice.injEq] at hev
  obtain ⟨rfl, -, rfl⟩ := hev
  have hb3 : Below w.heap.size w W2 := (hb.trans (hb1.mono hb.size)).trans (hb2.mono (by omega))
  have v0 := Bx.cell hc2 0 (v := .int .i64 (c.pos : Nat)) rfl
  obtain ⟨d, hd⟩ : ∃ d : Int, d = if c.up then 1 else -1 := ⟨_, rfl⟩
  have v1 := Bx.cell hc2 1 (v := .int .i64 d) (by rw [hd]; rfl)
  have v2 := Bx.cell hc2 2 (v := .int .i64 c.side) rfl
  have v3 := Bx.cell hc2 3 (v := .slice a c.plays.length cv) rfl
  have v4 := Bx.cell hc2 4 (v := .int .i64 (c.steps : Nat)) rfl
  have v5 := Bx.cell hc2 5 (v := .int .i64 c.fin) rfl
  have f0 := x12.free 0; have f1 := x12.free 1; have f2 := x12.free 2; have f3 := x12.free 3; have f4 := x12.free 4; have f5 := x12.free 5
  have z0 := x12.cell 0 rfl; have z1 := x12.cell 1 rfl; have z2 := x12.cell 2 rfl; have z3 := x12.cell 3 rfl; have z4 := x12.cell 4 rfl; have z5 := x12.cell 5 rfl
  have x13 := x12.set6 (.int .i64 (c.pos : Nat)) (.int .i64 d) (.int .i64 c.side) (.slice a c.plays.length cv) (.int .i64 (c.steps : Nat)) (.int .i64 c.fin)
  have hg6 := gset6 W2 (w.heap.size + 1) (.int .i64 (c.pos : Nat)) (.int .i64 d) (.int .i64 c.side) (.slice a c.plays.length cv) (.int .i64 (c.steps : Nat)) (.int .i64 c.fin)
  have k0 := x13.cell 0 rfl; have k1 := x13.cell 1 rfl; have k2 := x13.cell 2 rfl; have k3 := x13.cell 3 rfl; have k4 := x13.cell 4 rfl; have k5 := x13.cell 5 rfl
  have hsz2 := x12.lt
  have hbf := hb3.grown hg6 (by omega) (fun k hk => by cases hk; omega)
  have hpf := hprs.gro hg6 (fun hne2 ad e e2 => by
    have h1 := own_new2 hown ad e
    injection e2 with e2
    omega)
  have HD := hid hd
  have HB := hid (And.intro hbf hpf)
  clear hd hbf hpf hprs hown hg6 x13 hc2 hrn hc hrun
  go_wp2
  refine bodyPost_ret (v := deedV c (.slice a c.plays.length cv)) ?_ rfl ⟨HB.out.1, a, cv, rfl, HB.out.2⟩
  unfold deedV
  rw [← HD.out]
  simp [results, Try.results53, go_sem, k0, k1, k2, k3, k4, k5]
end Go.Proofs.Ytknaljghpfeikaa
