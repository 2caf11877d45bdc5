import Derived.Test.YtknaljghpfeikaaT37
namespace Go.Proofs.Ytknaljghpfeikaa
open Go.RowKit

section
variable (a1 a2 : Option Addr) (c1 c2 : Nat) (W : World)
theorem exPlays (p2 : Prs W a1 exT.rcs) (p3 : Prs W a2 exT.prs) : Calls Try.prog 18 #[.agg #[.slice a1 3 c1, .int .i64 0, .int .i64 1, .int .i64 5, .slice a2 5 c2]] W fun e w' => Below W.heap.size W w' ∧ ∃ (a : Option Addr) (cv : Nat), e = .returned (.tuple #[.slice a 4 cv, .int .i64 0]) ∧ Prs w' a [(4, 10), (3, 75), (0, 160), (0, 315)] := by
  have h := Plays_ok a1 a2 c1 c2 exT.rcs exT.prs 0 1 5 W p2 p3 exT_valid exT exT_is (runM exT maxI) rfl
  unfold PlaysP at h
  rw [exT_plays] at h
  exact h
theorem exWait (p2 : Prs W a1 exT.rcs) (p3 : Prs W a2 exT.prs) : Calls Try.prog 21 #[.agg #[.slice a1 3 c1, .int .i64 0, .int .i64 1, .int .i64 5, .slice a2 5 c2], .int .i64 2] W fun e w' => e = .returned (.tuple #[.int .i64 148, .int .i64 0]) ∧ Below W.heap.size W w' := by
  have h := fun V h1 h2 => serviceOf_ok a1 a2 c1 c2 exT.rcs exT.prs 0 1 5 2 V h1 h2 exT_valid (by decide) exT exT_is (runM exT maxI) rfl 0 12 rfl
  rw [exT_wait.1, show (2 : Int).toNat = 2 from rfl, exT_wait.2] at h
  exact Wait_of a1 a2 c1 c2 exT.rcs exT.prs 0 1 5 2 W p2 p3 _ _ _ h
theorem exStand (p2 : Prs W a1 exT.rcs) (p3 : Prs W a2 exT.prs) : Calls Try.prog 30 #[.agg #[.slice a1 3 c1, .int .i64 0, .int .i64 1, .int .i64 5, .slice a2 5 c2], .int .i64 100] W fun e w' => e = .returned (.tuple #[.agg #[.int .i64 1, .int .i64 (-1), .int .i64 3], .int .i64 0]) ∧ Below W.heap.size W w' := by
  have h := Stand_ok a1 a2 c1 c2 exT.rcs exT.prs 0 1 5 100 W p2 p3 exT_valid (by decide) exT exT_is (runM exT 101) rfl
  unfold standV at h
  rw [exT_stand.1, exT_stand.2.1, exT_stand.2.2] at h
  exact h
theorem exLatest (p2 : Prs W a1 exT.rcs) (p3 : Prs W a2 exT.prs) : Calls Try.prog 32 #[.agg #[.slice a1 3 c1, .int .i64 0, .int .i64 1, .int .i64 5, .slice a2 5 c2], .int .i64 2, .int .i64 20] W fun e w' => e = .returned (.tuple #[.int .i64 5, .int .i64 0]) ∧ Below W.heap.size W w' := by
  refine (Latest_ok a1 a2 c1 c2 exT.rcs exT.prs 0 1 5 2 20 W p2 p3 exT_valid (by decide) (by decide) (by decide) exT exT_is).mono ?_
  rintro e W1 ⟨k, rfl, hk, h1, h2, hb⟩
  have h3 := exT_late
  have hk6 : k = 6 := by
    rcases Nat.lt_or_ge k 6 with h | h
    · have h4 := h2 (by omega)
      rw [h3 k (by omega)] at h4
      simp at h4; omega
    · have h4 := h1 (by omega)
      rw [h3 (k - 1) (by omega)] at h4
      simp at h4; omega
  subst hk6
  exact ⟨rfl, hb⟩
theorem exSoon (p2 : Prs W a1 exU.rcs) (p3 : Prs W a2 exU.prs) : Calls Try.prog 34 #[.agg #[.slice a1 2 c1, .int .i64 0, .int .i64 (-1), .int .i64 60, .slice a2 1 c2]] W fun e w' => e = .returned (.tuple #[.int .i64 40, .int .i64 0]) ∧ Below W.heap.size W w' := by
  have h := Soonest_ok a1 a2 c1 c2 exU.rcs exU.prs 0 (-1) 60 W p2 p3 exU_valid (by decide) (by decide) exU exU_is
  rw [exU_best] at h
  exact h
end

def WorksP (w : World) (e : Ending) (w' : World) : Prop := e = .returned (.bool true) ∧ Below w.heap.size w w'
set_option maxRecDepth 100000 in
set_option maxHeartbeats 4000000 in
theorem works_any (w : World) : Calls Try.prog 17 #[] w (WorksP w) := by
  have hex := Example_any w
  unfold ExP at hex
  go_enter Try.func17, Try.ntmps17
  go_wp2_with fail
  refine hex.mono ?_
  rintro e W1 ⟨hb, a1, a2, a3, a4, c1, c2, c3, c4, rfl, p1, p2, p3, p4⟩
  clear hex
  obtain ⟨W2, hW, hb1, hs, x0, x1⟩ := boxes2 W1 #[.slice a1 3 c1, .int .i64 0, .int .i64 1, .int .i64 5, .slice a2 5 c2] 25 #[.slice a3 2 c3, .int .i64 0, .int .i64 (-1), .int .i64 60, .slice a4 1 c4] 25
  replace hb := hb.trans (hb1.mono hb.size)
  have hc1 := exPlays a1 a2 c1 c2 W2 (p1.below hb1 (Nat.le_refl _)) (p2.below hb1 (Nat.le_refl _))
  replace p1 := p1.below hb1 (Nat.le_refl _); replace p2 := p2.below hb1 (Nat.le_refl _); replace p3 := p3.below hb1 (Nat.le_refl _); replace p4 := p4.below hb1 (Nat.le_refl _)
  have k0 := x0.cell 0 rfl; have k1 := x0.cell 1 rfl; have k2 := x0.cell 2 rfl; have k3 := x0.cell 3 rfl; have k4 := x0.cell 4 rfl
  clear hb1 hs
  go_wp2_with fail
  refine hc1.mono ?_
  rintro e W3 ⟨hb1, a, cv, rfl, hpl⟩
  clear hc1 hW
  replace p1 := p1.below hb1 (Nat.le_refl _); replace p2 := p2.below hb1 (Nat.le_refl _); replace p3 := p3.below hb1 (Nat.le_refl _); replace p4 := p4.below hb1 (Nat.le_refl _); replace x1 := x1.below hb1; (try clear k0 k1 k2 k3 k4); replace x0 := x0.below hb1; have k0 := x0.cell 0 rfl; have k1 := x0.cell 1 rfl; have k2 := x0.cell 2 rfl; have k3 := x0.cell 3 rfl; have k4 := x0.cell 4 rfl; replace hb := hb.trans (hb1.mono hb.size); clear hb1
  go_wp2_with fail
  refine (exWait a1 a2 _ _ _ p1 p2).mono ?_
  rintro e W4 ⟨rfl, hb1⟩
  replace p1 := p1.below hb1 (Nat.le_refl _); replace p2 := p2.below hb1 (Nat.le_refl _); replace p3 := p3.below hb1 (Nat.le_refl _); replace p4 := p4.below hb1 (Nat.le_refl _); replace hpl := hpl.below hb1 (Nat.le_refl _); replace x1 := x1.below hb1; (try clear k0 k1 k2 k3 k4); replace x0 := x0.below hb1; have k0 := x0.cell 0 rfl; have k1 := x0.cell 1 rfl; have k2 := x0.cell 2 rfl; have k3 := x0.cell 3 rfl; have k4 := x0.cell 4 rfl; replace hb := hb.trans (hb1.mono hb.size); clear hb1
  go_wp2_with fail
  refine (exStand a1 a2 _ _ _ p1 p2).mono ?_
  rintro e W5 ⟨rfl, hb1⟩
  replace p1 := p1.below hb1 (Nat.le_refl _); replace p2 := p2.below hb1 (Nat.le_refl _); replace p3 := p3.below hb1 (Nat.le_refl _); replace p4 := p4.below hb1 (Nat.le_refl _); replace hpl := hpl.below hb1 (Nat.le_refl _); replace x1 := x1.below hb1; (try clear k0 k1 k2 k3 k4); replace x0 := x0.below hb1; have k0 := x0.cell 0 rfl; have k1 := x0.cell 1 rfl; have k2 := x0.cell 2 rfl; have k3 := x0.cell 3 rfl; have k4 := x0.cell 4 rfl; replace hb := hb.trans (hb1.mono hb.size); clear hb1
  obtain ⟨W6, hW6, hb1, hs6, x7⟩ := boxes1 W5 #[.int .i64 1, .int .i64 (-1), .int .i64 3] 50
  have hc4 := exLatest a1 a2 c1 c2 W6 (p1.below hb1 (Nat.le_refl _)) (p2.below hb1 (Nat.le_refl _))
  replace p3 := p3.below hb1 (Nat.le_refl _); replace p4 := p4.below hb1 (Nat.le_refl _); replace hpl := hpl.below hb1 (Nat.le_refl _); replace x1 := x1.below hb1; (try clear k0 k1 k2 k3 k4); replace x0 := x0.below hb1; have k0 := x0.cell 0 rfl; have k1 := x0.cell 1 rfl; have k2 := x0.cell 2 rfl; have k3 := x0.cell 3 rfl; have k4 := x0.cell 4 rfl; replace hb := hb.trans (hb1.mono hb.size); clear hb1
  clear hs6
  go_wp2_with fail
  refine hc4.mono ?_
  rintro e W7 ⟨rfl, hb1⟩
  clear hc4 hW6
  replace p3 := p3.below hb1 (Nat.le_refl _); replace p4 := p4.below hb1 (Nat.le_refl _); replace hpl := hpl.below hb1 (Nat.le_refl _); replace x7 := x7.below hb1; (try clear d0 d1 d2 d3 d4); replace x1 := x1.below hb1; have d0 := x1.cell 0 rfl; have d1 := x1.cell 1 rfl; have d2 := x1.cell 2 rfl; have d3 := x1.cell 3 rfl; have d4 := x1.cell 4 rfl; replace hb := hb.trans (hb1.mono hb.size); clear hb1
  go_wp2_with fail
  refine (exSoon a3 a4 _ _ _ p3 p4).mono ?_
  rintro e W8 ⟨rfl, hb1⟩
  replace hpl := hpl.below hb1 (Nat.le_refl _); (try clear e0 e1 e2); replace x7 := x7.below hb1; have e0 := x7.cell 0 rfl; have e1 := x7.cell 1 rfl; have e2 := x7.cell 2 rfl; replace hb := hb.trans (hb1.mono hb.size); clear hb1
  obtain ⟨b, off, u, t, rfl, _, g0, g1, _, _, hx, _⟩ := hpl.at (k := 3) (by simp)
  have hu : (0, 315) = (u, t) := by have := hx.out; simpa using this
  simp only [Prod.mk.injEq] at hu
  obtain ⟨rfl, rfl⟩ := hu
  have g0' : W8.cell? ⟨b, off + 6, none⟩ = some (.int .i64 0) := g0
  have g1' : W8.cell? ⟨b, off + 7, none⟩ = some (.int .i64 315) := g1
  have g1'' : W8.cell? ⟨b, off + 6 + 1, none⟩ = some (.int .i64 315) := g1
  clear g0 g1 hx hpl p1 p2 p3 p4 x0 x1 x7 k0 k1 k2 k3 k4 d0 d1 d2 d3 d4
  go_wp2
  go_ret
  exact ⟨rfl, hb⟩
end Go.Proofs.Ytknaljghpfeikaa
