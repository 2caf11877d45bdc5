import Derived.Test.YtknaljghpfeikaaT35
namespace Go.Proofs.Ytknaljghpfeikaa
open Go.RowKit

/-- The two trays of the examples. -/
def exT : Tr := ⟨[(100, 90), (120, 80), (60, 70)], 0, true, 5, [(3, 0), (4, 10), (0, 12), (3, 50), (0, 300)]⟩
def exU : Tr := ⟨[(10, 20), (30, 40)], 0, false, 60, [(3, 0)]⟩
theorem exT_plays : (runM exT maxI).plays = [(4, 10), (3, 75), (0, 160), (0, 315)] := by decide +kernel
theorem exT_stand : (runM exT 101).pos = 1 ∧ (runM exT 101).up = false ∧ (runM exT 101).side = 3 := by decide +kernel
theorem exT_wait : servF 0 12 (runM exT maxI).plays 0 = 2 ∧ ((runM exT maxI).plays.getD 2 (0, 0)).2 - 12 = 148 := by decide +kernel
theorem exU_best : (bestM exU maxI).2 = 40 := by decide +kernel
theorem exT_late : ∀ i : Nat, i < 21 → lateP exT 2 20 i = decide (6 ≤ i) := by decide +kernel
theorem exT_valid : trB exT.rcs exT.prs 0 1 5 = true := by decide +kernel
theorem exU_valid : trB exU.rcs exU.prs 0 (-1) 60 = true := by decide +kernel
theorem exT_is : IsTr exT exT.rcs exT.prs 0 1 5 := by
  obtain ⟨T, h1, _⟩ := tr_of exT_valid
  exact ⟨rfl, rfl, rfl, rfl, rfl, by
    have hv := h1.hv
    refine ⟨by decide, by decide, ?_, by decide, by decide, by decide, ?_⟩ <;> decide⟩
theorem exU_is : IsTr exU exU.rcs exU.prs 0 (-1) 60 :=
  ⟨rfl, rfl, rfl, rfl, rfl, ⟨by decide, by decide, by decide, by decide, by decide, by decide, by decide⟩⟩
end Go.Proofs.Ytknaljghpfeikaa
namespace Go.Proofs.Ytknaljghpfeikaa
open Go.RowKit

theorem Prs.of_bx {w : World} {g : Nat} {xs : List (Int × Int)} {T : TypeId} (h : Bx w g (pcells xs).toArray T) (h1 : xs.length ≤ 4611686018427387903) (h2 : ∀ x ∈ xs, -9223372036854775808 ≤ x.1 ∧ x.1 ≤ 9223372036854775807 ∧ -9223372036854775808 ≤ x.2 ∧ x.2 ≤ 9223372036854775807) : Prs w (some ⟨g, 0, none⟩) xs := by
  refine ⟨h1, h2, fun i hi => ⟨g, 0, rfl, h.lt, ?_⟩⟩
  obtain ⟨p1, p2⟩ := pcells_at xs i hi
  rw [Nat.zero_add]
  exact ⟨h.cell _ (by simpa using p1), h.cell _ (by simpa using p2)⟩
theorem Soonest_ok (ar ap : Option Addr) (cr cp : Nat) (rs ps : List (Int × Int)) (p0 way step : Int) (w : World) (hR : Prs w ar rs) (hP : Prs w ap ps) (hv : trB rs ps p0 way step = true) (h0 : ps.length ≠ 0) (hpl : ps.length ≤ 12) (T : Tr) (hT : IsTr T rs ps p0 way step) :
    Calls Try.prog 34 #[.agg #[.slice ar rs.length cr, .int .i64 p0, .int .i64 way, .int .i64 step, .slice ap ps.length cp]] w fun e w' => e = .returned (.tuple #[.int .i64 (bestM T maxI).2, .int .i64 0]) ∧ Below w.heap.size w w' := by
  refine (Soonest_of ar ap cr cp rs ps p0 way step w hR hP hv h0 (fun _ _ q => q = (bestM T maxI).2) fun W h1 h2 => (bestOrder_any ar ap cr cp rs ps p0 way step W h1 h2 T hT hpl).mono ?_).mono ?_
  · rintro e W1 ⟨hb, v, rfl, _⟩
    exact ⟨v, _, rfl, rfl, hb⟩
  · rintro e W1 ⟨v, q, rfl, rfl, hb⟩
    exact ⟨rfl, hb⟩

def ExP (w : World) (e : Ending) (w' : World) : Prop := Below w.heap.size w w' ∧ ∃ (a1 a2 a3 a4 : Option Addr) (c1 c2 c3 c4 : Nat),
  e = .returned (.tuple #[.agg #[.slice a1 3 c1, .int .i64 0, .int .i64 1, .int .i64 5, .slice a2 5 c2], .agg #[.slice a3 2 c3, .int .i64 0, .int .i64 (-1), .int .i64 60, .slice a4 1 c4]]) ∧
  Prs w' a1 exT.rcs ∧ Prs w' a2 exT.prs ∧ Prs w' a3 exU.rcs ∧ Prs w' a4 exU.prs
set_option maxRecDepth 100000 in
set_option maxHeartbeats 4000000 in
theorem Example_any (w : World) : Calls Try.prog 51 #[] w (ExP w) := by
  obtain ⟨W, hW, hb, hs, y0, y1, y2, y3, y4⟩ := boxes5 w #[.slice (some ⟨w.heap.size + 1 + 1, 0, none⟩) 3 3, .int .i64 0, .int .i64 1, .int .i64 5, .slice (some ⟨w.heap.size + 1 + 1 + 1, 0, none⟩) 5 5] 25
    #[.slice (some ⟨w.heap.size + 1 + 1 + 1 + 1, 0, none⟩) 2 2, .int .i64 0, .int .i64 (-1), .int .i64 60, .slice (some ⟨w.heap.size + 1 + 1 + 1 + 1 + 1, 0, none⟩) 1 1] 25
    #[.int .i64 100, .int .i64 90, .int .i64 120, .int .i64 80, .int .i64 60, .int .i64 70] 34
    #[.int .i64 3, .int .i64 0, .int .i64 4, .int .i64 10, .int .i64 0, .int .i64 12, .int .i64 3, .int .i64 50, .int .i64 0, .int .i64 300] 40
    #[.int .i64 10, .int .i64 20, .int .i64 30, .int .i64 40] 34
  obtain ⟨W1, hW1, hb1, hs1, y5⟩ := boxes1 W #[.int .i64 3, .int .i64 0] 40
  rw [hs] at y5
  have hbd := (Below.refl W1.heap.size W1).drew
  have q0 := (y0.below hb1).below hbd; have q1 := (y1.below hb1).below hbd
  have p2 : Prs _ _ exT.rcs := Prs.of_bx (T := 34) ((y2.below hb1).below hbd) (by decide) (by decide)
  have p3 : Prs _ _ exT.prs := Prs.of_bx (T := 40) ((y3.below hb1).below hbd) (by decide) (by decide)
  have p4 : Prs _ _ exU.rcs := Prs.of_bx (T := 34) ((y4.below hb1).below hbd) (by decide) (by decide)
  have p5 : Prs _ _ exU.prs := Prs.of_bx (T := 40) (y5.below hbd) (by decide) (by decide)
  replace hb := (hb.trans (hb1.mono hb.size)).trans (hbd.mono (hb.trans (hb1.mono hb.size)).size)
  have hz : w.heap.size + 1 < W1.drew.heap.size := by show _ < W1.heap.size; omega
  have HX := hid (And.intro q0 (And.intro q1 (And.intro p2 (And.intro p3 (And.intro p4 (And.intro p5 (And.intro hb hz)))))))
  clear y0 y1 y2 y3 y4 y5 hb1 hbd q0 q1 p2 p3 p4 p5 hb hz hs1
  go_enter Try.func51, Try.ntmps51
  go_upto_region 3 with fail
  clear hW hW1 hs
  obtain ⟨q0, q1, p2, p3, p4, p5, hb, hz⟩ := HX.out
  clear HX
  refine wp_region_head 3 (fun w' => Bx w' w.heap.size #[.slice (some ⟨w.heap.size + 1 + 1, 0, none⟩) 3 3, .int .i64 0, .int .i64 1, .int .i64 5, .slice (some ⟨w.heap.size + 1 + 1 + 1, 0, none⟩) 5 5] 25 ∧ Bx w' (w.heap.size + 1) #[.slice (some ⟨w.heap.size + 1 + 1 + 1 + 1, 0, none⟩) 2 2, .int .i64 0, .int .i64 (-1), .int .i64 60, .slice (some ⟨w.heap.size + 1 + 1 + 1 + 1 + 1, 0, none⟩) 1 1] 25) (by kernel_rfl) rfl ?_
  generalize W1.drew = Y0 at *
  obtain ⟨b2, hb2⟩ : ∃ b, b = w.heap.size + 1 + 1 := ⟨_, rfl⟩
  rw [← hb2] at q0 q1 p2 p3 p4 p5 ⊢
  have hb2i : w.heap.size + 1 < b2 := by omega
  clear hb2
  have S0 := And.intro q0 q1
  refine HeadAt.take (i := 0) (.agg #[.slice (some ⟨b2, 0, none⟩) 3 3, .int .i64 0, .int .i64 1, .int .i64 5, .slice (some ⟨b2 + 1, 0, none⟩) 5 5]) rfl (by kernel_rfl) (.inl ⟨rfl, fun w' z => ?_⟩) S0 ?_
  · (have z0 := z.1.cell 0 rfl; have z1 := z.1.cell 1 rfl; have z2 := z.1.cell 2 rfl; have z3 := z.1.cell 3 rfl; have z4 := z.1.cell 4 rfl; simp [go_sem, z0, z1, z2, z3, z4])
  refine HeadAt.take (i := 1) (.agg #[.slice (some ⟨b2 + 1 + 1, 0, none⟩) 2 2, .int .i64 0, .int .i64 (-1), .int .i64 60, .slice (some ⟨b2 + 1 + 1 + 1, 0, none⟩) 1 1]) rfl (by kernel_rfl) (.inl ⟨rfl, fun w' z => ?_⟩) S0 ?_
  · (have z0 := z.2.cell 0 rfl; have z1 := z.2.cell 1 rfl; have z2 := z.2.cell 2 rfl; have z3 := z.2.cell 3 rfl; have z4 := z.2.cell 4 rfl; simp [go_sem, z0, z1, z2, z3, z4])
  have gA := gset5 Y0 w.heap.size (.slice (some ⟨b2, 0, none⟩) 3 3) (.int .i64 0) (.int .i64 1) (.int .i64 5) (.slice (some ⟨b2 + 1, 0, none⟩) 5 5)
  have qA := q0.set5 (.slice (some ⟨b2, 0, none⟩) 3 3) (.int .i64 0) (.int .i64 1) (.int .i64 5) (.slice (some ⟨b2 + 1, 0, none⟩) 5 5)
  have qB := q1.gb gA (fun k hk => by cases hk; omega)
  have hbA := hb.grown gA hb.size (fun k hk => by cases hk; omega)
  have p2A := p2.gro gA (fun _ ad e e2 => by cases e; injection e2 with e2; have e3 : w.heap.size = b2 := e2; omega)
  have p3A := p3.gro gA (fun _ ad e e2 => by cases e; injection e2 with e2; have e3 : w.heap.size = b2 + 1 := e2; omega)
  have p4A := p4.gro gA (fun _ ad e e2 => by cases e; injection e2 with e2; have e3 : w.heap.size = b2 + 1 + 1 := e2; omega)
  have p5A := p5.gro gA (fun _ ad e e2 => by cases e; injection e2 with e2; have e3 : w.heap.size = b2 + 1 + 1 + 1 := e2; omega)
  have f0 := q0.free 0; have f1 := q0.free 1; have f2 := q0.free 2; have f3 := q0.free 3; have f4 := q0.free 4
  have z0 := q0.cell 0 rfl; have z1 := q0.cell 1 rfl; have z2 := q0.cell 2 rfl; have z3 := q0.cell 3 rfl; have z4 := q0.cell 4 rfl
  have hzA := gA.size
  have HA := hid (And.intro qA (And.intro qB (And.intro p2A (And.intro p3A (And.intro p4A (And.intro p5A (And.intro hbA hzA)))))))
  clear gA qA qB p2A p3A p4A p5A hbA p2 p3 p4 p5 hb q0 q1 S0 hzA
  refine HeadAt.one (i := 2) rfl (by kernel_rfl) ?_
  generalize hK : Upto _ _ = K0
  (try simp only [Act.put, List.getElem_toArray, List.getElem_cons_succ, List.getElem_cons_zero, List.setIfInBounds_toArray, List.set_cons_succ, List.set_cons_zero])
  go_wp2_with fail
  subst hK
  clear f0 f1 f2 f3 f4 z0 z1 z2 z3 z4
  obtain ⟨qA, qB, p2, p3, p4, p5, hb, hzA⟩ := HA.out
  clear HA
  refine ⟨And.intro qA qB, ?_⟩
  generalize ((((Y0.setCell ⟨w.heap.size, 0, none⟩ (.slice (some ⟨b2, 0, none⟩) 3 3)).setCell ⟨w.heap.size, 1, none⟩ (.int .i64 0)).setCell ⟨w.heap.size, 2, none⟩ (.int .i64 1)).setCell ⟨w.heap.size, 3, none⟩ (.int .i64 5)).setCell ⟨w.heap.size, 4, none⟩ (.slice (some ⟨b2 + 1, 0, none⟩) 5 5) = Y1 at *
  have gA := gset5 Y1 (w.heap.size + 1) (.slice (some ⟨b2 + 1 + 1, 0, none⟩) 2 2) (.int .i64 0) (.int .i64 (-1)) (.int .i64 60) (.slice (some ⟨b2 + 1 + 1 + 1, 0, none⟩) 1 1)
  have qC := qB.set5 (.slice (some ⟨b2 + 1 + 1, 0, none⟩) 2 2) (.int .i64 0) (.int .i64 (-1)) (.int .i64 60) (.slice (some ⟨b2 + 1 + 1 + 1, 0, none⟩) 1 1)
  have qD := qA.gb gA (fun k hk => by cases hk; omega)
  have hbA := hb.grown gA hb.size (fun k hk => by cases hk; omega)
  have p2A := p2.gro gA (fun _ ad e e2 => by cases e; injection e2 with e2; have e3 : w.heap.size + 1 = b2 := e2; omega)
  have p3A := p3.gro gA (fun _ ad e e2 => by cases e; injection e2 with e2; have e3 : w.heap.size + 1 = b2 + 1 := e2; omega)
  have p4A := p4.gro gA (fun _ ad e e2 => by cases e; injection e2 with e2; have e3 : w.heap.size + 1 = b2 + 1 + 1 := e2; omega)
  have p5A := p5.gro gA (fun _ ad e e2 => by cases e; injection e2 with e2; have e3 : w.heap.size + 1 = b2 + 1 + 1 + 1 := e2; omega)
  have f0 := qB.free 0; have f1 := qB.free 1; have f2 := qB.free 2; have f3 := qB.free 3; have f4 := qB.free 4
  have z0 := qB.cell 0 rfl; have z1 := qB.cell 1 rfl; have z2 := qB.cell 2 rfl; have z3 := qB.cell 3 rfl; have z4 := qB.cell 4 rfl
  have r0 := qD.cell 0 rfl; have r1 := qD.cell 1 rfl; have r2 := qD.cell 2 rfl; have r3 := qD.cell 3 rfl; have r4 := qD.cell 4 rfl
  have s0 := qC.cell 0 rfl; have s1 := qC.cell 1 rfl; have s2 := qC.cell 2 rfl; have s3 := qC.cell 3 rfl; have s4 := qC.cell 4 rfl
  have HA := hid (And.intro hbA (And.intro p2A (And.intro p3A (And.intro p4A p5A))))
  clear gA qC qD p2A p3A p4A p5A hbA p2 p3 p4 p5 hb qA qB hzA hz
  refine HeadAt.done (by kernel_rfl) ?_
  (try simp only [List.drop_succ_cons, List.drop_zero])
  go_wp2_with fail
  refine NoPanic.normal ?_
  go_wp2
  refine bodyPost_ret (v := .tuple #[.agg #[.slice (some ⟨b2, 0, none⟩) 3 3, .int .i64 0, .int .i64 1, .int .i64 5, .slice (some ⟨b2 + 1, 0, none⟩) 5 5], .agg #[.slice (some ⟨b2 + 1 + 1, 0, none⟩) 2 2, .int .i64 0, .int .i64 (-1), .int .i64 60, .slice (some ⟨b2 + 1 + 1 + 1, 0, none⟩) 1 1]]) ?_ rfl ⟨HA.out.1, _, _, _, _, _, _, _, _, rfl, HA.out.2.1, HA.out.2.2.1, HA.out.2.2.2.1, HA.out.2.2.2.2⟩
  simp [results, Try.results51, go_sem, r0, r1, r2, r3, r4, s0, s1, s2, s3, s4]
end Go.Proofs.Ytknaljghpfeikaa
namespace Go.Proofs.Ytknaljghpfeikaa
open Go.RowKit

section
variable (a1 a2 : Option Addr) (c1 c2 : Nat) (W : World)
theorem exPlays (p2 : Prs W a1 exT.rcs) (p3 : Prs W a2 exT.prs) : Calls Try.prog 18 #[.agg #[.slice a1 3 c1, .int .i64 0, .int .i64 1, .int .i64 5, .slice a2 5 c2]] W fun e w' => Below W.heap.size W w' ∧ ∃ (a : Option Addr) (cv : Nat), e = .returned (.tuple #[.slice a 4 cv, .int .i64 0]) ∧ Prs w' a [(4, 10), (3, 75), (0, 160), (0, 315)] := by
  have h := Plays_ok a1 a2 c1 c2 exT.rcs exT.prs 0 1 5 W p2 p3 exT_valid exT exT_is (runM exT maxI) rfl
  unfold PlaysP at h
  rw [exT_plays] at h
  exact h
theorem exWait (p2 : Prs W a1 exT.rcs) (p3 : Prs W a2 exT.prs) : Calls Try.prog 21 #[.agg #[.slice a1 3 c1, .int .i64 0, .int .i64 1, .int .i64 5, .slice a2 5 c2], .int .i64 2] W fun e w' => e = .returned (.tuple #[.int .i64 148, .int .i64 0]) ∧ Below W.heap.size W w' := by
  have h := fun V h1 h2 => serviceOf_ok a1 a2 c1 c2 exT.rcs exT.prs 0 1 5 2 V h1 h2 exT_valid (by decide) exT exT_is (runM exT maxI) rfl 0 12 rfl
  rw [exT_wait.1, show (2 : Int).toNat = 2 from rfl, exT_wait.2] at h
  exact Wait_of a1 a2 c1 c2 exT.rcs exT.prs 0 1 5 2 W p2 p3 _ _ _ h
theorem exStand (p2 : Prs W a1 exT.rcs) (p3 : Prs W a2 exT.prs) : Calls Try.prog 30 #[.agg #[.slice a1 3 c1, .int .i64 0, .int .i64 1, .int .i64 5, .slice a2 5 c2], .int .i64 100] W fun e w' => e = .returned (.tuple #[.agg #[.int .i64 1, .int .i64 (-1), .int .i64 3], .int .i64 0]) ∧ Below W.heap.size W w' := by
  have h := Stand_ok a1 a2 c1 c2 exT.rcs exT.prs 0 1 5 100 W p2 p3 exT_valid (by decide) exT exT_is (runM exT 101) rfl
  unfold standV at h
  rw [exT_stand.1, exT_stand.2.1, exT_stand.2.2] at h
  exact h
theorem exLatest (p2 : Prs W a1 exT.rcs) (p3 : Prs W a2 exT.prs) : Calls Try.prog 32 #[.agg #[.slice a1 3 c1, .int .i64 0, .int .i64 1, .int .i64 5, .slice a2 5 c2], .int .i64 2, .int .i64 20] W fun e w' => e = .returned (.tuple #[.int .i64 5, .int .i64 0]) ∧ Below W.heap.size W w' := by
  refine (Latest_ok a1 a2 c1 c2 exT.rcs exT.prs 0 1 5 2 20 W p2 p3 exT_valid (by decide) (by decide) (by decide) exT exT_is).mono ?_
  rintro e W1 ⟨k, rfl, hk, h1, h2, hb⟩
  have h3 := exT_late
  have hk6 : k = 6 := by
    rcases Nat.lt_or_ge k 6 with h | h
    · have h4 := h2 (by omega)
      rw [h3 k (by omega)] at h4
      simp at h4; omega
    · have h4 := h1 (by omega)
      rw [h3 (k - 1) (by omega)] at h4
      simp at h4; omega
  subst hk6
  exact ⟨rfl, hb⟩
theorem exSoon (p2 : Prs W a1 exU.rcs) (p3 : Prs W a2 exU.prs) : Calls Try.prog 34 #[.agg #[.slice a1 2 c1, .int .i64 0, .int .i64 (-1), .int .i64 60, .slice a2 1 c2]] W fun e w' => e = .returned (.tuple #[.int .i64 40, .int .i64 0]) ∧ Below W.heap.size W w' := by
  have h := Soonest_ok a1 a2 c1 c2 exU.rcs exU.prs 0 (-1) 60 W p2 p3 exU_valid (by decide) (by decide) exU exU_is
  rw [exU_best] at h
  exact h
end

def WorksP (w : World) (e : Ending) (w' : World) : Prop := e = .returned (.bool true) ∧ Below w.heap.size w w'
set_option maxRecDepth 100000 in
set_option maxHeartbeats 4000000 in
theorem works_any (w : World) : Calls Try.prog 17 #[] w (WorksP w) := by
  have hex := Example_any w
  unfold ExP at hex
  go_enter Try.func17, Try.ntmps17
  go_wp2_with fail
  refine hex.mono ?_
  rintro e W1 ⟨hb, a1, a2, a3, a4, c1, c2, c3, c4, rfl, p1, p2, p3, p4⟩
  clear hex
  obtain ⟨W2, hW, hb1, hs, x0, x1⟩ := boxes2 W1 #[.slice a1 3 c1, .int .i64 0, .int .i64 1, .int .i64 5, .slice a2 5 c2] 25 #[.slice a3 2 c3, .int .i64 0, .int .i64 (-1), .int .i64 60, .slice a4 1 c4] 25
  replace hb := hb.trans (hb1.mono hb.size)
  have hc1 := exPlays a1 a2 c1 c2 W2 (p1.below hb1 (Nat.le_refl _)) (p2.below hb1 (Nat.le_refl _))
  replace p1 := p1.below hb1 (Nat.le_refl _); replace p2 := p2.below hb1 (Nat.le_refl _); replace p3 := p3.below hb1 (Nat.le_refl _); replace p4 := p4.below hb1 (Nat.le_refl _)
  have k0 := x0.cell 0 rfl; have k1 := x0.cell 1 rfl; have k2 := x0.cell 2 rfl; have k3 := x0.cell 3 rfl; have k4 := x0.cell 4 rfl
  clear hb1 hs
  go_wp2_with fail
  refine hc1.mono ?_
  rintro e W3 ⟨hb1, a, cv, rfl, hpl⟩
  clear hc1 hW
  replace p1 := p1.below hb1 (Nat.le_refl _); replace p2 := p2.below hb1 (Nat.le_refl _); replace p3 := p3.below hb1 (Nat.le_refl _); replace p4 := p4.below hb1 (Nat.le_refl _); replace x1 := x1.below hb1; (try clear k0 k1 k2 k3 k4); replace x0 := x0.below hb1; have k0 := x0.cell 0 rfl; have k1 := x0.cell 1 rfl; have k2 := x0.cell 2 rfl; have k3 := x0.cell 3 rfl; have k4 := x0.cell 4 rfl; replace hb := hb.trans (hb1.mono hb.size); clear hb1
  go_wp2_with fail
  refine (exWait a1 a2 _ _ _ p1 p2).mono ?_
  rintro e W4 ⟨rfl, hb1⟩
  replace p1 := p1.below hb1 (Nat.le_refl _); replace p2 := p2.below hb1 (Nat.le_refl _); replace p3 := p3.below hb1 (Nat.le_refl _); replace p4 := p4.below hb1 (Nat.le_refl _); replace hpl := hpl.below hb1 (Nat.le_refl _); replace x1 := x1.below hb1; (try clear k0 k1 k2 k3 k4); replace x0 := x0.below hb1; have k0 := x0.cell 0 rfl; have k1 := x0.cell 1 rfl; have k2 := x0.cell 2 rfl; have k3 := x0.cell 3 rfl; have k4 := x0.cell 4 rfl; replace hb := hb.trans (hb1.mono hb.size); clear hb1
  go_wp2_with fail
  refine (exStand a1 a2 _ _ _ p1 p2).mono ?_
  rintro e W5 ⟨rfl, hb1⟩
  replace p1 := p1.below hb1 (Nat.le_refl _); replace p2 := p2.below hb1 (Nat.le_refl _); replace p3 := p3.below hb1 (Nat.le_refl _); replace p4 := p4.below hb1 (Nat.le_refl _); replace hpl := hpl.below hb1 (Nat.le_refl _); replace x1 := x1.below hb1; (try clear k0 k1 k2 k3 k4); replace x0 := x0.below hb1; have k0 := x0.cell 0 rfl; have k1 := x0.cell 1 rfl; have k2 := x0.cell 2 rfl; have k3 := x0.cell 3 rfl; have k4 := x0.cell 4 rfl; replace hb := hb.trans (hb1.mono hb.size); clear hb1
  obtain ⟨W6, hW6, hb1, hs6, x7⟩ := boxes1 W5 #[.int .i64 1, .int .i64 (-1), .int .i64 3] 50
  have hc4 := exLatest a1 a2 c1 c2 W6 (p1.below hb1 (Nat.le_refl _)) (p2.below hb1 (Nat.le_refl _))
  replace p3 := p3.below hb1 (Nat.le_refl _); replace p4 := p4.below hb1 (Nat.le_refl _); replace hpl := hpl.below hb1 (Nat.le_refl _); replace x1 := x1.below hb1; (try clear k0 k1 k2 k3 k4); replace x0 := x0.below hb1; have k0 := x0.cell 0 rfl; have k1 := x0.cell 1 rfl; have k2 := x0.cell 2 rfl; have k3 := x0.cell 3 rfl; have k4 := x0.cell 4 rfl; replace hb := hb.trans (hb1.mono hb.size); clear hb1
  clear hs6
  go_wp2_with fail
  refine hc4.mono ?_
  rintro e W7 ⟨rfl, hb1⟩
  clear hc4 hW6
  replace p3 := p3.below hb1 (Nat.le_refl _); replace p4 := p4.below hb1 (Nat.le_refl _); replace hpl := hpl.below hb1 (Nat.le_refl _); replace x7 := x7.below hb1; (try clear d0 d1 d2 d3 d4); replace x1 := x1.below hb1; have d0 := x1.cell 0 rfl; have d1 := x1.cell 1 rfl; have d2 := x1.cell 2 rfl; have d3 := x1.cell 3 rfl; have d4 := x1.cell 4 rfl; replace hb := hb.trans (hb1.mono hb.size); clear hb1
  go_wp2_with fail
  refine (exSoon a3 a4 _ _ _ p3 p4).mono ?_
  rintro e W8 ⟨rfl, hb1⟩
  replace hpl := hpl.below hb1 (Nat.le_refl _); (try clear e0 e1 e2); replace x7 := x7.below hb1; have e0 := x7.cell 0 rfl; have e1 := x7.cell 1 rfl; have e2 := x7.cell 2 rfl; replace hb := hb.trans (hb1.mono hb.size); clear hb1
  obtain ⟨b, off, u, t, rfl, _, g0, g1, _, _, hx, _⟩ := hpl.at (k := 3) (by simp)
  have hu : (0, 315) = (u, t) := by have := hx.out; simpa using this
  simp only [Prod.mk.injEq] at hu
  obtain ⟨rfl, rfl⟩ := hu
  have g0' : W8.cell? ⟨b, off + 6, none⟩ = some (.int .i64 0) := g0
  have g1' : W8.cell? ⟨b, off + 7, none⟩ = some (.int .i64 315) := g1
  have g1'' : W8.cell? ⟨b, off + 6 + 1, none⟩ = some (.int .i64 315) := g1
  clear g0 g1 hx hpl p1 p2 p3 p4 x0 x1 x7 k0 k1 k2 k3 k4 d0 d1 d2 d3 d4
  go_wp2
  go_ret
  exact ⟨rfl, hb⟩
end Go.Proofs.Ytknaljghpfeikaa
