import Derived.Test.YtknaljghpfeikaaT36
namespace Go.Proofs.Ytknaljghpfeikaa
open Go.RowKit

theorem Prs.of_bx {w : World} {g : Nat} {xs : List (Int × Int)} {T : TypeId} (h : Bx w g (pcells xs).toArray T) (h1 : xs.length ≤ 4611686018427387903) (h2 : ∀ x ∈ xs, -9223372036854775808 ≤ x.1 ∧ x.1 ≤ 9223372036854775807 ∧ -9223372036854775808 ≤ x.2 ∧ x.2 ≤ 9223372036854775807) : Prs w (some ⟨g, 0, none⟩) xs := by
  refine ⟨h1, h2, fun i hi => ⟨g, 0, rfl, h.lt, ?_⟩⟩
  obtain ⟨p1, p2⟩ := pcells_at xs i hi
  rw [Nat.zero_add]
  exact ⟨h.cell _ (by simpa using p1), h.cell _ (by simpa using p2)⟩
theorem Soonest_ok (ar ap : Option Addr) (cr cp : Nat) (rs ps : List (Int × Int)) (p0 way step : Int) (w : World) (hR : Prs w ar rs) (hP : Prs w ap ps) (hv : trB rs ps p0 way step = true) (h0 : ps.length ≠ 0) (hpl : ps.length ≤ 12) (T : Tr) (hT : IsTr T rs ps p0 way step) :
    Calls Try.prog 34 #[.agg #[.slice ar rs.length cr, .int .i64 p0, .int .i64 way, .int .i64 step, .slice ap ps.length cp]] w fun e w' => e = .returned (.tuple #[.int .i64 (bestM T maxI).2, .int .i64 0]) ∧ Below w.heap.size w w' := by
  refine (Soonest_of ar ap cr cp rs ps p0 way step w hR hP hv h0 (fun _ _ q => q = (bestM T maxI).2) fun W h1 h2 => (bestOrder_any ar ap cr cp rs ps p0 way step W h1 h2 T hT hpl).mono ?_).mono ?_
  · rintro e W1 ⟨hb, v, rfl, _⟩
    exact ⟨v, _, rfl, rfl, hb⟩
  · rintro e W1 ⟨v, q, rfl, rfl, hb⟩
    exact ⟨rfl, hb⟩

def ExP (w : World) (e : Ending) (w' : World) : Prop := Below w.heap.size w w' ∧ ∃ (a1 a2 a3 a4 : Option Addr) (c1 c2 c3 c4 : Nat),
  e = .returned (.tuple #[.agg #[.slice a1 3 c1, .int .i64 0, .int .i64 1, .int .i64 5, .slice a2 5 c2], .agg #[.slice a3 2 c3, .int .i64 0, .int .i64 (-1), .int .i64 60, .slice a4 1 c4]]) ∧
  Prs w' a1 exT.rcs ∧ Prs w' a2 exT.prs ∧ Prs w' a3 exU.rcs ∧ Prs w' a4 exU.prs
set_option maxRecDepth 100000 in
set_option maxHeartbeats 4000000 in
theorem Example_any (w : World) : Calls Try.prog 51 #[] w (ExP w) := by
  obtain ⟨W, hW, hb, hs, y0, y1, y2, y3, y4⟩ := boxes5 w #[.slice (some ⟨w.heap.size + 1 + 1, 0, none⟩) 3 3, .int .i64 0, .int .i64 1, .int .i64 5, .slice (some ⟨w.heap.size + 1 + 1 + 1, 0, none⟩) 5 5] 25
    #[.slice (some ⟨w.heap.size + 1 + 1 + 1 + 1, 0, none⟩) 2 2, .int .i64 0, .int .i64 (-1), .int .i64 60, .slice (some ⟨w.heap.size + 1 + 1 + 1 + 1 + 1, 0, none⟩) 1 1] 25
    #[.int .i64 100, .int .i64 90, .int .i64 120, .int .i64 80, .int .i64 60, .int .i64 70] 34
    #[.int .i64 3, .int .i64 0, .int .i64 4, .int .i64 10, .int .i64 0, .int .i64 12, .int .i64 3, .int .i64 50, .int .i64 0, .int .i64 300] 40
    #[.int .i64 10, .int .i64 20, .int .i64 30, .int .i64 40] 34
  obtain ⟨W1, hW1, hb1, hs1, y5⟩ := boxes1 W #[.int .i64 3, .int .i64 0] 40
  rw [hs] at y5
  have hbd := (Below.refl W1.heap.size W1).drew
  have q0 := (y0.below hb1).below hbd; have q1 := (y1.below hb1).below hbd
  have p2 : Prs _ _ exT.rcs := Prs.of_bx (T := 34) ((y2.below hb1).below hbd) (by decide) (by decide)
  have p3 : Prs _ _ exT.prs := Prs.of_bx (T := 40) ((y3.below hb1).below hbd) (by decide) (by decide)
  have p4 : Prs _ _ exU.rcs := Prs.of_bx (T := 34) ((y4.below hb1).below hbd) (by decide) (by decide)
  have p5 : Prs _ _ exU.prs := Prs.of_bx (T := 40) (y5.below hbd) (by decide) (by decide)
  replace hb := (hb.trans (hb1.mono hb.size)).trans (hbd.mono (hb.trans (hb1.mono hb.size)).size)
  have hz : w.heap.size + 1 < W1.drew.heap.size := by show _ < W1.heap.size; omega
  have HX := hid (And.intro q0 (And.intro q1 (And.intro p2 (And.intro p3 (And.intro p4 (And.intro p5 (And.intro hb hz)))))))
  clear y0 y1 y2 y3 y4 y5 hb1 hbd q0 q1 p2 p3 p4 p5 hb hz hs1
  go_enter Try.func51, Try.ntmps51
  go_upto_region 3 with fail
  clear hW hW1 hs
  obtain ⟨q0, q1, p2, p3, p4, p5, hb, hz⟩ := HX.out
  clear HX
  refine wp_region_head 3 (fun w' => Bx w' w.heap.size #[.slice (some ⟨w.heap.size + 1 + 1, 0, none⟩) 3 3, .int .i64 0, .int .i64 1, .int .i64 5, .slice (some ⟨w.heap.size + 1 + 1 + 1, 0, none⟩) 5 5] 25 ∧ Bx w' (w.heap.size + 1) #[.slice (some ⟨w.heap.size + 1 + 1 + 1 + 1, 0, none⟩) 2 2, .int .i64 0, .int .i64 (-1), .int .i64 60, .slice (some ⟨w.heap.size + 1 + 1 + 1 + 1 + 1, 0, none⟩) 1 1] 25) (by kernel_rfl) rfl ?_
  generalize W1.drew = Y0 at *
  obtain ⟨b2, hb2⟩ : ∃ b, b = w.heap.size + 1 + 1 := ⟨_, rfl⟩
  rw [← hb2] at q0 q1 p2 p3 p4 p5 ⊢
  have hb2i : w.heap.size + 1 < b2 := by omega
  clear hb2
  have S0 := And.intro q0 q1
  refine HeadAt.take (i := 0) (.agg #[.slice (some ⟨b2, 0, none⟩) 3 3, .int .i64 0, .int .i64 1, .int .i64 5, .slice (some ⟨b2 + 1, 0, none⟩) 5 5]) rfl (by kernel_rfl) (.inl ⟨rfl, fun w' z => ?_⟩) S0 ?_
  · (have z0 := z.1.cell 0 rfl; have z1 := z.1.cell 1 rfl; have z2 := z.1.cell 2 rfl; have z3 := z.1.cell 3 rfl; have z4 := z.1.cell 4 rfl; simp [go_sem, z0, z1, z2, z3, z4])
  refine HeadAt.take (i := 1) (.agg #[.slice (some ⟨b2 + 1 + 1, 0, none⟩) 2 2, .int .i64 0, .int .i64 (-1), .int .i64 60, .slice (some ⟨b2 + 1 + 1 + 1, 0, none⟩) 1 1]) rfl (by kernel_rfl) (.inl ⟨rfl, fun w' z => ?_⟩) S0 ?_
  · (have z0 := z.2.cell 0 rfl; have z1 := z.2.cell 1 rfl; have z2 := z.2.cell 2 rfl; have z3 := z.2.cell 3 rfl; have z4 := z.2.cell 4 rfl; simp [go_sem, z0, z1, z2, z3, z4])
  have gA := gset5 Y0 w.heap.size (.slice (some ⟨b2, 0, none⟩) 3 3) (.int .i64 0) (.int .i64 1) (.int .i64 5) (.slice (some ⟨b2 + 1, 0, none⟩) 5 5)
  have qA := q0.set5 (.slice (some ⟨b2, 0, none⟩) 3 3) (.int .i64 0) (.int .i64 1) (.int .i64 5) (.slice (some ⟨b2 + 1, 0, none⟩) 5 5)
  have qB := q1.gb gA (fun k hk => by cases hk; omega)
  have hbA := hb.grown gA hb.size (fun k hk => by cases hk; omega)
  have p2A := p2.gro gA (fun _ ad e e2 => by cases e; injection e2 with e2; have e3 : w.heap.size = b2 := e2; omega)
  have p3A := p3.gro gA (fun _ ad e e2 => by cases e; injection e2 with e2; have e3 : w.heap.size = b2 + 1 := e2; omega)
  have p4A := p4.gro gA (fun _ ad e e2 => by cases e; injection e2 with e2; have e3 : w.heap.size = b2 + 1 + 1 := e2; omega)
  have p5A := p5.gro gA (fun _ ad e e2 => by cases e; injection e2 with e2; have e3 : w.heap.size = b2 + 1 + 1 + 1 := e2; omega)
  have f0 := q0.free 0; have f1 := q0.free 1; have f2 := q0.free 2; have f3 := q0.free 3; have f4 := q0.free 4
  have z0 := q0.cell 0 rfl; have z1 := q0.cell 1 rfl; have z2 := q0.cell 2 rfl; have z3 := q0.cell 3 rfl; have z4 := q0.cell 4 rfl
  have hzA := gA.size
  have HA := hid (And.intro qA (And.intro qB (And.intro p2A (And.intro p3A (And.intro p4A (And.intro p5A (And.intro hbA hzA)))))))
  clear gA qA qB p2A p3A p4A p5A hbA p2 p3 p4 p5 hb q0 q1 S0 hzA
  refine HeadAt.one (i := 2) rfl (by kernel_rfl) ?_
  generalize hK : Upto _ _ = K0
  (try simp only [Act.put, List.getElem_toArray, List.getElem_cons_succ, List.getElem_cons_zero, List.setIfInBounds_toArray, List.set_cons_succ, List.set_cons_zero])
  go_wp2_with fail
  subst hK
  clear f0 f1 f2 f3 f4 z0 z1 z2 z3 z4
  obtain ⟨qA, qB, p2, p3, p4, p5, hb, hzA⟩ := HA.out
  clear HA
  refine ⟨And.intro qA qB, ?_⟩
  generalize ((((Y0.setCell ⟨w.heap.size, 0, none⟩ (.slice (some ⟨b2, 0, none⟩) 3 3)).setCell ⟨w.heap.size, 1, none⟩ (.int .i64 0)).setCell ⟨w.heap.size, 2, none⟩ (.int .i64 1)).setCell ⟨w.heap.size, 3, none⟩ (.int .i64 5)).setCell ⟨w.heap.size, 4, none⟩ (.slice (some ⟨b2 + 1, 0, none⟩) 5 5) = Y1 at *
  have gA := gset5 Y1 (w.heap.size + 1) (.slice (some ⟨b2 + 1 + 1, 0, none⟩) 2 2) (.int .i64 0) (.int .i64 (-1)) (.int .i64 60) (.slice (some ⟨b2 + 1 + 1 + 1, 0, none⟩) 1 1)
  have qC := qB.set5 (.slice (some ⟨b2 + 1 + 1, 0, none⟩) 2 2) (.int .i64 0) (.int .i64 (-1)) (.int .i64 60) (.slice (some ⟨b2 + 1 + 1 + 1, 0, none⟩) 1 1)
  have qD := qA.gb gA (fun k hk => by cases hk; omega)
  have hbA := hb.grown gA hb.size (fun k hk => by cases hk; omega)
  have p2A := p2.gro gA (fun _ ad e e2 => by cases e; injection e2 with e2; have e3 : w.heap.size + 1 = b2 := e2; omega)
  have p3A := p3.gro gA (fun _ ad e e2 => by cases e; injection e2 with e2; have e3 : w.heap.size + 1 = b2 + 1 := e2; omega)
  have p4A := p4.gro gA (fun _ ad e e2 => by cases e; injection e2 with e2; have e3 : w.heap.size + 1 = b2 + 1 + 1 := e2; omega)
  have p5A := p5.gro gA (fun _ ad e e2 => by cases e; injection e2 with e2; have e3 : w.heap.size + 1 = b2 + 1 + 1 + 1 := e2; omega)
  have f0 := qB.free 0; have f1 := qB.free 1; have f2 := qB.free 2; have f3 := qB.free 3; have f4 := qB.free 4
  have z0 := qB.cell 0 rfl; have z1 := qB.cell 1 rfl; have z2 := qB.cell 2 rfl; have z3 := qB.cell 3 rfl; have z4 := qB.cell 4 rfl
  have r0 := qD.cell 0 rfl; have r1 := qD.cell 1 rfl; have r2 := qD.cell 2 rfl; have r3 := qD.cell 3 rfl; have r4 := qD.cell 4 rfl
  have s0 := qC.cell 0 rfl; have s1 := qC.cell 1 rfl; have s2 := qC.cell 2 rfl; have s3 := qC.cell 3 rfl; have s4 := qC.cell 4 rfl
  have HA := hid (And.intro hbA (And.intro p2A (And.intro p3A (And.intro p4A p5A))))
  clear gA qC qD p2A p3A p4A p5A hbA p2 p3 p4 p5 hb qA qB hzA hz
  refine HeadAt.done (by kernel_rfl) ?_
  (try simp only [List.drop_succ_cons, List.drop_zero])
  go_wp2_with fail
  refine NoPanic.normal ?_
  go_wp2
  refine bodyPost_ret (v := .tuple #[.agg #[.slice (some ⟨b2, 0, none⟩) 3 3, .int .i64 0, .int .i64 1, .int .i64 5, .slice (some ⟨b2 + 1, 0, none⟩) 5 5], .agg #[.slice (some ⟨b2 + 1 + 1, 0, none⟩) 2 2, .int .i64 0, .int .i64 (-1), .int .i64 60, .slice (some ⟨b2 + 1 + 1 + 1, 0, none⟩) 1 1]]) ?_ rfl ⟨HA.out.1, _, _, _, _, _, _, _, _, rfl, HA.out.2.1, HA.out.2.2.1, HA.out.2.2.2.1, HA.out.2.2.2.2⟩
  simp [results, Try.results51, go_sem, r0, r1, r2, r3, r4, s0, s1, s2, s3, s4]
end Go.Proofs.Ytknaljghpfeikaa
