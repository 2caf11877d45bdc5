import Derived.Test.YtmpihcencnkpbaaTC
import Derived.Laws.StructEq
/-! The chapter's example. -/
namespace Go.Proofs.Ytmpihcencnkpbaa
set_option linter.unusedSimpArgs false
set_option linter.unusedVariables false
open Go Go.RowKit

theorem part3' (xs : Array Value) (j : Nat) (k : IntKind) (x : Int) (h : xs[j]? = some (.int k x)) (w : World) : (part 3 xs j).run Try.prog w = .ok (.int k x) w := by
  obtain ⟨j0, hj, jz0, jz1, jz2⟩ := info_parts info3i
  unfold part
  simp [go_sem, sizeOf, typeInfo, hj, jz1, h]

theorem fields63 : (Try.prog.fieldsOf 63).toList.map (fun f => (decide (f.name = "_"), f.type, f.offset)) = [(false, 3, 0), (false, 3, 1), (false, 3, 2)] := by kernel_rfl
theorem f3_equal63 (x y : F3) (w : World) : (Op.equalIn 10000 63 (.agg #[.int .i64 x.k, .int .i64 x.a, .int .i64 x.b]) (.agg #[.int .i64 y.k, .int .i64 y.a, .int .i64 y.b])).run Try.prog w = .ok (decide (x = y)) w := by
  obtain ⟨a, b, c⟩ := x
  obtain ⟨a', b', c'⟩ := y
  rw [show (10000 : Nat) = 9999 + 1 from rfl, run_equalIn_agg w 9999 63 _ _ (by kernel_rfl) (by kernel_rfl)]
  have h := fields63
  generalize (Try.prog.fieldsOf 63).toList = fs at h
  have p1 := part3' #[.int .i64 a, .int .i64 b, .int .i64 c] 0 .i64 a rfl
  have p2 := part3' #[.int .i64 a, .int .i64 b, .int .i64 c] 1 .i64 b rfl
  have p3 := part3' #[.int .i64 a, .int .i64 b, .int .i64 c] 2 .i64 c rfl
  have p1' := part3' #[.int .i64 a', .int .i64 b', .int .i64 c'] 0 .i64 a' rfl
  have p2' := part3' #[.int .i64 a', .int .i64 b', .int .i64 c'] 1 .i64 b' rfl
  have p3' := part3' #[.int .i64 a', .int .i64 b', .int .i64 c'] 2 .i64 c' rfl
  have e : ∀ u v : Int, ∀ w, (Op.equalIn 9999 3 (.int .i64 u) (.int .i64 v)).run Try.prog w = .ok (u == v) w := fun u v w => run_equalIn_int (P := Try.prog) w 9998 3 .i64 .i64 u v Try.underlying3
  simp only [F3.mk.injEq]
  rcases fs with _ | ⟨f, _ | ⟨g, _ | ⟨k, _ | ⟨_, _⟩⟩⟩⟩
  · simp at h
  · simp at h
  · simp at h
  · simp only [List.map_cons, List.map_nil, List.cons.injEq, Prod.mk.injEq, and_true, decide_eq_false_iff_not] at h
    obtain ⟨⟨f1, f2, f3⟩, ⟨g1, g2, g3⟩, k1, k2, k3⟩ := h
    simp only [Op.eqFields, f1, f2, f3, g1, g2, g3, k1, k2, k3, ne_eq, not_false_eq_true, if_true, Sem.run_bind, p1, p1', Result.andThen_ok, e]
    by_cases h1 : a = a'
    · subst h1
      by_cases h2 : b = b'
      · subst h2
        by_cases h3 : c = c'
        · subst h3; simp [p2, p2', p3, p3', e]
        · have : (c == c') = false := by simp [h3]
          simp [p2, p2', p3, p3', e, this, h3]
      · have : (b == b') = false := by simp [h2]
        simp [p2, p2', e, this, h2]
    · have : (a == a') = false := by simp [h1]
      simp [this, h1]
  · simp at h
theorem f3_neq63 (x y : F3) (w : World) : (binOp .neq 63 (.agg #[.int .i64 x.k, .int .i64 x.a, .int .i64 x.b]) (.agg #[.int .i64 y.k, .int .i64 y.a, .int .i64 y.b])).run Try.prog w = .ok (.bool (!decide (x = y))) w := by
  rw [run_neq_struct, f3_equal63]; rfl
theorem f3_eql63 (x y : F3) (w : World) : (binOp .eql 63 (.agg #[.int .i64 x.k, .int .i64 x.a, .int .i64 x.b]) (.agg #[.int .i64 y.k, .int .i64 y.a, .int .i64 y.b])).run Try.prog w = .ok (.bool (decide (x = y))) w := by
  rw [run_eql_struct, f3_equal63]; rfl
theorem fields58 : (Try.prog.fieldsOf 58).toList.map (fun f => (decide (f.name = "_"), f.type, f.offset)) = [(false, 3, 0), (false, 3, 1), (false, 3, 2)] := by kernel_rfl
theorem f3_equal58 (x y : F3) (w : World) : (Op.equalIn 10000 58 (.agg #[.int .i64 x.k, .int .i64 x.a, .int .i64 x.b]) (.agg #[.int .i64 y.k, .int .i64 y.a, .int .i64 y.b])).run Try.prog w = .ok (decide (x = y)) w := by
  obtain ⟨a, b, c⟩ := x
  obtain ⟨a', b', c'⟩ := y
  rw [show (10000 : Nat) = 9999 + 1 from rfl, run_equalIn_agg w 9999 58 _ _ (by kernel_rfl) (by kernel_rfl)]
  have h := fields58
  generalize (Try.prog.fieldsOf 58).toList = fs at h
  have p1 := part3' #[.int .i64 a, .int .i64 b, .int .i64 c] 0 .i64 a rfl
  have p2 := part3' #[.int .i64 a, .int .i64 b, .int .i64 c] 1 .i64 b rfl
  have p3 := part3' #[.int .i64 a, .int .i64 b, .int .i64 c] 2 .i64 c rfl
  have p1' := part3' #[.int .i64 a', .int .i64 b', .int .i64 c'] 0 .i64 a' rfl
  have p2' := part3' #[.int .i64 a', .int .i64 b', .int .i64 c'] 1 .i64 b' rfl
  have p3' := part3' #[.int .i64 a', .int .i64 b', .int .i64 c'] 2 .i64 c' rfl
  have e : ∀ u v : Int, ∀ w, (Op.equalIn 9999 3 (.int .i64 u) (.int .i64 v)).run Try.prog w = .ok (u == v) w := fun u v w => run_equalIn_int (P := Try.prog) w 9998 3 .i64 .i64 u v Try.underlying3
  simp only [F3.mk.injEq]
  rcases fs with _ | ⟨f, _ | ⟨g, _ | ⟨k, _ | ⟨_, _⟩⟩⟩⟩
  · simp at h
  · simp at h
  · simp at h
  · simp only [List.map_cons, List.map_nil, List.cons.injEq, Prod.mk.injEq, and_true, decide_eq_false_iff_not] at h
    obtain ⟨⟨f1, f2, f3⟩, ⟨g1, g2, g3⟩, k1, k2, k3⟩ := h
    simp only [Op.eqFields, f1, f2, f3, g1, g2, g3, k1, k2, k3, ne_eq, not_false_eq_true, if_true, Sem.run_bind, p1, p1', Result.andThen_ok, e]
    by_cases h1 : a = a'
    · subst h1
      by_cases h2 : b = b'
      · subst h2
        by_cases h3 : c = c'
        · subst h3; simp [p2, p2', p3, p3', e]
        · have : (c == c') = false := by simp [h3]
          simp [p2, p2', p3, p3', e, this, h3]
      · have : (b == b') = false := by simp [h2]
        simp [p2, p2', e, this, h2]
    · have : (a == a') = false := by simp [h1]
      simp [this, h1]
  · simp at h
theorem f3_neq58 (x y : F3) (w : World) : (binOp .neq 58 (.agg #[.int .i64 x.k, .int .i64 x.a, .int .i64 x.b]) (.agg #[.int .i64 y.k, .int .i64 y.a, .int .i64 y.b])).run Try.prog w = .ok (.bool (!decide (x = y))) w := by
  rw [run_neq_struct, f3_equal58]; rfl
theorem f3_eql58 (x y : F3) (w : World) : (binOp .eql 58 (.agg #[.int .i64 x.k, .int .i64 x.a, .int .i64 x.b]) (.agg #[.int .i64 y.k, .int .i64 y.a, .int .i64 y.b])).run Try.prog w = .ok (.bool (decide (x = y))) w := by
  rw [run_eql_struct, f3_equal58]; rfl

set_option maxRecDepth 100000 in
set_option maxHeartbeats 2000000 in
theorem SameFaults_eq (a b : Option Addr) (ca cb : Nat) (xs : List F3) (w : World) (hA : Fz w a xs) (hB : Fz w b xs) : Calls Try.prog 23 #[.slice a xs.length ca, .slice b xs.length cb] w fun e w' => e = .returned (.bool true) ∧ Below w.heap.size w w' := by
  have hlen := hA.len
  obtain ⟨n, hn⟩ : ∃ n, n = xs.length := ⟨_, rfl⟩
  rw [← hn] at hlen ⊢
  have HN := hid hn
  have hne : ((n : Int) != (n : Int)) = false := by simp
  clear hn
  go_enter Try.func23, Try.ntmps23
  go_wp2
  go_loopw [5] (fun v5 wr => ∃ k : Nat, k ≤ n ∧ v5 = .int .i64 (k : Int) ∧ Below w.heap.size w wr) (fun v5 _ => n - (intOf v5).toNat)
  case atStart => exact ⟨0, Nat.zero_le _, rfl, Below.refl _ _⟩
  case round =>
    obtain ⟨k, hk, rfl, hb⟩ := hrel
    by_cases hlt : k < n
    · obtain ⟨b1, o1, x, rfl, _, ⟨q0, q1, q2⟩, _, _, hg1, _⟩ := (hA.below hb (Nat.le_refl _)).at (k := k) (by rw [← HN.out]; exact hlt)
      obtain ⟨b2, o2, y, rfl, _, ⟨r0, r1, r2⟩, _, _, hg2, _⟩ := (hB.below hb (Nat.le_refl _)).at (k := k) (by rw [← HN.out]; exact hlt)
      obtain rfl : x = y := by have := hg1.out; rw [hg2.out] at this; injection this with e; exact e.symm
      have hkI : (k : Int) < n := by omega
      have hk0 : (0 : Int) ≤ (k : Int) := by omega
      have hxx : ∀ w, (binOp .neq 63 (.agg #[.int .i64 x.k, .int .i64 x.a, .int .i64 x.b]) (.agg #[.int .i64 x.k, .int .i64 x.a, .int .i64 x.b])).run Try.prog w = .ok (.bool false) w := fun w => by rw [f3_neq63]; simp
      have u0 := Ext.cell q0; have u1 := Ext.cell q1; have u2 := Ext.cell q2
      have s0 := Ext.cell r0; have s1 := Ext.cell r1; have s2 := Ext.cell r2
      clear hg1 hg2 q0 q1 q2 r0 r1 r2
      go_upto_region 6 with fail
      refine wp_region_ext_lit (by kernel_rfl) (by kernel_rfl) ?_
      repeat (quiet_step (fail))
      refine wpQuiet_nil ?_
      intro _ hw'
      obtain ⟨tt, rfl⟩ := hw'
      have hb2 := hb.trans (tt.below.mono hb.size)
      go_wp2
      go_roundw
      case rel => exact ⟨k + 1, by omega, by simp, hb2⟩
      case measure => simp [intOf]; omega
    · obtain rfl : k = n := by omega
      go_wp2
      go_ret
      exact ⟨rfl, hb⟩
set_option maxRecDepth 100000 in
set_option maxHeartbeats 2000000 in
theorem SameInts_eq (a b : Option Addr) (ca cb : Nat) (xs : List Int) (w : World) (hA : Ints w a xs) (hB : Ints w b xs) : Calls Try.prog 41 #[.slice a xs.length ca, .slice b xs.length cb] w fun e w' => e = .returned (.bool true) ∧ Below w.heap.size w w' := by
  have hlen := hA.len
  obtain ⟨n, hn⟩ : ∃ n, n = xs.length := ⟨_, rfl⟩
  rw [← hn] at hlen ⊢
  have HN := hid hn
  have hne : ((n : Int) != (n : Int)) = false := by simp
  clear hn
  go_enter Try.func41, Try.ntmps41
  go_wp2
  go_loopw [5] (fun v5 wr => ∃ k : Nat, k ≤ n ∧ v5 = .int .i64 (k : Int) ∧ Below w.heap.size w wr) (fun v5 _ => n - (intOf v5).toNat)
  case atStart => exact ⟨0, Nat.zero_le _, rfl, Below.refl _ _⟩
  case round =>
    obtain ⟨k, hk, rfl, hb⟩ := hrel
    by_cases hlt : k < n
    · obtain ⟨b1, o1, x, rfl, _, hc1, _, _, hg1, _⟩ := (hA.below hb (Nat.le_refl _)).at (k := k) (by rw [← HN.out]; exact hlt)
      obtain ⟨b2, o2, y, rfl, _, hc2, _, _, hg2, _⟩ := (hB.below hb (Nat.le_refl _)).at (k := k) (by rw [← HN.out]; exact hlt)
      obtain rfl : x = y := by have := hg1.out; rw [hg2.out] at this; injection this with e; exact e.symm
      have hkI : (k : Int) < n := by omega
      have hk0 : (0 : Int) ≤ (k : Int) := by omega
      have hxx : (x != x) = false := by simp
      have u1 := Ext.cell hc1
      have u2 := Ext.cell hc2
      clear hg1 hg2 hc1 hc2
      go_upto_region 6 with fail
      refine wp_region_ext_lit (by kernel_rfl) (by kernel_rfl) ?_
      repeat (quiet_step (fail))
      refine wpQuiet_nil ?_
      intro _ hw'
      obtain ⟨tt, rfl⟩ := hw'
      have hb2 := hb.trans (tt.below.mono hb.size)
      go_wp2
      go_roundw
      case rel => exact ⟨k + 1, by omega, by simp, hb2⟩
      case measure => simp [intOf]; omega
    · obtain rfl : k = n := by omega
      go_wp2
      go_ret
      exact ⟨rfl, hb⟩

theorem gput4 (W : World) (b : Nat) (v0 v1 v2 v3 : Value) : W.grownBy ((((W.setCell ⟨b, 0, none⟩ v0).setCell ⟨b, 1, none⟩ v1).setCell ⟨b, 2, none⟩ v2).setCell ⟨b, 3, none⟩ v3) (some b) :=
  (((gset _ ⟨b, 0, none⟩ v0).trans (gset _ ⟨b, 1, none⟩ v1)).trans (gset _ ⟨b, 2, none⟩ v2)).trans (gset _ ⟨b, 3, none⟩ v3)
theorem below_put4 {B b : Nat} {a W : World} (h : Below B a W) (hb : B ≤ b) (v0 v1 v2 v3 : Value) : Below B a ((((W.setCell ⟨b, 0, none⟩ v0).setCell ⟨b, 1, none⟩ v1).setCell ⟨b, 2, none⟩ v2).setCell ⟨b, 3, none⟩ v3) := (((h.setCell (p := ⟨b, 0, none⟩) hb v0).setCell (p := ⟨b, 1, none⟩) hb v1).setCell (p := ⟨b, 2, none⟩) hb v2).setCell (p := ⟨b, 3, none⟩) hb v3
/-- The presses of the chapter's box. -/
def exP : List F3 := [⟨0, 0, 3⟩, ⟨1, 1, -1⟩]
def ExP (w : World) (e : Ending) (w' : World) : Prop := Below w.heap.size w w' ∧ ∃ (aP : Option Addr) (cP : Nat), e = .returned (.agg #[.int .i64 2, .int .i64 3, .slice aP 2 cP, .int .i64 2]) ∧ Fz w' aP exP

set_option maxRecDepth 100000 in
set_option maxHeartbeats 2000000 in
theorem Example_any (w : World) : Calls Try.prog 53 #[] w (ExP w) := by
  obtain ⟨W, hW, hb, hs, y0, y1⟩ := boxes2 w #[.int .i64 0, .int .i64 0, .slice none 0 0, .int .i64 0] 24 #[.int .i64 0, .int .i64 0, .int .i64 3, .int .i64 1, .int .i64 1, .int .i64 (-1)] 58
  have hg := gput4 W w.heap.size (.int .i64 2) (.int .i64 3) (.slice (some ⟨w.heap.size + 1, 0, none⟩) 2 2) (.int .i64 2)
  have x0 := y0.set4 (.int .i64 2) (.int .i64 3) (.slice (some ⟨w.heap.size + 1, 0, none⟩) 2 2) (.int .i64 2)
  have hb' := below_put4 hb (Nat.le_refl _) (b := w.heap.size) (.int .i64 2) (.int .i64 3) (.slice (some ⟨w.heap.size + 1, 0, none⟩) 2 2) (.int .i64 2)
  have x1 := y1.gro hg (fun e => by injection e with e; omega)
  have HX := hid (And.intro x0 (And.intro x1 hb'))
  have c0 := y0.cell 0 rfl; have c1 := y0.cell 1 rfl; have c2 := y0.cell 2 rfl; have c3 := y0.cell 3 rfl
  have f0 := y0.free 0; have f1 := y0.free 1; have f2 := y0.free 2; have f3 := y0.free 3
  clear x0 x1 y0 y1 hb hg hb'
  go_enter Try.func53, Try.ntmps53
  go_wp2_with fail
  obtain ⟨x0, x1, hb⟩ := HX.out
  clear HX hW c0 c1 c2 c3 f0 f1 f2 f3 hs
  generalize World.setCell _ _ _ = V4 at *
  have e0 := x0.cell 0 rfl; have e1 := x0.cell 1 rfl; have e2 := x0.cell 2 rfl; have e3 := x0.cell 3 rfl
  have q1 : Fz V4 _ exP := Fz.of_bx (xs := exP) x1 (by decide) (by unfold F3.i64; decide +kernel)
  go_wp2
  refine bodyPost_ret (v := .agg #[.int .i64 2, .int .i64 3, .slice (some ⟨w.heap.size + 1, 0, none⟩) 2 2, .int .i64 2]) ?_ rfl ⟨hb, _, _, rfl, q1⟩
  simp [results, Try.results53, go_sem, e0, e1, e2, e3]

theorem ex_many : akE 2 3 exP 2 true = 0 ∧ (akT 2 3 exP 2 true).length = 2 := by decide +kernel
theorem ex_sure : ctR sureS 2 3 exP 2 = [⟨3, 0, 1⟩] := by decide +kernel
theorem ex_shows : lfE 2 3 exP 2 0 1 = 0 ∧ shR 2 3 exP 2 0 1 = [-1, 4] := by decide +kernel
theorem ex_next : nxA 2 3 exP 2 = 0 ∧ nxB 2 3 exP 2 = 1 ∧ nxE 2 3 exP 2 = 0 := by decide +kernel
theorem ex_plays : plE 2 3 exP 2 [] 1 2 = 0 ∧ plR 2 3 exP 2 [] 1 2 = 5 := by decide +kernel
set_option maxRecDepth 100000 in
set_option maxHeartbeats 6000000 in
theorem works_any (w : World) : Calls Try.prog 14 #[] w fun e w' => e = .returned (.bool true) ∧ Below w.heap.size w w' := by
  have hEx := Example_any w
  go_enter Try.func14, Try.ntmps14
  go_wp2_with fail
  refine hEx.mono ?_
  rintro e V1 ⟨hb, aP, cP, rfl, hX⟩
  clear hEx
  have h1 : ∀ V, Pz V aP exP → _ := fun V h => Many_any 2 3 aP cP exP 2 V h
  have h2 : ∀ V, Pz V aP exP → _ := fun V h => Sure_any 2 3 aP cP exP 2 V h
  have h3 : ∀ V, Pz V aP exP → _ := fun V h => Shows_any 2 3 aP cP exP 2 0 1 V h
  have h4 : ∀ V, Pz V aP exP → _ := fun V h => Next_any 2 3 aP cP exP 2 V h
  have h5 : ∀ V, Pz V aP exP → _ := fun V h => Plays_any 2 3 aP cP exP 2 none 0 [] 1 2 V h (Fz.nil _ _) (Nat.le_refl _)
  unfold CtP at h2
  rw [ex_many.1, ex_many.2] at h1
  rw [ex_sure, ex_many.1] at h2
  rw [ex_shows.1, ex_shows.2] at h3
  rw [ex_next.1, ex_next.2.1, ex_next.2.2] at h4
  rw [ex_plays.1, ex_plays.2] at h5
  have hl1 : exP.length = 2 := rfl
  rw [hl1] at h1 h2 h3 h4 h5
  replace hX := hX.pz
  clear hl1
  have hba := below_one (w := V1) (.cells #[.int .i64 2, .int .i64 3, .slice aP 2 cP, .int .i64 2] 24)
  have x0 := Bx.new V1 #[.int .i64 2, .int .i64 3, .slice aP 2 cP, .int .i64 2] 24
  have HX := hid (And.intro x0 (And.intro (hX.below hba (Nat.le_refl _)) (hb.trans (hba.mono hb.size))))
  clear x0 hba hX hb
  go_upto_region 2 with fail
  obtain ⟨x0, hX, hb⟩ := HX.out
  clear HX
  generalize V1.heap.size = s0 at *
  generalize World.alloc _ _ = V2 at *
  have c0 := x0.cell 0 rfl; have c1 := x0.cell 1 rfl; have c2 := x0.cell 2 rfl; have c3 := x0.cell 3 rfl
  go_wp2_with fail
  refine (h1 _ hX).mono ?_
  rintro e Vc1 ⟨rfl, hb1⟩
  clear c0 c1 c2 c3 h1
  replace x0 := x0.below hb1
  replace hX := hX.below hb1 (Nat.le_refl _)
  replace hb := hb.trans (hb1.mono hb.size)
  clear hb1
  have c0 := x0.cell 0 rfl; have c1 := x0.cell 1 rfl; have c2 := x0.cell 2 rfl; have c3 := x0.cell 3 rfl
  go_wp2_with fail
  refine (h2 _ hX).mono ?_
  rintro e Vc2 ⟨hb1, a2, k2, rfl, hF2⟩
  clear c0 c1 c2 c3 h2
  replace x0 := x0.below hb1
  replace hX := hX.below hb1 (Nat.le_refl _)
  replace hb := hb.trans (hb1.mono hb.size)
  clear hb1
  have c0 := x0.cell 0 rfl; have c1 := x0.cell 1 rfl; have c2 := x0.cell 2 rfl; have c3 := x0.cell 3 rfl
  go_wp2_with fail
  refine (h3 _ hX).mono ?_
  rintro e Vc3 ⟨hb1, a3, k3, rfl, hI3⟩
  clear c0 c1 c2 c3 h3
  replace x0 := x0.below hb1
  replace hX := hX.below hb1 (Nat.le_refl _)
  replace hF2 := hF2.below hb1 (Nat.le_refl _)
  replace hb := hb.trans (hb1.mono hb.size)
  clear hb1
  have c0 := x0.cell 0 rfl; have c1 := x0.cell 1 rfl; have c2 := x0.cell 2 rfl; have c3 := x0.cell 3 rfl
  go_wp2_with fail
  refine (h4 _ hX).mono ?_
  rintro e Vc4 ⟨rfl, hb1⟩
  clear c0 c1 c2 c3 h4
  replace x0 := x0.below hb1
  replace hX := hX.below hb1 (Nat.le_refl _)
  replace hF2 := hF2.below hb1 (Nat.le_refl _)
  replace hI3 := hI3.below hb1 (Nat.le_refl _)
  replace hb := hb.trans (hb1.mono hb.size)
  clear hb1
  have c0 := x0.cell 0 rfl; have c1 := x0.cell 1 rfl; have c2 := x0.cell 2 rfl; have c3 := x0.cell 3 rfl
  go_wp2_with fail
  refine (h5 _ hX).mono ?_
  rintro e Vc5 ⟨rfl, hb1⟩
  clear c0 c1 c2 c3 h5
  replace x0 := x0.below hb1
  replace hX := hX.below hb1 (Nat.le_refl _)
  replace hF2 := hF2.below hb1 (Nat.le_refl _)
  replace hI3 := hI3.below hb1 (Nat.le_refl _)
  replace hb := hb.trans (hb1.mono hb.size)
  clear hb1
  clear x0 hX
  have hba := below_one (w := Vc5) (.cells #[.int .i64 3, .int .i64 0, .int .i64 1] 63)
  have hL : Fz (Vc5.alloc (.cells #[.int .i64 3, .int .i64 0, .int .i64 1] 63)) (some ⟨Vc5.heap.size, 0, none⟩) [⟨3, 0, 1⟩] := Fz.of_bx (xs := [⟨3, 0, 1⟩]) (Bx.new Vc5 #[.int .i64 3, .int .i64 0, .int .i64 1] 63) (by decide) (by unfold F3.i64; decide +kernel)
  have hsm := SameFaults_eq a2 _ k2 1 [⟨3, 0, 1⟩] _ (hF2.below hba (Nat.le_refl _)) hL
  have hI3n := hI3.below hba (Nat.le_refl _)
  have hbn := hb.trans (hba.mono hb.size)
  clear hba hL hF2 hI3 hb
  go_wp2_with fail
  refine hsm.mono ?_
  rintro e V8 ⟨rfl, hb1⟩
  replace hI3n := hI3n.below hb1 (Nat.le_refl _)
  replace hbn := hbn.trans (hb1.mono hbn.size)
  clear hb1 hsm
  have hba := below_one (w := V8) (.cells #[.int .i64 (-1), .int .i64 4] 3)
  have hL : Ints (V8.alloc (.cells #[.int .i64 (-1), .int .i64 4] 3)) (some ⟨V8.heap.size, 0, none⟩) [-1, 4] := Ints.of_bx (Bx.new V8 #[.int .i64 (-1), .int .i64 4] 3) (by decide) (by decide)
  have hsm := SameInts_eq a3 _ k3 2 [-1, 4] _ (hI3n.below hba (Nat.le_refl _)) hL
  have hb := hbn.trans (hba.mono hbn.size)
  clear hba hL hI3n hbn
  go_wp2_with fail
  refine hsm.mono ?_
  rintro e V9 ⟨rfl, hb1⟩
  replace hb := hb.trans (hb1.mono hb.size)
  clear hb1 hsm
  go_wp2
  go_ret
  exact ⟨rfl, hb⟩
end Go.Proofs.Ytmpihcencnkpbaa
