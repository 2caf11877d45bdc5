import Derived.Test.YteianfbdhakhpaaTD
import Derived.Test.YteianfbdhakhpaaTF
import Derived.Laws.StructEq
/-! The chapter's example. -/
namespace Go.Proofs.Yteianfbdhakhpaa
set_option linter.unusedSimpArgs false
set_option linter.unusedVariables false
open Go Go.RowKit

theorem Bx.set_ne {W : World} {b : Nat} {vs : Array Value} {T : TypeId} (h : Bx W b vs T) (a : Addr) (v : Value) (hn : b ≠ a.block) : Bx (W.setCell a v) b vs T :=
  (Below.heap_setCell W a v b hn).trans h
theorem put8 {W : World} {b : Nat} {T : TypeId} {u0 u1 u2 u3 u4 u5 u6 u7 : Value} (h : Bx W b #[u0, u1, u2, u3, u4, u5, u6, u7] T) (v0 v1 v2 v3 v4 v5 v6 v7 : Value) : Bx ((((((((W.setCell ⟨b, 0, none⟩ v0).setCell ⟨b, 1, none⟩ v1).setCell ⟨b, 2, none⟩ v2).setCell ⟨b, 3, none⟩ v3).setCell ⟨b, 4, none⟩ v4).setCell ⟨b, 5, none⟩ v5).setCell ⟨b, 6, none⟩ v6).setCell ⟨b, 7, none⟩ v7) b #[v0, v1, v2, v3, v4, v5, v6, v7] T := by
  have h0 : Bx _ b #[v0, u1, u2, u3, u4, u5, u6, u7] T := h.set 0 v0
  have h1 : Bx _ b #[v0, v1, u2, u3, u4, u5, u6, u7] T := h0.set 1 v1
  have h2 : Bx _ b #[v0, v1, v2, u3, u4, u5, u6, u7] T := h1.set 2 v2
  have h3 : Bx _ b #[v0, v1, v2, v3, u4, u5, u6, u7] T := h2.set 3 v3
  have h4 : Bx _ b #[v0, v1, v2, v3, v4, u5, u6, u7] T := h3.set 4 v4
  have h5 : Bx _ b #[v0, v1, v2, v3, v4, v5, u6, u7] T := h4.set 5 v5
  have h6 : Bx _ b #[v0, v1, v2, v3, v4, v5, v6, u7] T := h5.set 6 v6
  have h7 : Bx _ b #[v0, v1, v2, v3, v4, v5, v6, v7] T := h6.set 7 v7
  exact h7
theorem put8_ne {W : World} {b c : Nat} {T : TypeId} {vs : Array Value} (h : Bx W c vs T) (hn : c ≠ b) (v0 v1 v2 v3 v4 v5 v6 v7 : Value) : Bx ((((((((W.setCell ⟨b, 0, none⟩ v0).setCell ⟨b, 1, none⟩ v1).setCell ⟨b, 2, none⟩ v2).setCell ⟨b, 3, none⟩ v3).setCell ⟨b, 4, none⟩ v4).setCell ⟨b, 5, none⟩ v5).setCell ⟨b, 6, none⟩ v6).setCell ⟨b, 7, none⟩ v7) c vs T :=
  (((((((h.set_ne _ v0 hn).set_ne _ v1 hn).set_ne _ v2 hn).set_ne _ v3 hn).set_ne _ v4 hn).set_ne _ v5 hn).set_ne _ v6 hn).set_ne _ v7 hn
theorem below_put8 {B b : Nat} {a W : World} (h : Below B a W) (hb : B ≤ b) (v0 v1 v2 v3 v4 v5 v6 v7 : Value) : Below B a ((((((((W.setCell ⟨b, 0, none⟩ v0).setCell ⟨b, 1, none⟩ v1).setCell ⟨b, 2, none⟩ v2).setCell ⟨b, 3, none⟩ v3).setCell ⟨b, 4, none⟩ v4).setCell ⟨b, 5, none⟩ v5).setCell ⟨b, 6, none⟩ v6).setCell ⟨b, 7, none⟩ v7) :=
  (((((((h.setCell (p := ⟨b, 0, none⟩) hb v0).setCell (p := ⟨b, 1, none⟩) hb v1).setCell (p := ⟨b, 2, none⟩) hb v2).setCell (p := ⟨b, 3, none⟩) hb v3).setCell (p := ⟨b, 4, none⟩) hb v4).setCell (p := ⟨b, 5, none⟩) hb v5).setCell (p := ⟨b, 6, none⟩) hb v6).setCell (p := ⟨b, 7, none⟩) hb v7
/-- The times of the chapter's train. -/
def exT : List Int := [0, 10, 40, 50, 60]
def exX : Pu := ⟨3, 4, 10, 2, 30, 100, 1, exT⟩
def exY : Pu := ⟨3, 4, 10, 2, 30, 100, 0, exT⟩
def ExP (w : World) (e : Ending) (w' : World) : Prop := Below w.heap.size w w' ∧ ∃ (aT : Option Addr) (cT : Nat), e = .returned (.agg #[.int .i64 3, .int .i64 4, .int .i64 10, .int .i64 2, .int .i64 30, .int .i64 100, .int .i64 1, .slice aT 5 cT]) ∧ Ints w' aT exT

set_option maxRecDepth 100000 in
set_option maxHeartbeats 2000000 in
theorem Example_any (w : World) : Calls Try.prog 47 #[] w (ExP w) := by
  obtain ⟨W, hW, hb, hs, y0, y1⟩ := boxes2 w #[.int .i64 0, .int .i64 0, .int .i64 0, .int .i64 0, .int .i64 0, .int .i64 0, .int .i64 0, .slice none 0 0] 24 #[.int .i64 0, .int .i64 10, .int .i64 40, .int .i64 50, .int .i64 60] 3
  have x0 := put8 y0 (.int .i64 3) (.int .i64 4) (.int .i64 10) (.int .i64 2) (.int .i64 30) (.int .i64 100) (.int .i64 1) (.slice (some ⟨w.heap.size + 1, 0, none⟩) 5 5)
  have hb' := below_put8 hb (Nat.le_refl _) (b := w.heap.size) (.int .i64 3) (.int .i64 4) (.int .i64 10) (.int .i64 2) (.int .i64 30) (.int .i64 100) (.int .i64 1) (.slice (some ⟨w.heap.size + 1, 0, none⟩) 5 5)
  have x1 := put8_ne (b := w.heap.size) y1 (by omega) (.int .i64 3) (.int .i64 4) (.int .i64 10) (.int .i64 2) (.int .i64 30) (.int .i64 100) (.int .i64 1) (.slice (some ⟨w.heap.size + 1, 0, none⟩) 5 5)
  have HX := hid (And.intro x0 (And.intro x1 hb'))
  have c0 := y0.cell 0 rfl; have c1 := y0.cell 1 rfl; have c2 := y0.cell 2 rfl; have c3 := y0.cell 3 rfl; have c4 := y0.cell 4 rfl; have c5 := y0.cell 5 rfl; have c6 := y0.cell 6 rfl; have c7 := y0.cell 7 rfl
  have f0 := y0.free 0; have f1 := y0.free 1; have f2 := y0.free 2; have f3 := y0.free 3; have f4 := y0.free 4; have f5 := y0.free 5; have f6 := y0.free 6; have f7 := y0.free 7
  clear x0 x1 y0 y1 hb hb'
  go_enter Try.func47, Try.ntmps47
  go_wp2_with fail
  obtain ⟨x0, x1, hb⟩ := HX.out
  clear HX hW c0 c1 c2 c3 c4 c5 c6 c7 f0 f1 f2 f3 f4 f5 f6 f7 hs
  generalize World.setCell _ _ _ = V4 at *
  have e0 := x0.cell 0 rfl; have e1 := x0.cell 1 rfl; have e2 := x0.cell 2 rfl; have e3 := x0.cell 3 rfl; have e4 := x0.cell 4 rfl; have e5 := x0.cell 5 rfl; have e6 := x0.cell 6 rfl; have e7 := x0.cell 7 rfl
  have q1 : Ints V4 _ exT := Ints.of_bx (xs := exT) x1 (by decide) (by decide)
  go_wp2
  refine bodyPost_ret (v := .agg #[.int .i64 3, .int .i64 4, .int .i64 10, .int .i64 2, .int .i64 30, .int .i64 100, .int .i64 1, .slice (some ⟨w.heap.size + 1, 0, none⟩) 5 5]) ?_ rfl ⟨hb, _, _, rfl, q1⟩
  simp [results, Try.results47, go_sem, e0, e1, e2, e3, e4, e5, e6, e7]

theorem ex_many : erX exX true = 0 ∧ manN exX = 5 := by decide +kernel
theorem ex_lists : lsN exX = 3 := by decide +kernel
theorem ex_ask : askLo exX 6 = 0 ∧ askHi exX 6 = 1 ∧ askE exX 6 = 0 := by decide +kernel
theorem ex_write : wrE exX [1, 4] 7 = 0 ∧ wrLi exX [1, 4] 7 = [7, 37, 47, 147, 157, 187] := by decide +kernel
theorem ex_read : rdE exY true = 0 ∧ rdLi exY true = [6] := by decide +kernel
end Go.Proofs.Yteianfbdhakhpaa
/-! The chapter's example works. -/
namespace Go.Proofs.Yteianfbdhakhpaa
set_option linter.unusedSimpArgs false
set_option linter.unusedVariables false
open Go Go.RowKit

theorem part3' (xs : Array Value) (j : Nat) (k : IntKind) (x : Int) (h : xs[j]? = some (.int k x)) (w : World) : (part 3 xs j).run Try.prog w = .ok (.int k x) w := by
  obtain ⟨j0, hj, jz0, jz1, jz2⟩ := info_parts info3i
  unfold part
  simp [go_sem, sizeOf, typeInfo, hj, jz1, h]
theorem fields39 : (Try.prog.fieldsOf 39).toList.map (fun f => (decide (f.name = "_"), f.type, f.offset)) = [(false, 3, 0), (false, 3, 1)] := by kernel_rfl
theorem span_equal (a b a' b' : Int) (w : World) : (Op.equalIn 10000 39 (.agg #[.int .i64 a, .int .i64 b]) (.agg #[.int .i64 a', .int .i64 b'])).run Try.prog w = .ok (decide (a = a' ∧ b = b')) w := by
  rw [show (10000 : Nat) = 9999 + 1 from rfl, run_equalIn_agg w 9999 39 _ _ (by kernel_rfl) (by kernel_rfl)]
  have h := fields39
  generalize (Try.prog.fieldsOf 39).toList = fs at h
  have p1 := part3' #[.int .i64 a, .int .i64 b] 0 .i64 a rfl
  have p2 := part3' #[.int .i64 a, .int .i64 b] 1 .i64 b rfl
  have p1' := part3' #[.int .i64 a', .int .i64 b'] 0 .i64 a' rfl
  have p2' := part3' #[.int .i64 a', .int .i64 b'] 1 .i64 b' rfl
  have e : ∀ u v : Int, ∀ w, (Op.equalIn 9999 3 (.int .i64 u) (.int .i64 v)).run Try.prog w = .ok (u == v) w := fun u v w => run_equalIn_int (P := Try.prog) w 9998 3 .i64 .i64 u v Try.underlying3
  rcases fs with _ | ⟨f, _ | ⟨g, _ | ⟨k, fs⟩⟩⟩
  · simp at h
  · simp at h
  · simp only [List.map_cons, List.map_nil, List.cons.injEq, Prod.mk.injEq, and_true, decide_eq_false_iff_not] at h
    obtain ⟨⟨f1, f2, f3⟩, g1, g2, g3⟩ := h
    simp only [Op.eqFields, f1, f2, f3, g1, g2, g3, ne_eq, not_false_eq_true, if_true, Sem.run_bind, p1, p1', Result.andThen_ok, e]
    by_cases h1 : a = a'
    · subst h1
      by_cases h2 : b = b'
      · subst h2; simp [p2, p2', e]
      · have : (b == b') = false := by simp [h2]
        simp [p2, p2', e, this, h2]
    · have : (a == a') = false := by simp [h1]
      simp [this, h1]
  · simp at h
theorem span_eql (a b a' b' : Int) (w : World) : (binOp .eql 39 (.agg #[.int .i64 a, .int .i64 b]) (.agg #[.int .i64 a', .int .i64 b'])).run Try.prog w = .ok (.bool (decide (a = a' ∧ b = b'))) w := by
  rw [run_eql_struct, span_equal]; rfl
theorem Iz.set {B : Nat} {w : World} {a : Option Addr} {L : List Int} (h : Iz B w a L) (p : Addr) (v : Value) (hp : p.block < B) : Iz B (w.setCell p v) a L :=
  h.of (by simp [World.setCell]) (fun ad vs z e hh => by rw [Below.heap_setCell _ _ _ _ (by have := h.b ad e; omega)]; exact hh)
set_option maxRecDepth 100000 in
set_option maxHeartbeats 8000000 in
theorem works_any (w : World) : Calls Try.prog 13 #[] w fun e w' => e = .returned (.bool true) ∧ Below w.heap.size w w' := by
  have hEx := Example_any w
  go_enter Try.func13, Try.ntmps13
  go_wp2_with fail
  refine hEx.mono ?_
  rintro e V1 ⟨hb, aT, cT, rfl, hX⟩
  clear hEx
  have h1 : ∀ V, Ints V aT exT → _ := fun V h => Many_any aT cT exX V h
  have h2 : ∀ V, Ints V aT exT → _ := fun V h => Lists_any aT cT exX V h
  have h3 : ∀ V, Ints V aT exT → _ := fun V h => Asked_any aT cT exX 6 V h
  have h4 : ∀ V aL, Ints V aT exT → Ints V aL [1, 4] → _ := fun V aL h hL => Write_any aT cT exX aL 2 [1, 4] 7 V h hL
  have h5 : ∀ V, Ints V aT exT → _ := fun V h => Read_any aT cT exY V h
  unfold ReP at h4 h5
  have e0 : exX.ts = exT := rfl
  have e1 : exY.ts = exT := rfl
  have e2 : exT.length = 5 := rfl
  have e3 : ([1, 4] : List Int).length = 2 := rfl
  have e4 : ([7, 37, 47, 147, 157, 187] : List Int).length = 6 := rfl
  have e5 : ([6] : List Int).length = 1 := rfl
  rw [ex_many.1, ex_many.2, e0, e2] at h1
  rw [ex_many.1, ex_lists, e0, e2] at h2
  rw [ex_ask.1, ex_ask.2.1, ex_ask.2.2, e0, e2] at h3
  rw [ex_write.1, ex_write.2, e0, e2, e3, e4] at h4
  rw [ex_read.1, ex_read.2, e1, e2, e5] at h5
  clear e0 e1 e2 e3 e4 e5
  replace h1 : ∀ V, Ints V aT exT → Calls Try.prog 24 #[.agg #[.int .i64 3, .int .i64 4, .int .i64 10, .int .i64 2, .int .i64 30, .int .i64 100, .int .i64 1, .slice aT 5 cT]] V _ := h1
  replace h2 : ∀ V, Ints V aT exT → Calls Try.prog 26 #[.agg #[.int .i64 3, .int .i64 4, .int .i64 10, .int .i64 2, .int .i64 30, .int .i64 100, .int .i64 1, .slice aT 5 cT]] V _ := h2
  replace h3 : ∀ V, Ints V aT exT → Calls Try.prog 30 #[.agg #[.int .i64 3, .int .i64 4, .int .i64 10, .int .i64 2, .int .i64 30, .int .i64 100, .int .i64 1, .slice aT 5 cT], .int .i64 6] V _ := h3
  replace h4 : ∀ V aL, Ints V aT exT → Ints V aL [1, 4] → Calls Try.prog 17 #[.agg #[.int .i64 3, .int .i64 4, .int .i64 10, .int .i64 2, .int .i64 30, .int .i64 100, .int .i64 1, .slice aT 5 cT], .slice aL 2 2, .int .i64 7] V _ := h4
  replace h5 : ∀ V, Ints V aT exT → Calls Try.prog 28 #[.agg #[.int .i64 3, .int .i64 4, .int .i64 10, .int .i64 2, .int .i64 30, .int .i64 100, .int .i64 0, .slice aT 5 cT]] V _ := h5
  have hba := below_one (w := V1) (.cells #[.int .i64 3, .int .i64 4, .int .i64 10, .int .i64 2, .int .i64 30, .int .i64 100, .int .i64 1, .slice aT 5 cT] 24)
  have x0 := Bx.new V1 #[.int .i64 3, .int .i64 4, .int .i64 10, .int .i64 2, .int .i64 30, .int .i64 100, .int .i64 1, .slice aT 5 cT] 24
  have HX := hid (And.intro x0 (And.intro hba (hb.trans (hba.mono hb.size))))
  have HXX := hid hX
  have HB1 := hid hb.size
  clear x0 hba hX hb
  go_upto_region 2 with fail
  obtain ⟨x0, hv, hb⟩ := HX.out
  clear HX
  obtain ⟨s0, hs0⟩ : ∃ s0, s0 = V1.heap.size := ⟨_, rfl⟩
  have HS0 := hid hs0
  rw [← hs0] at x0 hv ⊢
  clear hs0
  generalize World.alloc _ _ = V2 at *
  have c0 := x0.cell 0 rfl; have c1 := x0.cell 1 rfl; have c2 := x0.cell 2 rfl; have c3 := x0.cell 3 rfl; have c4 := x0.cell 4 rfl; have c5 := x0.cell 5 rfl; have c6 := x0.cell 6 rfl; have c7 := x0.cell 7 rfl
  go_wp2_with fail
  refine (h1 _ (HXX.out.below hv (by rw [HS0.out]; exact Nat.le_refl _))).mono ?_
  rintro e Vc1 ⟨rfl, hb1⟩
  clear c0 c1 c2 c3 c4 c5 c6 c7 h1
  replace hv := hv.trans (hb1.mono (by have := x0.lt; omega))
  replace x0 := x0.below hb1
  replace hb := hb.trans (hb1.mono hb.size)

  clear hb1
  have c0 := x0.cell 0 rfl; have c1 := x0.cell 1 rfl; have c2 := x0.cell 2 rfl; have c3 := x0.cell 3 rfl; have c4 := x0.cell 4 rfl; have c5 := x0.cell 5 rfl; have c6 := x0.cell 6 rfl; have c7 := x0.cell 7 rfl
  go_wp2_with fail
  refine (h2 _ (HXX.out.below hv (by rw [HS0.out]; exact Nat.le_refl _))).mono ?_
  rintro e Vc2 ⟨rfl, hb1⟩
  clear c0 c1 c2 c3 c4 c5 c6 c7 h2
  replace hv := hv.trans (hb1.mono (by have := x0.lt; omega))
  replace x0 := x0.below hb1
  replace hb := hb.trans (hb1.mono hb.size)

  clear hb1
  have c0 := x0.cell 0 rfl; have c1 := x0.cell 1 rfl; have c2 := x0.cell 2 rfl; have c3 := x0.cell 3 rfl; have c4 := x0.cell 4 rfl; have c5 := x0.cell 5 rfl; have c6 := x0.cell 6 rfl; have c7 := x0.cell 7 rfl
  go_wp2_with fail
  refine (h3 _ (HXX.out.below hv (by rw [HS0.out]; exact Nat.le_refl _))).mono ?_
  rintro e Vc3 ⟨rfl, hb1⟩
  clear c0 c1 c2 c3 c4 c5 c6 c7 h3
  replace hv := hv.trans (hb1.mono (by have := x0.lt; omega))
  replace x0 := x0.below hb1
  replace hb := hb.trans (hb1.mono hb.size)
  clear hb1
  have hba := below_one (w := Vc3) (.cells #[.int .i64 0, .int .i64 1] 39)
  have hx6 := Bx.new Vc3 #[.int .i64 0, .int .i64 1] 39
  have HX := hid (And.intro (x0.below hba) (And.intro (hv.trans (hba.mono (by have := x0.lt; omega))) (And.intro (hb.trans (hba.mono hb.size)) (And.intro hx6 x0.lt))))
  clear hba hx6 x0 hv hb
  go_upto_region 5 with fail
  obtain ⟨x0, hv, hb, x6, hlt⟩ := HX.out
  clear HX
  generalize Vc3.heap.size = s6 at *
  generalize World.alloc _ _ = V3 at *
  have hba := below_one (w := V3) (.cells #[.int .i64 1, .int .i64 4] 3)
  have hL : Ints (V3.alloc (.cells #[.int .i64 1, .int .i64 4] 3)) (some ⟨V3.heap.size, 0, none⟩) [1, 4] := Ints.of_bx (Bx.new V3 #[.int .i64 1, .int .i64 4] 3) (by decide) (by decide)
  have hvn := hv.trans (hba.mono (by have := x0.lt; omega))
  have h4n := h4 _ _ (HXX.out.below hvn (by rw [HS0.out]; exact Nat.le_refl _)) hL
  have HX := hid (And.intro (x0.below hba) (And.intro hvn (And.intro (hb.trans (hba.mono hb.size)) (x6.below hba))))
  have c0 := x0.cell 0 rfl; have c1 := x0.cell 1 rfl; have c2 := x0.cell 2 rfl; have c3 := x0.cell 3 rfl; have c4 := x0.cell 4 rfl; have c5 := x0.cell 5 rfl; have c6 := x0.cell 6 rfl; have c7 := x0.cell 7 rfl
  clear hba hL hvn h4 hv hb x6
  go_wp2_with fail
  refine h4n.mono ?_
  rintro e Vc4 ⟨hb1, a8, k8, rfl, hz8⟩
  obtain ⟨y0, hv, hb, x6⟩ := HX.out
  clear HX x0 c0 c1 c2 c3 c4 c5 c6 c7 h4n
  replace hz8 := hz8.mono (show s0 + 1 ≤ _ by have := y0.lt; omega)
  replace hv := hv.trans (hb1.mono (by have := y0.lt; omega))
  have x0 := y0.below hb1
  replace x6 := x6.below hb1
  replace hb := hb.trans (hb1.mono hb.size)
  clear hb1 y0
  have hx0n := x0.set 6 (.int .i64 0)
  have hx6n := x6.set_ne ⟨s0, 6, none⟩ (.int .i64 0) (by show s6 ≠ s0; omega)
  have hzn := hz8.set ⟨s0, 6, none⟩ (.int .i64 0) (by show s0 < s0 + 1; omega)
  have hvn := hv.setCell (p := ⟨s0, 6, none⟩) (Nat.le_refl _) (.int .i64 0)
  have hbn := hb.setCell (p := ⟨s0, 6, none⟩) (by show w.heap.size ≤ s0; rw [HS0.out]; exact HB1.out) (.int .i64 0)
  replace hx0n : Bx _ s0 #[.int .i64 3, .int .i64 4, .int .i64 10, .int .i64 2, .int .i64 30, .int .i64 100, .int .i64 0, .slice aT 5 cT] 24 := hx0n
  have HX := hid (And.intro hx0n (And.intro hvn (And.intro hbn (And.intro hx6n hzn))))
  have c0 := x0.cell 0 rfl; have c1 := x0.cell 1 rfl; have c2 := x0.cell 2 rfl; have c3 := x0.cell 3 rfl; have c4 := x0.cell 4 rfl; have c5 := x0.cell 5 rfl; have c6 := x0.cell 6 rfl; have c7 := x0.cell 7 rfl
  have f0 := x0.free 0; have f1 := x0.free 1; have f2 := x0.free 2; have f3 := x0.free 3; have f4 := x0.free 4; have f5 := x0.free 5; have f6 := x0.free 6; have f7 := x0.free 7
  clear hx0n hvn hbn hx6n hzn hv hb x6 hz8
  go_upto_region 7 with fail
  obtain ⟨y0, hv, hb, x6, hz8⟩ := HX.out
  clear HX x0 c0 c1 c2 c3 c4 c5 c6 c7 f0 f1 f2 f3 f4 f5 f6 f7
  have x0 := y0
  clear y0
  generalize World.setCell _ _ _ = V5 at *
  have c0 := x0.cell 0 rfl; have c1 := x0.cell 1 rfl; have c2 := x0.cell 2 rfl; have c3 := x0.cell 3 rfl; have c4 := x0.cell 4 rfl; have c5 := x0.cell 5 rfl; have c6 := x0.cell 6 rfl; have c7 := x0.cell 7 rfl
  go_wp2_with fail
  refine (h5 _ (HXX.out.below hv (by rw [HS0.out]; exact Nat.le_refl _))).mono ?_
  rintro e Vc5 ⟨hb1, a9, k9, rfl, hz9⟩
  clear c0 c1 c2 c3 c4 c5 c6 c7 h5
  replace x6 := x6.below hb1
  replace hz8 := hz8.below hb1
  replace hb := hb.trans (hb1.mono hb.size)
  clear hb1 hv x0
  have c0 := x6.cell 0 rfl; have c1 := x6.cell 1 rfl
  have hsp := fun W => span_eql 0 1 0 1 W
  replace hsp : ∀ W, (binOp .eql 39 (.agg #[.int .i64 0, .int .i64 1]) (.agg #[.int .i64 0, .int .i64 1])).run Try.prog W = .ok (.bool true) W := hsp
  have hba := below_one (w := Vc5) (.cells #[.int .i64 7, .int .i64 37, .int .i64 47, .int .i64 147, .int .i64 157, .int .i64 187] 3)
  have hL : Ints (Vc5.alloc (.cells #[.int .i64 7, .int .i64 37, .int .i64 47, .int .i64 147, .int .i64 157, .int .i64 187] 3)) (some ⟨Vc5.heap.size, 0, none⟩) [7, 37, 47, 147, 157, 187] := Ints.of_bx (Bx.new Vc5 #[.int .i64 7, .int .i64 37, .int .i64 47, .int .i64 147, .int .i64 157, .int .i64 187] 3) (by decide) (by decide)
  have hsm := SameInts_any a8 _ k8 6 [7, 37, 47, 147, 157, 187] [7, 37, 47, 147, 157, 187] _ (hz8.below hba).i hL
  rw [decide_eq_true (rfl : ([7, 37, 47, 147, 157, 187] : List Int) = [7, 37, 47, 147, 157, 187])] at hsm
  replace hsm : Calls Try.prog 19 #[.slice a8 6 k8, .slice (some ⟨Vc5.heap.size, 0, none⟩) 6 6] _ _ := hsm
  have hz9n := hz9.below hba
  have hbn := hb.trans (hba.mono hb.size)
  clear hba hL hz8 hz9 hb x6
  go_wp2_with fail
  refine hsm.mono ?_
  rintro e V8 ⟨rfl, hb1⟩
  replace hz9n := hz9n.below hb1
  replace hbn := hbn.trans (hb1.mono hbn.size)
  clear hb1 hsm c0 c1
  have hba := below_one (w := V8) (.cells #[.int .i64 6] 3)
  have hL : Ints (V8.alloc (.cells #[.int .i64 6] 3)) (some ⟨V8.heap.size, 0, none⟩) [6] := Ints.of_bx (Bx.new V8 #[.int .i64 6] 3) (by decide) (by decide)
  have hsm := SameInts_any a9 _ k9 1 [6] [6] _ (hz9n.below hba).i hL
  rw [decide_eq_true (rfl : ([6] : List Int) = [6])] at hsm
  replace hsm : Calls Try.prog 19 #[.slice a9 1 k9, .slice (some ⟨V8.heap.size, 0, none⟩) 1 1] _ _ := hsm
  have hb := hbn.trans (hba.mono hbn.size)
  clear hba hL hz9n hbn
  go_wp2_with fail
  refine hsm.mono ?_
  rintro e V9 ⟨rfl, hb1⟩
  replace hb := hb.trans (hb1.mono hb.size)
  clear hb1 hsm
  go_wp2
  go_ret
  exact ⟨rfl, hb⟩
end Go.Proofs.Yteianfbdhakhpaa
