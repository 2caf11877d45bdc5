import Derived.Test.YteianfbdhakhpaaV3
import Derived.Test.YteianfbdhakhpaaT3
import Derived.Test.YteianfbdhakhpaaM4
/-! isIn. -/
namespace Go.Proofs.Yteianfbdhakhpaa
set_option linter.unusedSimpArgs false
set_option linter.unusedVariables false
open Go Go.RowKit
set_option maxRecDepth 100000 in
set_option maxHeartbeats 2000000 in
theorem isIn_any (a b : Option Addr) (ca cb : Nat) (xs ys : List Int) (h1 : xs.length ≤ 40) (h2 : ys.length ≤ 40) (w : World) (hA : Ints w a xs) (hB : Ints w b ys) : Calls Try.prog 43 #[.slice a xs.length ca, .slice b ys.length cb] w fun e w' => e = .returned (.bool (inAll xs ys)) ∧ w = w' := by
  have hin := fun x => In_any b cb ys x w hB
  have HR0 := hid (show ∀ k x, xs[k]? = some x → inL x ys = false → inAll xs ys = false from fun k x hk hx => by
    unfold inAll
    rw [List.all_eq_false]
    exact ⟨x, List.mem_of_getElem? hk, by rw [hx]; simp⟩)
  have HR1 := hid (show (xs.take xs.length).all (fun x => inL x ys) = true → inAll xs ys = true from fun h => by rw [List.take_length] at h; exact h)
  generalize inAll xs ys = r at *
  obtain ⟨n, hn⟩ : ∃ n, n = xs.length := ⟨_, rfl⟩
  rw [← hn] at h1 HR1 ⊢
  have HN := hid hn
  generalize ys.length = m at *
  clear hn hB
  have h1I : ¬ (n : Int) > 40 := by omega
  have h2I : ¬ (m : Int) > 40 := by omega
  go_enter Try.func43, Try.ntmps43
  go_wp2
  go_loopw [5] (fun v5 wr => ∃ k : Nat, k ≤ n ∧ v5 = .int .i64 (k : Int) ∧ Hid ((xs.take k).all (fun x => inL x ys) = true) ∧ wr = w) (fun v5 _ => n - (intOf v5).toNat)
  case atStart => exact ⟨0, Nat.zero_le _, rfl, hid rfl, rfl⟩
  case round =>
    obtain ⟨k, hk, rfl, HA, rfl⟩ := hrel
    by_cases hlt : k < n
    · obtain ⟨b1, o1, x, rfl, hbl, hc1, _, _, hg, _⟩ := hA.at (k := k) (by rw [← HN.out]; exact hlt)
      have hkI : (k : Int) < n := by omega
      have hk0 : (0 : Int) ≤ (k : Int) := by omega
      have hcc := hin x
      cases hx : inL x ys with
      | true =>
        rw [hx] at hcc
        have HB := hid (show (xs.take (k + 1)).all (fun x => inL x ys) = true by rw [List.take_add_one, hg.out, List.all_append, HA.out]; simp [hx])
        clear hx hg
        go_wp2_with fail
        refine hcc.mono ?_
        rintro e V1 ⟨rfl, rfl⟩
        go_wp2
        go_roundw
        case rel => exact ⟨k + 1, by omega, by simp, HB, trivial⟩
        case measure => simp [intOf]; omega
      | false =>
        rw [hx] at hcc
        have HR := hid (HR0.out k x hg.out hx)
        clear hx hg
        go_wp2_with fail
        refine hcc.mono ?_
        rintro e V1 ⟨rfl, rfl⟩
        go_wp2
        go_ret
        exact ⟨ret_bool HR.out.symm, rfl⟩
    · obtain rfl : k = n := by omega
      have HR := hid (HR1.out HA.out)
      go_wp2
      go_ret
      exact ⟨ret_bool HR.out.symm, rfl⟩
end Go.Proofs.Yteianfbdhakhpaa
/-! Copy. -/
namespace Go.Proofs.Yteianfbdhakhpaa
set_option linter.unusedSimpArgs false
set_option linter.unusedVariables false
open Go Go.RowKit

/-- What Copy hands back: an equal train, whose times are the call's own. -/
def CpP (X : Pu) (w : World) (e : Ending) (w' : World) : Prop :=
  Below w.heap.size w w' ∧ ∃ (aT : Option Addr) (cT : Nat), e = .returned (.agg #[.int .i64 X.l, .int .i64 X.n, .int .i64 X.pi, .int .i64 X.sl, .int .i64 X.ga, .int .i64 X.pa, .int .i64 X.sp, .slice aT X.ts.length cT]) ∧ Iz w.heap.size w' aT X.ts
/-- The same, where the times lie in a row of the call's own. -/
def CpO (X : Pu) (w : World) (e : Ending) (w' : World) : Prop :=
  Below w.heap.size w w' ∧ ∃ (aT : Option Addr) (cT : Nat), e = .returned (.agg #[.int .i64 X.l, .int .i64 X.n, .int .i64 X.pi, .int .i64 X.sl, .int .i64 X.ga, .int .i64 X.pa, .int .i64 X.sp, .slice aT X.ts.length cT]) ∧ w'.ownsRow w.heap.size 3 1 (.slice aT X.ts.length cT) X.ts.length (X.ts.map (Value.int .i64))
theorem own_setne {w : World} {base size : Nat} {e : TypeId} {v : Value} {n : Nat} {xs : List Value} (h : w.ownsRow base e size v n xs) (p : Addr) (u : Value) (hp : p.block < base) : (w.setCell p u).ownsRow base e size v n xs :=
  own_heap h (fun g hg => Below.heap_setCell _ _ _ _ (by have := own_ge2 h g hg; omega))
theorem own_setR {w : World} {base : Nat} {e : TypeId} {size n c g j : Nat} {xs : List Value} {v : Value} (h : w.ownsRow base e size (.slice (some ⟨g, 0, none⟩) n c) n xs) : (w.setCell ⟨g, j, none⟩ v).ownsRow base e size (.slice (some ⟨g, 0, none⟩) n c) n (xs.set j v) := by
  refine ⟨by rw [List.length_set]; exact h.1, ?_⟩
  rcases h.2 with ⟨h', _⟩ | ⟨g', cap, cur, h1, h2, h3, h4, h5, h6, h7⟩
  · simp at h'
  · simp only [Value.slice.injEq, Option.some.injEq, Addr.mk.injEq, and_true, true_and] at h1
    obtain ⟨rfl, rfl⟩ := h1
    refine .inr ⟨g, c, cur.setIfInBounds j v, rfl, h2, ?_, h4, h5, by rw [Array.size_setIfInBounds]; exact h6, ?_⟩
    · have hb : Bx w g cur e := h3
      exact hb.set j v
    · rw [← h7, Array.toList_setIfInBounds, List.take_set]
theorem ints_oneC (xs : List Int) : ∀ v ∈ xs.map (Value.int .i64), v.oneCell' = true := fun v hv => by
  obtain ⟨x, _, rfl⟩ := List.mem_map.1 hv
  rfl
set_option maxRecDepth 100000 in
set_option maxHeartbeats 3000000 in
theorem CopyO_any (aT : Option Addr) (cT : Nat) (X : Pu) (w : World) (hX : Ints w aT X.ts) (h100 : X.ts.length ≤ 1000) : Calls Try.prog 14 #[.agg #[.int .i64 X.l, .int .i64 X.n, .int .i64 X.pi, .int .i64 X.sl, .int .i64 X.ga, .int .i64 X.pa, .int .i64 X.sp, .slice aT X.ts.length cT]] w (CpO X w) := by
  obtain ⟨i0, hi0, iz0, iz1, iz2⟩ := info_parts info3i
  unfold CpO
  have HRG := hid hX.2.1
  obtain ⟨n, hn⟩ : ∃ n, n = X.ts.length := ⟨_, rfl⟩
  rw [← hn] at h100 ⊢
  have HN := hid hn
  obtain ⟨l, nn, pi, sl, ga, pa, sp, ts⟩ := X
  simp only at *
  clear hn
  go_enter Try.func14, Try.ntmps14
  go_upto_region 2 with fail
  obtain ⟨W, hW, hb, hs, x0, x1, x3⟩ := boxes3 w #[.int .i64 l, .int .i64 nn, .int .i64 pi, .int .i64 sl, .int .i64 ga, .int .i64 pa, .int .i64 sp, .slice aT n cT] 24 #[.int .i64 0, .int .i64 0, .int .i64 0, .int .i64 0, .int .i64 0, .int .i64 0, .int .i64 0, .slice none 0 0] 24 #[.int .i64 l, .int .i64 nn, .int .i64 pi, .int .i64 sl, .int .i64 ga, .int .i64 pa, .int .i64 sp, .slice aT n cT] 24
  rw [hW]
  clear hW
  have hA := own_litB W 3 1 (B := w.heap.size + 3) (by omega)
  have hb1 := below_one (w := W) (.cells #[] 3)
  have HXa := hid (And.intro (x0.below hb1) (And.intro (x1.below hb1) (And.intro (x3.below hb1) (And.intro (hb.trans (hb1.mono hb.size)) (And.intro hA (show w.heap.size + 3 ≤ W.heap.size by omega))))))
  have hcl := ((hX.below hb (Nat.le_refl _)).below hb1 (Nat.le_refl _)).cls
  have c7 := (x0.below hb1).cell 7 rfl
  have HLN := hid (show (ts.map (Value.int .i64)).length = n * 1 by rw [List.length_map, HN.out, Nat.mul_one])
  clear x0 x1 x3 hb hA hb1 hs hX
  go_upto_region 3 with (at_builtin
                         obtain ⟨x0, x1, x3, hb, hA, hsz⟩ := HXa.out
                         refine wpList_appLit rfl (.tmp 5) (.tmp 7) 22 rfl (w.heap.size + 3) 3 i0 (.int .i64 0) 1 8 under22 hi0 iz0 iz1 iz2 rfl (by decide) W.heap.size rfl hA aT n cT (ts.map (Value.int .i64)) rfl HLN.out hcl (ints_oneC ts) (by unfold maxLen; omega) (by omega) (by simp; omega) ?_
                         intro vO W1 hownO hbO hplO
                         clear hA
                         obtain ⟨b, d, rfl⟩ := own_slice2 hownO
                         replace x1 := x1.below hbO
                         replace x3 := x3.below hbO
                         replace hb := hb.trans (hbO.mono hb.size)
                         have hsz1 : w.heap.size + 3 ≤ W1.heap.size := by have := hbO.size; simp at this; omega
                         have e7 := x3.cell 7 rfl; have f7 := x3.free 7)
  have y1 := x1.other (a := ⟨w.heap.size + 2, 7, none⟩) (by show w.heap.size + 1 ≠ w.heap.size + 2; omega) (.slice b n d)
  have y3 : Bx (W1.setCell ⟨w.heap.size + 2, 7, none⟩ (.slice b n d)) (w.heap.size + 2) #[.int .i64 l, .int .i64 nn, .int .i64 pi, .int .i64 sl, .int .i64 ga, .int .i64 pa, .int .i64 sp, .slice b n d] 24 := by simpa using x3.set 7 (.slice b n d)
  have yb := hb.setCell (p := ⟨w.heap.size + 2, 7, none⟩) (by show w.heap.size ≤ w.heap.size + 2; omega) (.slice b n d)
  have yo := own_setne hownO ⟨w.heap.size + 2, 7, none⟩ (.slice b n d) (by show w.heap.size + 2 < w.heap.size + 3; omega)
  have HY := hid (And.intro y1 (And.intro y3 (And.intro yb yo)))
  clear x0 x1 x3 hownO y1 y3 yb yo e7 f7 hcl hb hbO HXa hplO hsz hsz1 c7
  obtain ⟨y1, y3, yb, yo⟩ := HY.out
  clear HY
  generalize World.setCell _ _ _ = V0 at *
  have z1 := put8 y1 (.int .i64 l) (.int .i64 nn) (.int .i64 pi) (.int .i64 sl) (.int .i64 ga) (.int .i64 pa) (.int .i64 sp) (.slice b n d)
  have zb := below_put8 yb (b := w.heap.size + 1) (by omega) (.int .i64 l) (.int .i64 nn) (.int .i64 pi) (.int .i64 sl) (.int .i64 ga) (.int .i64 pa) (.int .i64 sp) (.slice b n d)
  have zo := own_setne (own_setne (own_setne (own_setne (own_setne (own_setne (own_setne (own_setne yo ⟨w.heap.size + 1, 0, none⟩ (.int .i64 l) (by show w.heap.size + 1 < w.heap.size + 3; omega)) ⟨w.heap.size + 1, 1, none⟩ (.int .i64 nn) (by show w.heap.size + 1 < w.heap.size + 3; omega)) ⟨w.heap.size + 1, 2, none⟩ (.int .i64 pi) (by show w.heap.size + 1 < w.heap.size + 3; omega)) ⟨w.heap.size + 1, 3, none⟩ (.int .i64 sl) (by show w.heap.size + 1 < w.heap.size + 3; omega)) ⟨w.heap.size + 1, 4, none⟩ (.int .i64 ga) (by show w.heap.size + 1 < w.heap.size + 3; omega)) ⟨w.heap.size + 1, 5, none⟩ (.int .i64 pa) (by show w.heap.size + 1 < w.heap.size + 3; omega)) ⟨w.heap.size + 1, 6, none⟩ (.int .i64 sp) (by show w.heap.size + 1 < w.heap.size + 3; omega)) ⟨w.heap.size + 1, 7, none⟩ (.slice b n d) (by show w.heap.size + 1 < w.heap.size + 3; omega)
  have HZ := hid (And.intro z1 (And.intro zb zo))
  have c0 := y3.cell 0 rfl; have c1 := y3.cell 1 rfl; have c2 := y3.cell 2 rfl; have c3 := y3.cell 3 rfl; have c4 := y3.cell 4 rfl; have c5 := y3.cell 5 rfl; have c6 := y3.cell 6 rfl; have c7 := y3.cell 7 rfl
  have d0 := y1.cell 0 rfl; have d1 := y1.cell 1 rfl; have d2 := y1.cell 2 rfl; have d3 := y1.cell 3 rfl; have d4 := y1.cell 4 rfl; have d5 := y1.cell 5 rfl; have d6 := y1.cell 6 rfl; have d7 := y1.cell 7 rfl
  have f0 := y1.free 0; have f1 := y1.free 1; have f2 := y1.free 2; have f3 := y1.free 3; have f4 := y1.free 4; have f5 := y1.free 5; have f6 := y1.free 6; have f7 := y1.free 7
  clear z1 zb zo y1 y3 yb yo
  go_wp2_with fail
  obtain ⟨z1, zb, zo⟩ := HZ.out
  clear HZ c0 c1 c2 c3 c4 c5 c6 c7 d0 d1 d2 d3 d4 d5 d6 d7 f0 f1 f2 f3 f4 f5 f6 f7
  generalize World.setCell _ _ _ = V4 at *
  have e0 := z1.cell 0 rfl; have e1 := z1.cell 1 rfl; have e2 := z1.cell 2 rfl; have e3 := z1.cell 3 rfl; have e4 := z1.cell 4 rfl; have e5 := z1.cell 5 rfl; have e6 := z1.cell 6 rfl; have e7 := z1.cell 7 rfl
  go_wp2
  refine bodyPost_ret (v := .agg #[.int .i64 l, .int .i64 nn, .int .i64 pi, .int .i64 sl, .int .i64 ga, .int .i64 pa, .int .i64 sp, .slice b n d]) ?_ rfl ⟨zb, b, d, rfl, own_base zo (by omega)⟩
  simp [results, Try.results14, go_sem, e0, e1, e2, e3, e4, e5, e6, e7]
theorem Copy_any (aT : Option Addr) (cT : Nat) (X : Pu) (w : World) (hX : Ints w aT X.ts) (h100 : X.ts.length ≤ 1000) : Calls Try.prog 14 #[.agg #[.int .i64 X.l, .int .i64 X.n, .int .i64 X.pi, .int .i64 X.sl, .int .i64 X.ga, .int .i64 X.pa, .int .i64 X.sp, .slice aT X.ts.length cT]] w (CpP X w) :=
  (CopyO_any aT cT X w hX h100).mono fun e w' hh => by
    obtain ⟨hb, a, c, rfl, ho⟩ := hh
    exact ⟨hb, a, c, rfl, (own_nw ho rfl (by omega) hX.2.1).1⟩
end Go.Proofs.Yteianfbdhakhpaa
