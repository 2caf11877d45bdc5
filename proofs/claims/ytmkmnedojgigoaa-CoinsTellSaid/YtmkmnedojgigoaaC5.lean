import Derived.Test.YtmkmnedojgigoaaC4
import Derived.Maps.OwnOps
namespace Go.Proofs.Ytmkmnedojgigoaa
open Go.RowKit

theorem spEq {s s' : Sp} (h : (Value.agg #[.int .i64 s.b0, .int .i64 s.b1, .int .i64 s.b2, .int .i64 s.b3, .int .i64 s.p, .int .i64 s.c]) = .agg #[.int .i64 s'.b0, .int .i64 s'.b1, .int .i64 s'.b2, .int .i64 s'.b3, .int .i64 s'.p, .int .i64 s'.c]) : s = s' := by
  cases s; cases s'
  simp at h
  simp; omega

theorem MemoB.put {bt : Nat → Nat → Bool} {R : Nat} {N C : List Int} {D : DataW Unit} (h : MemoB bt R N C D) (hD : Go.Maps.IsMap D) {s : Sp} {l : Lit} (hl : keyOf Try.prog 121 (.agg #[.int .i64 s.b0, .int .i64 s.b1, .int .i64 s.b2, .int .i64 s.b3, .int .i64 s.p, .int .i64 s.c]) = some l) :
    MemoB bt R N C (D.put l (.lit (.int .i64 (bst bt R N C s)))) := by
  intro s' l' ho' hl' hh
  by_cases e : l' = l
  · subst e
    have := spEq (law121.inj hl' hl)
    subst this
    exact Go.Maps.atKey_put_same hD (law121.key hl) _ _
  · rw [Go.Maps.atKey_put_other e]
    rw [Go.Maps.has_put_other e] at hh
    exact h s' l' ho' hl' hh


set_option maxRecDepth 100000 in
set_option maxHeartbeats 1000000 in
theorem best_75_step (n : Nat) (hch : ChooseSaid 75 btm n) : BestSaid 75 btm (n + 1) := by
  intro R an ac ap cn cc cp N C P mb s w D k hmu ho hk hoff hown hmem hkb
  obtain ⟨W, hW, hbw, hs, x0, x1⟩ := boxes2 w #[.int .i64 (R : Int), .slice an N.length cn, .slice ac C.length cc, .slice ap P.length cp, .func (.func 75) #[] #[], .map (some mb)] 90 #[.int .i64 s.b0, .int .i64 s.b1, .int .i64 s.b2, .int .i64 s.b3, .int .i64 s.p, .int .i64 s.c] 121
  have hlm := hown.lt
  replace hown := hown.gr hbw
  replace hk := hk.below hbw (Nat.le_refl _)
  have hg := Below.gr hbw mb
  have n0 : w.heap.size ≠ mb := by omega
  have n1 : w.heap.size + 1 ≠ mb := by omega
  have hn := ho.n
  have hcc := ho.c
  have hpp := ho.p
  have hr2 := hk.v.r2
  obtain ⟨l, hl⟩ := key121 s.b0 s.b1 s.b2 s.b3 s.p s.c (by unfold Sp.cnt at *; omega) (by unfold Sp.cnt at *; omega) (by unfold Sp.cnt at *; omega) (by unfold Sp.cnt at *; omega) (by omega) (by omega)
  have Hl := hid hl; clear hl
  clear hs hbw
  have c0 := x0.cell 0 rfl; have c1 := x0.cell 1 rfl; have c2 := x0.cell 2 rfl; have c3 := x0.cell 3 rfl; have c4 := x0.cell 4 rfl; have c5 := x0.cell 5 rfl; have d0 := x1.cell 0 rfl; have d1 := x1.cell 1 rfl; have d2 := x1.cell 2 rfl; have d3 := x1.cell 3 rfl; have d4 := x1.cell 4 rfl; have d5 := x1.cell 5 rfl
  cases hh : Go.Maps.has D l
  · go_enter Try.func99, Try.ntmps99
    go_wp2_with (first | (at_lookup; go_must (refine wpList_lookup_own_ok_int _ rfl _ _ 88 rfl 121 3 .i64 law121 Try.underlying88 Try.underlying3 (zero3 _) mb k D rfl hown _ l rfl Hl.out ?_); intro c hat hwc))
    have hbd : 1 ≤ Bd s := by unfold Bd; omega
    have hble := bst_le (bt := btm) hk.v _ _ (Nat.lt_succ_self _) ho
    refine (hch _ _ _ _ _ _ _ _ _ _ _ s _ D k (by omega) ho hk hoff hown hmem hkb).mono ?_
    rintro e W1 ⟨rfl, D1, k1, hg1, hown1, hmem1, hk1⟩
    replace x0 := x0.gr hg1 n0
    replace x1 := x1.gr hg1 n1
    replace hg := hg.trans hg1
    clear c0 c1 c2 c3 c4 c5 d0 d1 d2 d3 d4 d5 hown hmem hW hat hwc hk
    have c0 := x0.cell 0 rfl; have c1 := x0.cell 1 rfl; have c2 := x0.cell 2 rfl; have c3 := x0.cell 3 rfl; have c4 := x0.cell 4 rfl; have c5 := x0.cell 5 rfl; have d0 := x1.cell 0 rfl; have d1 := x1.cell 1 rfl; have d2 := x1.cell 2 rfl; have d3 := x1.cell 3 rfl; have d4 := x1.cell 4 rfl; have d5 := x1.cell 5 rfl
    have hput := hid (hmem1.put (World.ownsMap.isMap hown1) Hl.out)
    clear hmem1
    go_wp2_with (first | (at_mapUpdate; go_must (refine wpList_mapUpdate_own _ rfl _ _ _ 88 rfl 121 3 law121 Try.underlying88 (plainElem Try.prog 3) mb k1 D1 rfl hown1 (by unfold maxLen; omega) _ _ l rfl rfl Hl.out _ [] (plainElem_int Try.underlying3 (wf64 (by omega))) ?_); intro w1 hownU hgU))
    go_ret
    exact ⟨rfl, _, k1 + 1, hg.trans hgU, hownU, hput.out, by omega⟩
  · go_enter Try.func99, Try.ntmps99
    go_wp2_with (first | (at_lookup; go_must (refine wpList_lookup_own_ok_int _ rfl _ _ 88 rfl 121 3 .i64 law121 Try.underlying88 Try.underlying3 (zero3 _) mb k D rfl hown _ l rfl Hl.out ?_); intro c hat hwc))
    have e := hmem s l ho Hl.out hh
    rw [hat] at e
    simp at e
    subst e
    go_ret
    exact ⟨rfl, D, k, hg, hown, hmem, by omega⟩

theorem best_75_all : ∀ n : Nat, BestSaid 75 btm n
  | 0 => by
    intro R an ac ap cn cc cp N C P mb s w D k hmu
    omega
  | n + 1 => best_75_step n (choose_75 n (best_75_all n))

set_option maxRecDepth 100000 in
set_option maxHeartbeats 1000000 in
theorem best_78_step (n : Nat) (hch : ChooseSaid 78 btf n) : BestSaid 78 btf (n + 1) := by
  intro R an ac ap cn cc cp N C P mb s w D k hmu ho hk hoff hown hmem hkb
  obtain ⟨W, hW, hbw, hs, x0, x1⟩ := boxes2 w #[.int .i64 (R : Int), .slice an N.length cn, .slice ac C.length cc, .slice ap P.length cp, .func (.func 78) #[] #[], .map (some mb)] 90 #[.int .i64 s.b0, .int .i64 s.b1, .int .i64 s.b2, .int .i64 s.b3, .int .i64 s.p, .int .i64 s.c] 121
  have hlm := hown.lt
  replace hown := hown.gr hbw
  replace hk := hk.below hbw (Nat.le_refl _)
  have hg := Below.gr hbw mb
  have n0 : w.heap.size ≠ mb := by omega
  have n1 : w.heap.size + 1 ≠ mb := by omega
  have hn := ho.n
  have hcc := ho.c
  have hpp := ho.p
  have hr2 := hk.v.r2
  obtain ⟨l, hl⟩ := key121 s.b0 s.b1 s.b2 s.b3 s.p s.c (by unfold Sp.cnt at *; omega) (by unfold Sp.cnt at *; omega) (by unfold Sp.cnt at *; omega) (by unfold Sp.cnt at *; omega) (by omega) (by omega)
  have Hl := hid hl; clear hl
  clear hs hbw
  have c0 := x0.cell 0 rfl; have c1 := x0.cell 1 rfl; have c2 := x0.cell 2 rfl; have c3 := x0.cell 3 rfl; have c4 := x0.cell 4 rfl; have c5 := x0.cell 5 rfl; have d0 := x1.cell 0 rfl; have d1 := x1.cell 1 rfl; have d2 := x1.cell 2 rfl; have d3 := x1.cell 3 rfl; have d4 := x1.cell 4 rfl; have d5 := x1.cell 5 rfl
  cases hh : Go.Maps.has D l
  · go_enter Try.func99, Try.ntmps99
    go_wp2_with (first | (at_lookup; go_must (refine wpList_lookup_own_ok_int _ rfl _ _ 88 rfl 121 3 .i64 law121 Try.underlying88 Try.underlying3 (zero3 _) mb k D rfl hown _ l rfl Hl.out ?_); intro c hat hwc))
    have hbd : 1 ≤ Bd s := by unfold Bd; omega
    have hble := bst_le (bt := btf) hk.v _ _ (Nat.lt_succ_self _) ho
    refine (hch _ _ _ _ _ _ _ _ _ _ _ s _ D k (by omega) ho hk hoff hown hmem hkb).mono ?_
    rintro e W1 ⟨rfl, D1, k1, hg1, hown1, hmem1, hk1⟩
    replace x0 := x0.gr hg1 n0
    replace x1 := x1.gr hg1 n1
    replace hg := hg.trans hg1
    clear c0 c1 c2 c3 c4 c5 d0 d1 d2 d3 d4 d5 hown hmem hW hat hwc hk
    have c0 := x0.cell 0 rfl; have c1 := x0.cell 1 rfl; have c2 := x0.cell 2 rfl; have c3 := x0.cell 3 rfl; have c4 := x0.cell 4 rfl; have c5 := x0.cell 5 rfl; have d0 := x1.cell 0 rfl; have d1 := x1.cell 1 rfl; have d2 := x1.cell 2 rfl; have d3 := x1.cell 3 rfl; have d4 := x1.cell 4 rfl; have d5 := x1.cell 5 rfl
    have hput := hid (hmem1.put (World.ownsMap.isMap hown1) Hl.out)
    clear hmem1
    go_wp2_with (first | (at_mapUpdate; go_must (refine wpList_mapUpdate_own _ rfl _ _ _ 88 rfl 121 3 law121 Try.underlying88 (plainElem Try.prog 3) mb k1 D1 rfl hown1 (by unfold maxLen; omega) _ _ l rfl rfl Hl.out _ [] (plainElem_int Try.underlying3 (wf64 (by omega))) ?_); intro w1 hownU hgU))
    go_ret
    exact ⟨rfl, _, k1 + 1, hg.trans hgU, hownU, hput.out, by omega⟩
  · go_enter Try.func99, Try.ntmps99
    go_wp2_with (first | (at_lookup; go_must (refine wpList_lookup_own_ok_int _ rfl _ _ 88 rfl 121 3 .i64 law121 Try.underlying88 Try.underlying3 (zero3 _) mb k D rfl hown _ l rfl Hl.out ?_); intro c hat hwc))
    have e := hmem s l ho Hl.out hh
    rw [hat] at e
    simp at e
    subst e
    go_ret
    exact ⟨rfl, D, k, hg, hown, hmem, by omega⟩

theorem best_78_all : ∀ n : Nat, BestSaid 78 btf n
  | 0 => by
    intro R an ac ap cn cc cp N C P mb s w D k hmu
    omega
  | n + 1 => best_78_step n (choose_78 n (best_78_all n))

end Go.Proofs.Ytmkmnedojgigoaa
