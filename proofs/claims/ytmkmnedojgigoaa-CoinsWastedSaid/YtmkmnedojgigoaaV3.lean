import Derived.Test.YtmkmnedojgigoaaV2
import Derived.Test.YtmkmnedojgigoaaE1
namespace Go.Proofs.Ytmkmnedojgigoaa
open Go.RowKit

def spB (q : Bg) : Sp := ⟨q.a, q.b, q.c, q.d, 0, 0⟩
/-- One part is looked at. -/
def wst1 (A M : Nat) (f g : Bg → Nat) (l : Nat) (q : Bg) : Nat := if l < A - f q ∧ g q = M then A - f q else l
theorem mem_prt (b q : Bg) : q ∈ prt b 4 ↔ q.a ≤ b.a ∧ q.b ≤ b.b ∧ q.c ≤ b.c ∧ q.d ≤ b.d := by
  obtain ⟨a, b', c, d⟩ := q
  simp only [prt, ext, exl, List.mem_flatMap, List.mem_map, List.mem_range, List.mem_singleton, Bg.get, Bg.set]
  constructor
  · rintro ⟨_, ⟨_, ⟨_, ⟨_, rfl, v0, h0, rfl⟩, v1, h1, rfl⟩, v2, h2, rfl⟩, v3, h3, h⟩
    simp only [Bg.mk.injEq] at h
    obtain ⟨rfl, rfl, rfl, rfl⟩ := h
    omega
  · rintro ⟨h0, h1, h2, h3⟩
    exact ⟨_, ⟨_, ⟨_, ⟨_, rfl, a, by omega, rfl⟩, b', by omega, rfl⟩, c, by omega, rfl⟩, d, by omega, rfl⟩
theorem get_le {q b : Bg} (h0 : q.a ≤ b.a) (h1 : q.b ≤ b.b) (h2 : q.c ≤ b.c) (h3 : q.d ≤ b.d) : ∀ k, q.get k ≤ b.get k
  | 0 => h0
  | 1 => h1
  | 2 => h2
  | _ + 3 => h3
theorem get_12 {b : Bg} (h : b.a + b.b + b.c + b.d ≤ 12) : ∀ k, b.get k ≤ 12
  | 0 => by show b.a ≤ 12; omega
  | 1 => by show b.b ≤ 12; omega
  | 2 => by show b.c ≤ 12; omega
  | _ + 3 => by show b.d ≤ 12; omega
theorem bws_mono {C : List Int} {q b : Bg} (h : ∀ k, q.get k ≤ b.get k) : ∀ k, bws C q k ≤ bws C b k
  | 0 => Nat.le_refl _
  | k + 1 => by
    have ih := bws_mono (C := C) h k
    have := Nat.mul_le_mul_right (cw C k) (h k)
    unfold bws; omega

theorem wst_le (A M : Nat) (f g : Bg → Nat) : ∀ (L : List Bg) (l : Nat), l ≤ A → L.foldl (wst1 A M f g) l ≤ A
  | [], _, h => h
  | q :: L, l, h => by
    rw [List.foldl_cons]
    refine wst_le A M f g L _ ?_
    unfold wst1
    split <;> omega

def WPost (mb : Nat) (v : Nat) (w : World) (e : Ending) (w' : World) : Prop := e = .returned (.int .i64 (v : Nat)) ∧ w.grownBy w' (some mb)
theorem gr_trans {a b c : World} {r : Option Nat} (h : a.grownBy b r) (k : b.grownBy c r) : a.grownBy c r := h.trans k

set_option maxRecDepth 100000 in
set_option maxHeartbeats 3000000 in
theorem wasted_any (R : Nat) (an ac ap : Option Addr) (cn cc cp : Nat) (N C P : List Int) (mb : Nat) (q0 : Bg) (w : World) (D : DataW Unit) (k : Nat) (hk : Wk w R an ac ap N C P) (hoff : OffW mb an ac ap N C P) (hown : OwnM w mb k D) (hmem : MemoB btm R N C D) (hkb : k ≤ 100000000000000000) (hsum : q0.a + q0.b + q0.c + q0.d ≤ 12) :
    Calls Try.prog 79 #[.agg #[.int .i64 (R : Int), .slice an N.length cn, .slice ac C.length cc, .slice ap P.length cp, .func (.func 75) #[] #[], .map (some mb)], .agg #[.int .i64 q0.a, .int .i64 q0.b, .int .i64 q0.c, .int .i64 q0.d]] w
      (WPost mb ((prt q0 4).foldl (wst1 (bws C q0 C.length) (bst btm R N C (spB q0)) (fun q => bws C q C.length) (fun q => bst btm R N C (spB q))) 0) w) := by
  have hq0 := get_12 hsum
  have hmlt := hown.lt
  have hv := hk.v
  obtain ⟨W, hW, hbw, hs, x0, x1⟩ := boxes2 w #[.int .i64 (R : Int), .slice an N.length cn, .slice ac C.length cc, .slice ap P.length cp, .func (.func 75) #[] #[], .map (some mb)] 90 #[.int .i64 q0.a, .int .i64 q0.b, .int .i64 q0.c, .int .i64 q0.d] 92
  replace hown := hown.gr hbw
  replace hk := hk.below hbw (Nat.le_refl _)
  have hg := Below.gr hbw mb
  clear hs hbw
  obtain ⟨A, hA⟩ : ∃ x, x = bws C q0 C.length := ⟨_, rfl⟩
  obtain ⟨M, hM⟩ : ∃ x, x = bst btm R N C (spB q0) := ⟨_, rfl⟩
  obtain ⟨f, hf⟩ : ∃ x : Bg → Nat, x = fun q => bws C q C.length := ⟨_, rfl⟩
  obtain ⟨g, hgg⟩ : ∃ x : Bg → Nat, x = fun q => bst btm R N C (spB q) := ⟨_, rfl⟩
  rw [← hA, ← hM, ← hf, ← hgg]
  have hAb : A ≤ 4800 := by have := bws_le hv hq0 C.length (Nat.le_refl _); have := hv.c4; omega
  have HA := hid hA; have HM := hid hM; have Hf := hid hf; have Hgg := hid hgg
  clear hA hM hf hgg
  go_enter Try.func79, Try.ntmps79
  go_wp2_with fail
  have hbd : Below W.heap.size W W.drew := (Below.refl _ _).drew
  replace x0 := x0.below hbd; replace x1 := x1.below hbd; replace hown := hown.gr hbd; replace hk := hk.below hbd (Nat.le_refl _); replace hg := gr_trans hg (Below.gr hbd mb)
  clear hbd
  refine wp_region_head 8 (fun w' => Bx w' w.heap.size #[.int .i64 (R : Int), .slice an N.length cn, .slice ac C.length cc, .slice ap P.length cp, .func (.func 75) #[] #[], .map (some mb)] 90 ∧ Bx w' (w.heap.size + 1) #[.int .i64 q0.a, .int .i64 q0.b, .int .i64 q0.c, .int .i64 q0.d] 92) (by kernel_rfl) rfl ?_
  generalize World.drew _ = Y0 at *
  clear hW
  refine HeadAt.take (i := 0) (.agg #[.int .i64 (R : Int), .slice an N.length cn, .slice ac C.length cc, .slice ap P.length cp, .func (.func 75) #[] #[], .map (some mb)]) rfl (by kernel_rfl) (.inl ⟨rfl, fun w' z => ?_⟩) ⟨x0, x1⟩ ?_
  · (have z0 := z.1.cell 0 rfl; have z1 := z.1.cell 1 rfl; have z2 := z.1.cell 2 rfl; have z3 := z.1.cell 3 rfl; have z4 := z.1.cell 4 rfl; have z5 := z.1.cell 5 rfl; simp [go_sem, z0, z1, z2, z3, z4, z5])
  refine HeadAt.take (i := 1) (.agg #[.int .i64 q0.a, .int .i64 q0.b, .int .i64 q0.c, .int .i64 q0.d]) rfl (by kernel_rfl) (.inl ⟨rfl, fun w' z => ?_⟩) ⟨x0, x1⟩ ?_
  · (have z0 := z.2.cell 0 rfl; have z1 := z.2.cell 1 rfl; have z2 := z.2.cell 2 rfl; have z3 := z.2.cell 3 rfl; simp [go_sem, z0, z1, z2, z3])
  refine HeadAt.take (i := 3) (.pointer (some ⟨w.heap.size, 0, none⟩)) rfl (by kernel_rfl) (.inl ⟨rfl, fun _ _ => by simp [go_sem]⟩) ⟨x0, x1⟩ ?_
  refine HeadAt.take (i := 4) (.agg #[.int .i64 (R : Int), .slice an N.length cn, .slice ac C.length cc, .slice ap P.length cp]) rfl (by kernel_rfl) (.inl ⟨rfl, fun w' z => ?_⟩) ⟨x0, x1⟩ ?_
  · (have z0 := z.1.cell 0 rfl; have z1 := z.1.cell 1 rfl; have z2 := z.1.cell 2 rfl; have z3 := z.1.cell 3 rfl; simp [go_sem, z0, z1, z2, z3])
  refine HeadAt.take (i := 5) (.agg #[.int .i64 q0.a, .int .i64 q0.b, .int .i64 q0.c, .int .i64 q0.d]) rfl (by kernel_rfl) (.inl ⟨rfl, fun w' z => ?_⟩) ⟨x0, x1⟩ ?_
  · (have z0 := z.2.cell 0 rfl; have z1 := z.2.cell 1 rfl; have z2 := z.2.cell 2 rfl; have z3 := z.2.cell 3 rfl; simp [go_sem, z0, z1, z2, z3])
  refine HeadAt.one (i := 2) rfl (by kernel_rfl) ?_
  generalize hK : Upto _ _ = K0
  (try simp only [Act.put, List.getElem_toArray, List.getElem_cons_succ, List.getElem_cons_zero, List.setIfInBounds_toArray, List.set_cons_succ, List.set_cons_zero])
  go_wp2_with fail
  refine (buys_75 _ _ _ _ _ _ _ _ _ _ mb q0.a q0.b q0.c q0.d _ D k hk hoff hown hmem (by omega) hsum).mono ?_
  rintro e Y1 ⟨rfl, D1, k1, hg1, hown1, hmem1, hk1⟩
  replace x0 := x0.gr hg1 (by omega); replace x1 := x1.gr hg1 (by omega); replace hk := hk.gr hg1 hoff; replace hg := gr_trans hg hg1
  clear hown hmem hg1
  rw [show bst btm R N C ⟨q0.a, q0.b, q0.c, q0.d, 0, 0⟩ = M from HM.out.symm]
  go_wp2_with fail
  subst hK
  refine ⟨⟨x0, x1⟩, ?_⟩
  refine HeadAt.one (i := 6) rfl (by kernel_rfl) ?_
  generalize hK : Upto _ _ = K0
  (try simp only [List.getElem_toArray, List.getElem_cons_succ, List.getElem_cons_zero])
  go_wp2_with fail
  refine (cents_any _ _ _ _ _ _ _ _ _ _ q0 _ hk hq0).mono ?_
  rintro e Y2 ⟨rfl, hb1⟩
  replace x0 := x0.below hb1; replace x1 := x1.below hb1; replace hk := hk.below hb1 (Nat.le_refl _); replace hown1 := hown1.gr hb1; replace hg := gr_trans hg (Below.gr hb1 mb)
  clear hb1
  rw [← HA.out]
  go_wp2_with fail
  subst hK
  refine ⟨⟨x0, x1⟩, ?_⟩
  refine HeadAt.take (i := 7) (.int .i64 (M : Nat)) rfl (by kernel_rfl) (.inl ⟨rfl, fun _ _ => by simp [go_sem]⟩) ⟨x0, x1⟩ ?_
  refine HeadAt.done (by kernel_rfl) ?_
  (try simp only [Act.put, List.drop_succ_cons, List.drop_zero, List.getElem_toArray, List.getElem_cons_succ, List.getElem_cons_zero])
  have c0 := x1.cell 0 rfl; have c1 := x1.cell 1 rfl; have c2 := x1.cell 2 rfl; have c3 := x1.cell 3 rfl
  go_wp2_with fail
  refine NoPanic.normal ?_
  go_wp2_with fail
  refine (parts_any q0 _ hq0).mono ?_
  rintro e Y3 ⟨hb1, v, rfl, hrow⟩
  have hY2 := x1.lt
  replace x0 := x0.below hb1; replace x1 := x1.below hb1; replace hk := hk.below hb1 (Nat.le_refl _); replace hown1 := hown1.gr hb1; replace hg := gr_trans hg (Below.gr hb1 mb)
  clear hb1 c0 c1 c2 c3
  obtain ⟨L, hL⟩ : ∃ x, x = prt q0 4 := ⟨_, rfl⟩
  have hLm : ∀ q ∈ L, (∀ j, q.get j ≤ q0.get j) ∧ q.a + q.b + q.c + q.d ≤ 12 := fun q hq => by
    rw [hL] at hq
    obtain ⟨h1, h2, h3, h4⟩ := (mem_prt q0 q).1 hq
    exact ⟨get_le h1 h2 h3 h4, by omega⟩
  have hLl : 1 ≤ L.length ∧ L.length ≤ 28561 := by rw [hL]; exact prt_len hq0 4 (Nat.le_refl _)
  rw [← hL] at hrow
  have HL := hid hL
  clear hL
  obtain ⟨m, hm⟩ : ∃ x, x = L.length := ⟨_, rfl⟩
  rw [← hm] at hrow hLl
  have Hm := hid hm; clear hm
  have HLm := hid hLm; clear hLm
  obtain ⟨gg, cap, rfl⟩ := Go.Joins.ownsRow_form hrow (by omega)
  have hgb : Y2.heap.size ≤ gg := (hrow.lt gg rfl).1
  go_wp2
  go_loopw [7, 21] (fun v7 v21 wr => ∃ i, i ≤ m ∧ v21 = .int .i64 (i : Int) ∧ v7 = .int .i64 ((L.take i).foldl (wst1 A M f g) 0 : Nat) ∧ Y3.grownBy wr (some mb) ∧ ∃ (D' : DataW Unit) (k' : Nat), OwnM wr mb k' D' ∧ MemoB btm R N C D' ∧ k' ≤ k + (i + 1) * 2000000000000) (fun _ v21 _ => m - (intOf v21).toNat)
  case atStart => exact ⟨0, Nat.zero_le _, rfl, rfl, World.grownBy.refl _ _, D1, k1, hown1, hmem1, by omega⟩
  case round =>
    clear hown1 hmem1
    obtain ⟨i, hi, rfl, rfl, hgr, D', k', hown', hmem', hk'⟩ := hrel
    have hrow' := hrow.kept hgr (.inr (fun h => by simp [Value.ownBlock] at h; omega))
    have y0 := x0.gr hgr (by omega)
    have hkr := hk.gr hgr hoff
    obtain ⟨kp, hkp⟩ : ∃ x, x = (L.take i).foldl (wst1 A M f g) 0 := ⟨_, rfl⟩
    rw [← hkp]
    have Hkp := hid hkp; clear hkp
    obtain ⟨wo, rfl⟩ : ∃ wo : World, wo = wr := ⟨_, rfl⟩
    by_cases hil : i < m
    · obtain ⟨q, hq1⟩ : ∃ q, L[i]? = some q := ⟨L[i]'(by rw [← Hm.out]; exact hil), List.getElem?_eq_getElem _⟩
      have hqm := HLm.out q (List.mem_of_getElem? hq1)
      have hq12 := get_12 hqm.2
      have hfA : f q ≤ A := by rw [Hf.out, HA.out]; exact bws_mono hqm.1 _
      have hc := bgc_at L i q hq1
      have z0 := hrow'.cellAt (i * 4) (by omega)
      have z1 := hrow'.cellAt (i * 4 + 1) (by omega)
      have z2 := hrow'.cellAt (i * 4 + 2) (by omega)
      have z3 := hrow'.cellAt (i * 4 + 3) (by omega)
      rw [hc.1] at z0; rw [hc.2.1] at z1; rw [hc.2.2.1] at z2; rw [hc.2.2.2] at z3
      have Hst := hid (show (L.take (i + 1)).foldl (wst1 A M f g) 0 = wst1 A M f g kp q by rw [bagsLt hq1, List.foldl_append, ← Hkp.out]; rfl)
      clear hc hq1
      have hilI : (i : Int) < (m : Int) := by omega
      go_upto_region 6 with fail
      obtain ⟨W8, hW8, hb8, hs8, x8⟩ := boxes1 wo #[.int .i64 q.a, .int .i64 q.b, .int .i64 q.c, .int .i64 q.d] 92
      rw [hW8]
      replace hgr := gr_trans hgr (Below.gr hb8 mb)
      replace y0 := y0.below hb8
      replace hkr := hkr.below hb8 (Nat.le_refl _)
      replace hown' := hown'.gr hb8
      clear hW8 z0 z1 z2 z3 hb8 hs8
      have hmo := y0.lt
      have hne8 : wo.heap.size ≠ mb := by have := hrow'.lt gg rfl; omega
      clear hrow'
      have e0 := x8.cell 0 rfl; have e1 := x8.cell 1 rfl; have e2 := x8.cell 2 rfl; have e3 := x8.cell 3 rfl
      have c0 := y0.cell 0 rfl; have c1 := y0.cell 1 rfl; have c2 := y0.cell 2 rfl; have c3 := y0.cell 3 rfl; have c4 := y0.cell 4 rfl; have c5 := y0.cell 5 rfl
      go_wp2_with fail
      refine (cents_any _ _ _ _ _ _ _ _ _ _ q _ hkr hq12).mono ?_
      rintro e W9 ⟨rfl, hb9⟩
      replace hgr := gr_trans hgr (Below.gr hb9 mb)
      replace y0 := y0.below hb9
      replace x8 := x8.below hb9
      replace hkr := hkr.below hb9 (Nat.le_refl _)
      replace hown' := hown'.gr hb9
      clear hb9 e0 e1 e2 e3 c0 c1 c2 c3 c4 c5
      rw [show bws C q C.length = f q by rw [Hf.out]]
      have Hgq := hid (show g q = bst btm R N C ⟨q.a, q.b, q.c, q.d, 0, 0⟩ by rw [Hgg.out]; rfl)
      obtain ⟨fq, hfq⟩ : ∃ x, x = f q := ⟨_, rfl⟩
      rw [← hfq] at hfA ⊢
      have Hfq := hid hfq; clear hfq
      have hkpA : kp ≤ 4800 := by have := wst_le A M f g (L.take i) 0 (Nat.zero_le _); rw [← Hkp.out] at this; omega
      by_cases hgt : (kp : Int) < (A : Int) - (fq : Int)
      · have e0 := x8.cell 0 rfl; have e1 := x8.cell 1 rfl; have e2 := x8.cell 2 rfl; have e3 := x8.cell 3 rfl
        have c0 := y0.cell 0 rfl; have c1 := y0.cell 1 rfl; have c2 := y0.cell 2 rfl; have c3 := y0.cell 3 rfl; have c4 := y0.cell 4 rfl; have c5 := y0.cell 5 rfl
        go_wp2_with fail
        refine (buys_75 _ _ _ _ _ _ _ _ _ _ mb q.a q.b q.c q.d _ D' k' hkr hoff hown' hmem' (by omega) hqm.2).mono ?_
        rintro e W10 ⟨rfl, D2, k2, hg1, hown2, hmem2, hk2⟩
        replace hgr := gr_trans hgr hg1
        clear hown' hmem' hg1 e0 e1 e2 e3 c0 c1 c2 c3 c4 c5 y0 x8 hkr
        rw [← Hgq.out]
        obtain ⟨gq, hgq⟩ : ∃ x, x = g q := ⟨_, rfl⟩
        rw [← hgq]
        have Hgq2 := hid hgq; clear hgq
        by_cases hgm : gq = M
        · have hB : ((gq : Int) == (M : Int)) = true := by simp [hgm]
          have Hgm := hid hgm; clear hgm
          go_wp2
          go_roundw
          case rel => exact ⟨i + 1, by omega, by go_num, by rw [Hst.out, wst1, if_pos ⟨by rw [← Hfq.out]; omega, by rw [← Hgq2.out]; exact Hgm.out⟩, ← Hfq.out]; congr 1; omega, hgr, D2, k2, hown2, hmem2, by omega⟩
          case measure => simp [intOf]; omega
        · have hB : ((gq : Int) == (M : Int)) = false := by simp; omega
          have Hgm := hid hgm; clear hgm
          go_wp2
          go_roundw
          case rel => exact ⟨i + 1, by omega, by go_num, by rw [Hst.out, wst1, if_neg (fun h => Hgm.out (by rw [Hgq2.out]; exact h.2))], hgr, D2, k2, hown2, hmem2, by omega⟩
          case measure => simp [intOf]; omega
      · have hgt2 : (A : Int) - (fq : Int) ≤ (kp : Int) := by omega
        have hw2 : wst1 A M f g kp q = kp := by rw [wst1, ← Hfq.out, if_neg (fun h => by have := h.1; omega)]
        rw [hw2] at Hst
        clear hw2 hgt
        clear x8 y0 hkr
        go_wp2
        go_roundw
        case rel => exact ⟨i + 1, by omega, by go_num, by rw [Hst.out], hgr, D', k', hown', hmem', Nat.le_trans hk' (Nat.add_le_add_left (Nat.mul_le_mul_right _ (Nat.le_succ _)) _)⟩
        case measure => simp [intOf]; omega
    · have hilI : (m : Int) ≤ (i : Int) := by omega
      have hfin : kp = L.foldl (wst1 A M f g) 0 := by rw [Hkp.out, List.take_of_length_le (by rw [← Hm.out]; omega)]
      have Hfin := hid hfin; clear hfin
      go_wp2
      go_ret
      exact ⟨by rw [Hfin.out, HL.out]; rfl, gr_trans hg hgr⟩
end Go.Proofs.Ytmkmnedojgigoaa
