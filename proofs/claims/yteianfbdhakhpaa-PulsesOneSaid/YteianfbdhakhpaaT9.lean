import Derived.Test.YteianfbdhakhpaaT8
/-! All readings, yielded one by one. -/
namespace Go.Proofs.Yteianfbdhakhpaa
set_option linter.unusedSimpArgs false
set_option linter.unusedVariables false
open Go Go.RowKit

attribute [local go_sem] Oper.semAt_some

/-- What is handed over: a reading. -/
def ER (B : Nat) (x : List Int × List Int) (vs : Array Value) (W : World) : Prop := ∃ a1 c1 a2 c2, vs = #[.agg #[.slice a1 x.1.length c1, .slice a2 x.2.length c2]] ∧ Iz B W a1 x.1 ∧ Iz B W a2 x.2

set_option maxRecDepth 100000 in
set_option maxHeartbeats 1000000 in
theorem readings_any (aT : Option Addr) (cT : Nat) (X : Pu) (m : Int) (w : World) : Calls Try.prog 56 #[.agg #[.int .i64 X.l, .int .i64 X.n, .int .i64 X.pi, .int .i64 X.sl, .int .i64 X.ga, .int .i64 X.pa, .int .i64 X.sp, .slice aT X.ts.length cT], .int .i64 m] w fun r w' => r = .returned (.func (.func 81) #[] #[.pointer (some ⟨w.heap.size, 0, none⟩), .pointer (some ⟨w.heap.size + 1, 0, none⟩)]) ∧ Bx w' w.heap.size #[.int .i64 X.l, .int .i64 X.n, .int .i64 X.pi, .int .i64 X.sl, .int .i64 X.ga, .int .i64 X.pa, .int .i64 X.sp, .slice aT X.ts.length cT] 24 ∧ Bx w' (w.heap.size + 1) #[.int .i64 m] 3 ∧ Below w.heap.size w w' := by
  obtain ⟨W, hW, hb, hs, x0, x1⟩ := boxes2 w #[.int .i64 X.l, .int .i64 X.n, .int .i64 X.pi, .int .i64 X.sl, .int .i64 X.ga, .int .i64 X.pa, .int .i64 X.sp, .slice aT X.ts.length cT] 24 #[.int .i64 m] 3
  go_enter Try.func56, Try.ntmps56
  go_wp2
  go_ret
  exact ⟨rfl, x0, x1, hb⟩

theorem fm_none {X : Pu} {pre : List (List Int)} {x : List Int} (h : lof X (woL X.ts x) = none) : (pre ++ [x]).filterMap (rdO X) = pre.filterMap (rdO X) := by
  rw [List.filterMap_append]; simp [rdO, h]
theorem fm_some {X : Pu} {pre : List (List Int)} {x L : List Int} (h : lof X (woL X.ts x) = some L) : (pre ++ [x]).filterMap (rdO X) = pre.filterMap (rdO X) ++ [(x, L)] := by
  rw [List.filterMap_append]; simp [rdO, h]
theorem fm_split {X : Pu} {pre rest XS : List (List Int)} {x L : List Int} (hx : XS = pre ++ x :: rest) (h : lof X (woL X.ts x) = some L) : XS.filterMap (rdO X) = pre.filterMap (rdO X) ++ (x, L) :: rest.filterMap (rdO X) := by
  rw [hx, List.filterMap_append, List.filterMap_cons]; simp [rdO, h]
theorem Marks.one {B : Nat} {W : World} (h : W.heap[B]? = some (.deferred (some []))) : Marks B W [{ target := .collected B, args := #[] }] :=
  ⟨B, rfl, Nat.le_refl _, h, trivial, fun d hd => by cases hd⟩

set_option maxRecDepth 100000 in
set_option maxHeartbeats 6000000 in
theorem readings_iter (aT : Option Addr) (cT : Nat) (X : Pu) (ok : POk X) (h24 : X.ts.length ≤ 24) (hr : ∀ x ∈ X.ts, 0 ≤ x ∧ x ≤ 99999) (m : Nat) (hm : m ≤ 3) (w0 : World) (hX : Ints w0 aT X.ts) (C : Nat → Prop) (B : Nat) (hC0 : ∀ k, C k → w0.heap.size ≤ k) (hC : ∀ k, C k → k < B) (g1 g2 : Nat) (hg1 : ¬ C g1) (w : World) (hw0 : Below w0.heap.size w0 w)
    (h1 : Bx w g1 #[.int .i64 X.l, .int .i64 X.n, .int .i64 X.pi, .int .i64 X.sl, .int .i64 X.ga, .int .i64 X.pa, .int .i64 X.sp, .slice aT X.ts.length cT] 24) (h2 : Bx w g2 #[.int .i64 (m : Int)] 3) : IterF Try.prog 81 #[] #[.pointer (some ⟨g1, 0, none⟩), .pointer (some ⟨g2, 0, none⟩)] ER (rdL X m) 62 w0.heap.size C B w := by
  intro l J W hW hs hJ hY h0
  show Calls Try.prog 81 #[.func (.yield l) #[] #[], .pointer (some ⟨g1, 0, none⟩), .pointer (some ⟨g2, 0, none⟩)] W _
  refine calls_of_wp_marks Try.func81 rfl ?_
  simp only [Try.ntmps81, List.size_toArray, List.length_cons, List.length_nil, Nat.reduceAdd, Nat.reduceSub, Array.replicate_succ, Array.replicate_zero, List.push_toArray, List.append_toArray, List.nil_append, List.cons_append]
  obtain ⟨W1, hW1, hb1, hs1, y0⟩ := boxes1 W #[.func (.yield l) #[] #[]] 86
  have hJ1 := hJ _ _ _ h0 (Cel.of_below hb1 (by omega))
  have x0 := (h1.below hW).below hb1
  have x1 := (h2.below hW).below hb1
  have hn0 := hw0.size
  have hnW := hW.size
  have hbw := (hw0.trans (hW.mono hn0)).trans (hb1.mono (by omega))
  have HOK := hid ok; have HR := hid hr
  have hst := fun V => sets_any (X.ts.length : Int) (m : Int) V
  have hit0 := fun C' B' hC' a b V x y => sets_iter X.ts.length m h24 hm w0.heap.size C' B' hC' a b V x y
  have HRD := hid (show rdL X m = (setsG X.ts.length m 0 []).filterMap (rdO X) from rfl)
  obtain ⟨n, hn⟩ : ∃ n, n = X.ts.length := ⟨_, rfl⟩
  rw [← hn] at x0 hst hit0 h24 HRD
  have HN := hid hn
  obtain ⟨RD, hRD⟩ : ∃ RD, RD = rdL X m := ⟨_, rfl⟩
  rw [← hRD] at HRD hY ⊢
  obtain ⟨XS, hXS⟩ : ∃ XS, XS = setsG n m 0 [] := ⟨_, rfl⟩
  rw [← hXS] at HRD hit0
  have hgy : ¬ C W.heap.size := fun h => by have := hC _ h; omega
  clear ok hr hn hRD hXS h1 h2 hW h0 hb1 hw0
  have c0 := x0.cell 0 rfl; have c1 := x0.cell 1 rfl; have c2 := x0.cell 2 rfl; have c3 := x0.cell 3 rfl; have c4 := x0.cell 4 rfl; have c5 := x0.cell 5 rfl; have c6 := x0.cell 6 rfl; have c7 := x0.cell 7 rfl
  have d0 := x1.cell 0 rfl
  go_wp2_with fail
  refine (hst _).mono ?_
  rintro r V ⟨rfl, z1, z2, hb2⟩
  clear c0 c1 c2 c3 c4 c5 c6 c7 d0 hst x1
  replace x0 := x0.below hb2
  replace y0 := y0.below hb2
  have hJ2 := hJ _ _ _ hJ1 (Cel.of_below hb2 (by omega))
  replace hbw := hbw.trans (hb2.mono (by omega))
  have hsV := hb2.size
  clear hJ1 hb2 hW1
  go_wp2_with fail
  rw [hs] at y0 hs1 hgy
  rw [hs1] at z1 z2 hsV
  have hz2 := z2.lt
  refine wp_rangeFuncF (α := List Int) (gf := 97) (bd := #[]) (lb := #[.pointer (some ⟨B + 1, 0, none⟩), .pointer (some ⟨B + 1 + 1, 0, none⟩)]) (E := ES) (xs := XS) 62 w0.heap.size C (fun k h => by have := hC k h; omega) rfl (enters_of Try.func97 (by kernel_rfl) rfl) (fun x vs W hE => by obtain ⟨a, c, rfl, _⟩ := hE; rfl)
    (hit0 _ _ (fun k h => by rcases h with h | h | h <;> first | omega | (have := hC k h; omega)) (B + 1) (B + 1 + 1) V z1 z2)
    (fun pre W => J (pre.filterMap (rdO X)) W ∧ Bx W g1 #[.int .i64 X.l, .int .i64 X.n, .int .i64 X.pi, .int .i64 X.sl, .int .i64 X.ga, .int .i64 X.pa, .int .i64 X.sp, .slice aT n cT] 24 ∧ Bx W B #[.func (.yield l) #[] #[]] 86 ∧ Below w0.heap.size w0 W) ?hI ?h0
    (fun x a' W => ∃ (a : Option Addr) (c : Nat), Iz (V.heap.size + 2) W a x ∧ a' = { tmps := #[.func (.yield l) #[] #[], .pointer (some ⟨g1, 0, none⟩), .pointer (some ⟨g2, 0, none⟩), .pointer (some ⟨B, 0, none⟩), .slice a x.length c, undef, undef, .pointer (some ⟨g1, 7, none⟩), .slice aT n cT, .int .i64 (n : Int), .int .i64 (m : Int), .func (.func 97) #[] #[.pointer (some ⟨B + 1, 0, none⟩), .pointer (some ⟨B + 1 + 1, 0, none⟩)], .slice a x.length c, undef, undef, undef, undef, undef, undef, undef, undef, undef, undef, undef, undef, undef, undef, undef, undef, undef, undef], defers := [] }) ?hAx ?assign ?body ?done
  case hI =>
    rintro pre W W' ⟨i1, i2, i3, i4⟩ hs'
    exact ⟨hJ _ _ _ i1 (hs'.mono (by omega)), hs'.bx i2, hs'.bx i3, i4.trans (hs'.1.mono (by omega))⟩
  case h0 => exact ⟨hJ2, x0, y0, hbw⟩
  case hAx =>
    rintro x a' W W' ⟨a, c, q1, q2⟩ hs'
    exact ⟨a, c, q1.cel hs', q2⟩
  case assign =>
    rintro l' pre x vs W K hx hi ⟨a, c, rfl, hE⟩ hsz hK
    refine wpIn_region_plain rfl ?_
    go_wp2_with fail
    exact hK _ _ (Kc.refl _ _ _ _) hi ⟨a, c, hE, rfl⟩
  case body =>
    rintro l' pre x a' W hx ⟨i1, i2, i3, i4⟩ ⟨a, c, hz, rfl⟩ hsz
    have hwo := fun V' (h : BlS W V') => without_any aT a cT c X.ts x V' ((hX.below i4 (Nat.le_refl _)).below h (Nat.le_refl _)) (hz.i.below h (Nat.le_refl _)) (by rw [← HN.out]; exact h24)
    have hlo := fun V' a' c' h1 h2 h3 => listOf_any aT cT X HOK.out a' c' (woL X.ts x) V' h1 (Nat.le_trans (woA_len x X.ts 0) (by rw [← HN.out]; exact h24)) h2 h3 (fun y hy => HR.out y (woA_mem x X.ts 0 y hy))
    have HFN := hid (show lof X (woL X.ts x) = none → (pre ++ [x]).filterMap (rdO X) = pre.filterMap (rdO X) from fun h => fm_none h)
    have HFS := hid (show ∀ L, lof X (woL X.ts x) = some L → (pre ++ [x]).filterMap (rdO X) = pre.filterMap (rdO X) ++ [(x, L)] ∧ ∃ rest, RD = pre.filterMap (rdO X) ++ (x, L) :: rest from fun L h => by
      obtain ⟨rest, hx⟩ := hx
      exact ⟨fm_some h, _, by rw [HRD.out]; exact fm_split hx h⟩)
    rw [← HN.out] at hwo hlo
    generalize hO : lof X (woL X.ts x) = O at *
    generalize (pre ++ [x]).filterMap (rdO X) = PX at *
    generalize pre.filterMap (rdO X) = PR at *
    generalize woL X.ts x = WL at *
    obtain ⟨nx, hnx⟩ : ∃ nx, nx = x.length := ⟨_, rfl⟩
    rw [← hnx] at hwo ⊢
    have HNX := hid hnx
    obtain ⟨nw, hnw⟩ : ∃ nw, nw = WL.length := ⟨_, rfl⟩
    rw [← hnw] at hwo hlo
    have hb0 := hJ PR W
    clear hx hnx hnw hO hit0 z1 z2 x0 y0 hJ2
    cases O with
    | none =>
      have HPX := hid (HFN.out rfl)
      clear HFN HFS
      gi_wp2_with fail
      have S0 : BlS W W.drew := (Below.refl W.heap.size W).drew
      refine wpIn_region_head 10 (fun w' => BlS W w') (by kernel_rfl) (by kernel_rfl) ?_
      generalize W.drew = Y0 at *
      refine HeadAt.take (i := 0) (.agg #[.int .i64 X.l, .int .i64 X.n, .int .i64 X.pi, .int .i64 X.sl, .int .i64 X.ga, .int .i64 X.pa, .int .i64 X.sp, .slice aT n cT]) rfl (by kernel_rfl) (.inl ⟨rfl, fun w' z => ?_⟩) S0 ?_
      · (have z0 := (i2.below z).cell 0 rfl; have z1 := (i2.below z).cell 1 rfl; have z2 := (i2.below z).cell 2 rfl; have z3 := (i2.below z).cell 3 rfl; have z4 := (i2.below z).cell 4 rfl; have z5 := (i2.below z).cell 5 rfl; have z6 := (i2.below z).cell 6 rfl; have z7 := (i2.below z).cell 7 rfl; simp [go_sem, z0, z1, z2, z3, z4, z5, z6, z7])
      (try simp only [Act.put, List.getElem_toArray, List.getElem_cons_succ, List.getElem_cons_zero, List.setIfInBounds_toArray, List.set_cons_succ, List.set_cons_zero])
      refine HeadAt.take (i := 1) (.pointer (some ⟨g1, 7, none⟩)) rfl (by kernel_rfl) (.inl ⟨rfl, fun _ _ => by simp [go_sem]⟩) S0 ?_
      (try simp only [Act.put, List.getElem_toArray, List.getElem_cons_succ, List.getElem_cons_zero, List.setIfInBounds_toArray, List.set_cons_succ, List.set_cons_zero])
      refine HeadAt.take (i := 2) (.slice aT n cT) rfl (by kernel_rfl) (.inl ⟨rfl, fun w' z => ?_⟩) S0 ?_
      · (have z0 := (i2.below z).cell 7 rfl; simp [go_sem, z0])
      (try simp only [Act.put, List.getElem_toArray, List.getElem_cons_succ, List.getElem_cons_zero, List.setIfInBounds_toArray, List.set_cons_succ, List.set_cons_zero])
      refine HeadAt.take (i := 3) (.slice a nx c) rfl (by kernel_rfl) (.inl ⟨rfl, fun _ _ => by simp [go_sem]⟩) S0 ?_
      (try simp only [Act.put, List.getElem_toArray, List.getElem_cons_succ, List.getElem_cons_zero, List.setIfInBounds_toArray, List.set_cons_succ, List.set_cons_zero])
      refine HeadAt.one (i := 4) rfl (by kernel_rfl) ?_
      generalize hK : Upto _ _ = K0
      (try simp only [Act.put, List.getElem_toArray, List.getElem_cons_succ, List.getElem_cons_zero, List.setIfInBounds_toArray, List.set_cons_succ, List.set_cons_zero])
      go_wp2_with fail
      refine (hwo _ S0).mono ?_
      rintro e V4 ⟨hb4, a4, c4, rfl, hz4, hl4, hm4⟩
      go_wp2_with fail
      replace S0 : BlS W V4 := Below.trans S0 (hb4.mono (Below.size S0))
      clear hwo hb4
      subst hK
      refine ⟨S0, ?_⟩
      (try simp only [Act.put, List.getElem_toArray, List.getElem_cons_succ, List.getElem_cons_zero, List.setIfInBounds_toArray, List.set_cons_succ, List.set_cons_zero])
      have hl5 := hlo _ a4 c4 hz4.i hl4 hm4
      refine HeadAt.one (i := 5) rfl (by kernel_rfl) ?_
      generalize hK : Upto _ _ = K0
      (try simp only [Act.put, List.getElem_toArray, List.getElem_cons_succ, List.getElem_cons_zero, List.setIfInBounds_toArray, List.set_cons_succ, List.set_cons_zero])
      go_wp2_with fail
      refine hl5.mono ?_
      rintro e V5 ⟨hb5, h5⟩
      obtain rfl : e = .returned (.tuple #[.slice none 0 0, .bool false]) := by
        rcases h5 with ⟨_, h⟩ | ⟨L, a5, c5, h, _⟩
        · exact h
        · cases h
      clear h5
      go_wp2_with fail
      replace S0 : BlS W V5 := Below.trans S0 (hb5.mono (Below.size S0))
      clear hlo hl5 hb5 hz4 hl4 hm4
      subst hK
      refine ⟨S0, ?_⟩
      (try simp only [Act.put, List.getElem_toArray, List.getElem_cons_succ, List.getElem_cons_zero, List.setIfInBounds_toArray, List.set_cons_succ, List.set_cons_zero])
      refine HeadAt.take (i := 6) (.tuple #[.slice none 0 0, .bool false]) rfl (by kernel_rfl) (.inl ⟨rfl, fun _ _ => by simp [go_sem]⟩) S0 ?_
      (try simp only [Act.put, List.getElem_toArray, List.getElem_cons_succ, List.getElem_cons_zero, List.setIfInBounds_toArray, List.set_cons_succ, List.set_cons_zero])
      refine HeadAt.take (i := 7) (.slice none 0 0) rfl (by kernel_rfl) (.inl ⟨rfl, fun w' z => ?_⟩) S0 ?_
      · (simp [go_sem])
      (try simp only [Act.put, List.getElem_toArray, List.getElem_cons_succ, List.getElem_cons_zero, List.setIfInBounds_toArray, List.set_cons_succ, List.set_cons_zero])
      refine HeadAt.take (i := 8) (.bool false) rfl (by kernel_rfl) (.inl ⟨rfl, fun w' z => ?_⟩) S0 ?_
      · (simp [go_sem])
      (try simp only [Act.put, List.getElem_toArray, List.getElem_cons_succ, List.getElem_cons_zero, List.setIfInBounds_toArray, List.set_cons_succ, List.set_cons_zero])
      refine HeadAt.take (i := 9) (.slice none 0 0) rfl (by kernel_rfl) (.inl ⟨rfl, fun _ _ => by simp [go_sem]⟩) S0 ?_
      (try simp only [Act.put, List.getElem_toArray, List.getElem_cons_succ, List.getElem_cons_zero, List.setIfInBounds_toArray, List.set_cons_succ, List.set_cons_zero])
      refine HeadAt.done (by kernel_rfl) ?_
      (try simp only [Act.put, List.drop_succ_cons, List.drop_zero, List.getElem_toArray, List.getElem_cons_succ, List.getElem_cons_zero])
      go_wp2_with fail
      refine NoPanic.normal ?_
      have hsw := Below.size S0
      have HH := hid (And.intro (Kc.of_below (T := 62) (n0 := w0.heap.size) (C := C) S0) (And.intro (hJ _ _ _ i1 (Cel.of_below S0 (by omega))) (And.intro (i2.below S0) (And.intro (i3.below S0) (i4.trans (Below.mono S0 (by omega)))))))
      clear S0 i1 i2 i3 i4 hz
      gi_wp2
      repeat (refine ⟨fun _ h => (by cases h), ?_⟩; gi_wp2)
      obtain ⟨q1, q2⟩ := HH.out
      exact ⟨q1, by rw [HPX.out]; exact q2⟩
    | some L =>
      obtain ⟨hpx, hrest⟩ := HFS.out L rfl
      have HPX := hid hpx
      clear HFN HFS hpx
      gi_wp2_with fail
      have S0 : BlS W W.drew := (Below.refl W.heap.size W).drew
      refine wpIn_region_head 10 (fun w' => BlS W w') (by kernel_rfl) (by kernel_rfl) ?_
      generalize W.drew = Y0 at *
      refine HeadAt.take (i := 0) (.agg #[.int .i64 X.l, .int .i64 X.n, .int .i64 X.pi, .int .i64 X.sl, .int .i64 X.ga, .int .i64 X.pa, .int .i64 X.sp, .slice aT n cT]) rfl (by kernel_rfl) (.inl ⟨rfl, fun w' z => ?_⟩) S0 ?_
      · (have z0 := (i2.below z).cell 0 rfl; have z1 := (i2.below z).cell 1 rfl; have z2 := (i2.below z).cell 2 rfl; have z3 := (i2.below z).cell 3 rfl; have z4 := (i2.below z).cell 4 rfl; have z5 := (i2.below z).cell 5 rfl; have z6 := (i2.below z).cell 6 rfl; have z7 := (i2.below z).cell 7 rfl; simp [go_sem, z0, z1, z2, z3, z4, z5, z6, z7])
      (try simp only [Act.put, List.getElem_toArray, List.getElem_cons_succ, List.getElem_cons_zero, List.setIfInBounds_toArray, List.set_cons_succ, List.set_cons_zero])
      refine HeadAt.take (i := 1) (.pointer (some ⟨g1, 7, none⟩)) rfl (by kernel_rfl) (.inl ⟨rfl, fun _ _ => by simp [go_sem]⟩) S0 ?_
      (try simp only [Act.put, List.getElem_toArray, List.getElem_cons_succ, List.getElem_cons_zero, List.setIfInBounds_toArray, List.set_cons_succ, List.set_cons_zero])
      refine HeadAt.take (i := 2) (.slice aT n cT) rfl (by kernel_rfl) (.inl ⟨rfl, fun w' z => ?_⟩) S0 ?_
      · (have z0 := (i2.below z).cell 7 rfl; simp [go_sem, z0])
      (try simp only [Act.put, List.getElem_toArray, List.getElem_cons_succ, List.getElem_cons_zero, List.setIfInBounds_toArray, List.set_cons_succ, List.set_cons_zero])
      refine HeadAt.take (i := 3) (.slice a nx c) rfl (by kernel_rfl) (.inl ⟨rfl, fun _ _ => by simp [go_sem]⟩) S0 ?_
      (try simp only [Act.put, List.getElem_toArray, List.getElem_cons_succ, List.getElem_cons_zero, List.setIfInBounds_toArray, List.set_cons_succ, List.set_cons_zero])
      refine HeadAt.one (i := 4) rfl (by kernel_rfl) ?_
      generalize hK : Upto _ _ = K0
      (try simp only [Act.put, List.getElem_toArray, List.getElem_cons_succ, List.getElem_cons_zero, List.setIfInBounds_toArray, List.set_cons_succ, List.set_cons_zero])
      go_wp2_with fail
      refine (hwo _ S0).mono ?_
      rintro e V4 ⟨hb4, a4, c4, rfl, hz4, hl4, hm4⟩
      go_wp2_with fail
      replace S0 : BlS W V4 := Below.trans S0 (hb4.mono (Below.size S0))
      clear hwo hb4
      subst hK
      refine ⟨S0, ?_⟩
      (try simp only [Act.put, List.getElem_toArray, List.getElem_cons_succ, List.getElem_cons_zero, List.setIfInBounds_toArray, List.set_cons_succ, List.set_cons_zero])
      have hl5 := hlo _ a4 c4 hz4.i hl4 hm4
      have hs4 := Below.size S0
      refine HeadAt.one (i := 5) rfl (by kernel_rfl) ?_
      generalize hK : Upto _ _ = K0
      (try simp only [Act.put, List.getElem_toArray, List.getElem_cons_succ, List.getElem_cons_zero, List.setIfInBounds_toArray, List.set_cons_succ, List.set_cons_zero])
      go_wp2_with fail
      refine hl5.mono ?_
      rintro e V5 ⟨hb5, h5⟩
      obtain ⟨a5, c5, rfl, hz5⟩ : ∃ (a5 : Option Addr) (c5 : Nat), e = .returned (.tuple #[.slice a5 L.length c5, .bool true]) ∧ Iz V4.heap.size V5 a5 L := by
        rcases h5 with ⟨h, _⟩ | ⟨L', a5, c5, h, h', h''⟩
        · cases h
        · cases h; exact ⟨a5, c5, h', h''⟩
      clear h5
      obtain ⟨nL, hnL⟩ : ∃ nL, nL = L.length := ⟨_, rfl⟩
      rw [← hnL]
      have HNL := hid hnL
      clear hnL
      go_wp2_with fail
      replace S0 : BlS W V5 := Below.trans S0 (hb5.mono (Below.size S0))
      clear hlo hl5 hb5 hz4 hl4 hm4
      subst hK
      refine ⟨S0, ?_⟩
      (try simp only [Act.put, List.getElem_toArray, List.getElem_cons_succ, List.getElem_cons_zero, List.setIfInBounds_toArray, List.set_cons_succ, List.set_cons_zero])
      refine HeadAt.take (i := 6) (.tuple #[.slice a5 nL c5, .bool true]) rfl (by kernel_rfl) (.inl ⟨rfl, fun _ _ => by simp [go_sem]⟩) S0 ?_
      (try simp only [Act.put, List.getElem_toArray, List.getElem_cons_succ, List.getElem_cons_zero, List.setIfInBounds_toArray, List.set_cons_succ, List.set_cons_zero])
      refine HeadAt.take (i := 7) (.slice a5 nL c5) rfl (by kernel_rfl) (.inl ⟨rfl, fun w' z => ?_⟩) S0 ?_
      · (simp [go_sem])
      (try simp only [Act.put, List.getElem_toArray, List.getElem_cons_succ, List.getElem_cons_zero, List.setIfInBounds_toArray, List.set_cons_succ, List.set_cons_zero])
      refine HeadAt.take (i := 8) (.bool true) rfl (by kernel_rfl) (.inl ⟨rfl, fun w' z => ?_⟩) S0 ?_
      · (simp [go_sem])
      (try simp only [Act.put, List.getElem_toArray, List.getElem_cons_succ, List.getElem_cons_zero, List.setIfInBounds_toArray, List.set_cons_succ, List.set_cons_zero])
      refine HeadAt.take (i := 9) (.slice a5 nL c5) rfl (by kernel_rfl) (.inl ⟨rfl, fun _ _ => by simp [go_sem]⟩) S0 ?_
      (try simp only [Act.put, List.getElem_toArray, List.getElem_cons_succ, List.getElem_cons_zero, List.setIfInBounds_toArray, List.set_cons_succ, List.set_cons_zero])
      refine HeadAt.done (by kernel_rfl) ?_
      (try simp only [Act.put, List.drop_succ_cons, List.drop_zero, List.getElem_toArray, List.getElem_cons_succ, List.getElem_cons_zero])
      go_wp2_with fail
      refine NoPanic.normal ?_
      have hsw := Below.size S0
      have k1 := hJ _ _ _ i1 (Cel.of_below S0 (by omega))
      have k2 := i2.below S0
      have k3 := i3.below S0
      have k4 := i4.trans (Below.mono S0 (by omega))
      have k5 : Kc 62 w0.heap.size C W V5 := Kc.of_below S0
      obtain ⟨fn', tm', as', bo', hy', hR'⟩ := hY PR (x, L) #[.agg #[.slice a x.length c, .slice a5 L.length c5]] hrest V5 k1 ⟨a, c, a5, c5, rfl, (hz.below S0).mono (by omega), hz5.mono (by omega)⟩
      rw [← HNX.out, ← HNL.out] at hy'
      have c0 := k3.cell 0 rfl
      have HH := hid (And.intro k2 (And.intro k3 (And.intro k4 k5)))
      clear S0 i1 i2 i3 i4 hz hz5 k1 k2 k3 k4 k5
      gi_wp2_with (refine ⟨rfl, hR'.mono ?_⟩; clear hR'; rintro r W3 ⟨rfl, hj3, hk3⟩)
      gi_wp2
      obtain ⟨k2, k3, k4, k5⟩ := HH.out
      exact ⟨k5.trans hk3, by rw [HPX.out]; exact hj3, hk3.bx k2 hg1 (by decide), hk3.bx k3 hgy (by decide), k4.trans (hk3.below hC0 (by omega))⟩
  case done =>
    rintro W ⟨i1, i2, i3, i4⟩ hD hsz
    rw [← HRD.out] at i1
    have hM := Marks.one hD
    clear hit0 z1 z2 x0 y0 hJ2
    go_wp2_with fail
    refine leaves_marks _ _ hM fun w' hc => ?_
    refine ⟨_, results_none rfl _ _ _, ?_⟩
    exact ⟨⟨_, rfl⟩, hJ _ _ _ i1 (hc.mono (by omega))⟩
end Go.Proofs.Yteianfbdhakhpaa
