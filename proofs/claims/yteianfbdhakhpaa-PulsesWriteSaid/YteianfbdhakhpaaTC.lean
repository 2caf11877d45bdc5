import Derived.Test.YteianfbdhakhpaaT8
/-! All readings, yielded one by one. -/
namespace Go.Proofs.Yteianfbdhakhpaa
set_option linter.unusedSimpArgs false
set_option linter.unusedVariables false
open Go Go.RowKit

attribute [local go_sem] Oper.semAt_some

/-- What is handed over: a reading. -/
def ER (B : Nat) (x : List Int × List Int) (vs : Array Value) (W : World) : Prop := ∃ a1 c1 a2 c2, vs = #[.agg #[.slice a1 x.1.length c1, .slice a2 x.2.length c2]] ∧ Iz B W a1 x.1 ∧ Iz B W a2 x.2

set_option maxRecDepth 100000 in
set_option maxHeartbeats 1000000 in
theorem readings_any (aT : Option Addr) (cT : Nat) (X : Pu) (m : Int) (w : World) : Calls Try.prog 56 #[.agg #[.int .i64 X.l, .int .i64 X.n, .int .i64 X.pi, .int .i64 X.sl, .int .i64 X.ga, .int .i64 X.pa, .int .i64 X.sp, .slice aT X.ts.length cT], .int .i64 m] w fun r w' => r = .returned (.func (.func 81) #[] #[.pointer (some ⟨w.heap.size, 0, none⟩), .pointer (some ⟨w.heap.size + 1, 0, none⟩)]) ∧ Bx w' w.heap.size #[.int .i64 X.l, .int .i64 X.n, .int .i64 X.pi, .int .i64 X.sl, .int .i64 X.ga, .int .i64 X.pa, .int .i64 X.sp, .slice aT X.ts.length cT] 24 ∧ Bx w' (w.heap.size + 1) #[.int .i64 m] 3 ∧ Below w.heap.size w w' := by
  obtain ⟨W, hW, hb, hs, x0, x1⟩ := boxes2 w #[.int .i64 X.l, .int .i64 X.n, .int .i64 X.pi, .int .i64 X.sl, .int .i64 X.ga, .int .i64 X.pa, .int .i64 X.sp, .slice aT X.ts.length cT] 24 #[.int .i64 m] 3
  go_enter Try.func56, Try.ntmps56
  go_wp2
  go_ret
  exact ⟨rfl, x0, x1, hb⟩

theorem fm_none {X : Pu} {pre : List (List Int)} {x : List Int} (h : lof X (woL X.ts x) = none) : (pre ++ [x]).filterMap (rdO X) = pre.filterMap (rdO X) := by
  rw [List.filterMap_append]; simp [rdO, h]
theorem fm_some {X : Pu} {pre : List (List Int)} {x L : List Int} (h : lof X (woL X.ts x) = some L) : (pre ++ [x]).filterMap (rdO X) = pre.filterMap (rdO X) ++ [(x, L)] := by
  rw [List.filterMap_append]; simp [rdO, h]
theorem fm_split {X : Pu} {pre rest XS : List (List Int)} {x L : List Int} (hx : XS = pre ++ x :: rest) (h : lof X (woL X.ts x) = some L) : XS.filterMap (rdO X) = pre.filterMap (rdO X) ++ (x, L) :: rest.filterMap (rdO X) := by
  rw [hx, List.filterMap_append, List.filterMap_cons]; simp [rdO, h]
theorem Marks.one {B : Nat} {W : World} (h : W.heap[B]? = some (.deferred (some []))) : Marks B W [{ target := .collected B, args := #[] }] :=
  ⟨B, rfl, Nat.le_refl _, h, trivial, fun d hd => by cases hd⟩

set_option maxRecDepth 100000 in
set_option maxHeartbeats 6000000 in
theorem readings_iter (aT : Option Addr) (cT : Nat) (X : Pu) (ok : POk X) (h24 : X.ts.length ≤ 24) (hr : ∀ x ∈ X.ts, 0 ≤ x ∧ x ≤ 99999) (m : Nat) (hm : m ≤ 3) (w0 : World) (hX : Ints w0 aT X.ts) (C : Nat → Prop) (B : Nat) (hC0 : ∀ k, C k → w0.heap.size ≤ k) (hC : ∀ k, C k → k < B) (g1 g2 : Nat) (hg1 : ¬ C g1) (w : World) (hw0 : Below w0.heap.size w0 w)
    (h1 : Bx w g1 #[.int .i64 X.l, .int .i64 X.n, .int .i64 X.pi, .int .i64 X.sl, .int .i64 X.ga, .int .i64 X.pa, .int .i64 X.sp, .slice aT X.ts.length cT] 24) (h2 : Bx w g2 #[.int .i64 (m : Int)] 3) : IterF Try.prog 81 #[] #[.pointer (some ⟨g1, 0, none⟩), .pointer (some ⟨g2, 0, none⟩)] ER (rdL X m) 62 w0.heap.size C B w := by
  intro l J W hW hs hJ hY h0
  show Calls Try.prog 81 #[.func (.yield l) #[] #[], .pointer (some ⟨g1, 0, none⟩), .pointer (some ⟨g2, 0, none⟩)] W _
  refine calls_of_wp_marks Try.func81 rfl ?_
  simp only [Try.ntmps81, List.size_toArray, List.length_cons, List.length_nil, Nat.reduceAdd, Nat.reduceSub, Array.replicate_succ, Array.replicate_zero, List.push_toArray, List.append_toArray, List.nil_append, List.cons_append]
  obtain ⟨W1, hW1, hb1, hs1, y0⟩ := boxes1 W #[.func (.yield l) #[] #[]] 86
  have hJ1 := hJ _ _ _ h0 (Cel.of_below hb1 (by omega))
  have x0 := (h1.below hW).below hb1
  have x1 := (h2.below hW).below hb1
  have hn0 := hw0.size
  have hnW := hW.size
  have hbw := (hw0.trans (hW.mono hn0)).trans (hb1.mono (by omega))
  have HOK := hid ok; have HR := hid hr
  have hst := fun V => sets_any (X.ts.length : Int) (m : Int) V
  have hit0 := fun C' B' hC' a b V x y => sets_iter X.ts.length m h24 hm w0.heap.size C' B' hC' a b V x y
  have HRD := hid (show rdL X m = (setsG X.ts.length m 0 []).filterMap (rdO X) from rfl)
  obtain ⟨n, hn⟩ : ∃ n, n = X.ts.length := ⟨_, rfl⟩
  rw [← hn] at x0 hst hit0 h24 HRD
  have HN := hid hn
  obtain ⟨RD, hRD⟩ : ∃ RD, RD = rdL X m := ⟨_, rfl⟩
  rw [← hRD] at HRD hY ⊢
  obtain ⟨XS, hXS⟩ : ∃ XS, XS = setsG n m 0 [] := ⟨_, rfl⟩
  rw [← hXS] at HRD hit0
  have hgy : ¬ C W.heap.size := fun h => by have := hC _ h; omega
  clear ok hr hn hRD hXS h1 h2 hW h0 hb1 hw0
  have c0 := x0.cell 0 rfl; have c1 := x0.cell 1 rfl; have c2 := x0.cell 2 rfl; have c3 := x0.cell 3 rfl; have c4 := x0.cell 4 rfl; have c5 := x0.cell 5 rfl; have c6 := x0.cell 6 rfl; have c7 := x0.cell 7 rfl
  have d0 := x1.cell 0 rfl
  go_wp2_with fail
  refine (hst _).mono ?_
  rintro r V ⟨rfl, z1, z2, hb2⟩
  clear c0 c1 c2 c3 c4 c5 c6 c7 d0 hst x1
  replace x0 := x0.below hb2
  replace y0 := y0.below hb2
  have hJ2 := hJ _ _ _ hJ1 (Cel.of_below hb2 (by omega))
  replace hbw := hbw.trans (hb2.mono (by omega))
  have hsV := hb2.size
  clear hJ1 hb2 hW1
  go_wp2_with fail
  rw [hs] at y0 hs1 hgy
  rw [hs1] at z1 z2 hsV
  have hz2 := z2.lt
  refine wp_rangeFuncF (α := List Int) (gf := 97) (bd := #[]) (lb := #[.pointer (some ⟨B + 1, 0, none⟩), .pointer (some ⟨B + 1 + 1, 0, none⟩)]) (E := ES) (xs := XS) 62 w0.heap.size C (fun k h => by have := hC k h; omega) rfl (enters_of Try.func97 (by kernel_rfl) rfl) (fun x vs W hE => by obtain ⟨a, c, rfl, _⟩ := hE; rfl)
    (hit0 _ _ (fun k h => by rcases h with h | h | h <;> first | omega | (have := hC k h; omega)) (B + 1) (B + 1 + 1) V z1 z2)
    (fun pre W => J (pre.filterMap (rdO X)) W ∧ Bx W g1 #[.int .i64 X.l, .int .i64 X.n, .int .i64 X.pi, .int .i64 X.sl, .int .i64 X.ga, .int .i64 X.pa, .int .i64 X.sp, .slice aT n cT] 24 ∧ Bx W B #[.func (.yield l) #[] #[]] 86 ∧ Below w0.heap.size w0 W) ?hI ?h0
    (fun x a' W => ∃ (a : Option Addr) (c : Nat), Iz (V.heap.size + 2) W a x ∧ a' = { tmps := #[.func (.yield l) #[] #[], .pointer (some ⟨g1, 0, none⟩), .pointer (some ⟨g2, 0, none⟩), .pointer (some ⟨B, 0, none⟩), .slice a x.length c, undef, undef, .pointer (some ⟨g1, 7, none⟩), .slice aT n cT, .int .i64 (n : Int), .int .i64 (m : Int), .func (.func 97) #[] #[.pointer (some ⟨B + 1, 0, none⟩), .pointer (some ⟨B + 1 + 1, 0, none⟩)], .slice a x.length c, undef, undef, undef, undef, undef, undef, undef, undef, undef, undef, undef, undef, undef, undef, undef, undef, undef, undef], defers := [] }) ?hAx ?assign ?body ?done
  case hI =>
    rintro pre W W' ⟨i1, i2, i3, i4⟩ hs'
    exact ⟨hJ _ _ _ i1 (hs'.mono (by omega)), hs'.bx i2, hs'.bx i3, i4.trans (hs'.1.mono (by omega))⟩
  case h0 => exact ⟨hJ2, x0, y0, hbw⟩
  case hAx =>
    rintro x a' W W' ⟨a, c, q1, q2⟩ hs'
    exact ⟨a, c, q1.cel hs', q2⟩
  case assign =>
    rintro l' pre x vs W K hx hi ⟨a, c, rfl, hE⟩ hsz hK
    refine wpIn_region_plain rfl ?_
    go_wp2_with fail
    exact hK _ _ (Kc.refl _ _ _ _) hi ⟨a, c, hE, rfl⟩
  case body =>
    rintro l' pre x a' W hx ⟨i1, i2, i3, i4⟩ ⟨a, c, hz, rfl⟩ hsz
    have hwo := fun V' (h : BlS W V') => without_any aT a cT c X.ts x V' ((hX.below i4 (Nat.le_refl _)).below h (Nat.le_refl _)) (hz.i.below h (Nat.le_refl _)) (by rw [← HN.out]; exact h24)
    have hlo := fun V' a' c' h1 h2 h3 => listOf_any aT cT X HOK.out a' c' (woL X.ts x) V' h1 (Nat.le_trans (woA_len x X.ts 0) (by rw [← HN.out]; exact h24)) h2 h3 (fun y hy => HR.out y (woA_mem x X.ts 0 y hy))
    have HFN := hid (show lof X (woL X.ts x) = none → (pre ++ [x]).filterMap (rdO X) = pre.filterMap (rdO X) from fun h => fm_none h)
    have HFS := hid (show ∀ L, lof X (woL X.ts x) = some L → (pre ++ [x]).filterMap (rdO X) = pre.filterMap (rdO X) ++ [(x, L)] ∧ ∃ rest, RD = pre.filterMap (rdO X) ++ (x, L) :: rest from fun L h => by
      obtain ⟨rest, hx⟩ := hx
      exact ⟨fm_some h, _, by rw [HRD.out]; exact fm_split hx h⟩)
    rw [← HN.out] at hwo hlo
    generalize hO : lof X (woL X.ts x) = O at *
    generalize (pre ++ [x]).filterMap (rdO X) = PX at *
    generalize pre.filterMap (rdO X) = PR at *
    generalize woL X.ts x = WL at *
    obtain ⟨nx, hnx⟩ : ∃ nx, nx = x.length := ⟨_, rfl⟩
    rw [← hnx] at hwo ⊢
    have HNX := hid hnx
    obtain ⟨nw, hnw⟩ : ∃ nw, nw = WL.length := ⟨_, rfl⟩
    rw [← hnw] at hwo hlo
    have hb0 := hJ PR W
    clear hx hnx hnw hO hit0 z1 z2 x0 y0 hJ2
    cases O with
    | none =>
      have HPX := hid (HFN.out rfl)
      clear HFN HFS
      gi_wp2_with fail
      have S0 : BlS W W.drew := (Below.refl W.heap.size W).drew
      refine wpIn_region_head 10 (fun w' => BlS W w') (by kernel_rfl) (by kernel_rfl) ?_
      generalize W.drew = Y0 at *
      refine HeadAt.take (i := 0) (.agg #[.int .i64 X.l, .int .i64 X.n, .int .i64 X.pi, .int .i64 X.sl, .int .i64 X.ga, .int .i64 X.pa, .int .i64 X.sp, .slice aT n cT]) rfl (by kernel_rfl) (.inl ⟨rfl, fun w' z => ?_⟩) S0 ?_
      · (have z0 := (i2.below z).cell 0 rfl; have z1 := (i2.below z).cell 1 rfl; have z2 := (i2.below z).cell 2 rfl; have z3 := (i2.below z).cell 3 rfl; have z4 := (i2.below z).cell 4 rfl; have z5 := (i2.below z).cell 5 rfl; have z6 := (i2.below z).cell 6 rfl; have z7 := (i2.below z).cell 7 rfl; simp [go_sem, z0, z1, z2, z3, z4, z5, z6, z7])
      (try simp only [Act.put, List.getElem_toArray, List.getElem_cons_succ, List.getElem_cons_zero, List.setIfInBounds_toArray, List.set_cons_succ, List.set_cons_zero])
      refine HeadAt.take (i := 1) (.pointer (some ⟨g1, 7, none⟩)) rfl (by kernel_rfl) (.inl ⟨rfl, fun _ _ => by simp [go_sem]⟩) S0 ?_
      (try simp only [Act.put, List.getElem_toArray, List.getElem_cons_succ, List.getElem_cons_zero, List.setIfInBounds_toArray, List.set_cons_succ, List.set_cons_zero])
      refine HeadAt.take (i := 2) (.slice aT n cT) rfl (by kernel_rfl) (.inl ⟨rfl, fun w' z => ?_⟩) S0 ?_
      · (have z0 := (i2.below z).cell 7 rfl; simp [go_sem, z0])
      (try simp only [Act.put, List.getElem_toArray, List.getElem_cons_succ, List.getElem_cons_zero, List.setIfInBounds_toArray, List.set_cons_succ, List.set_cons_zero])
      refine HeadAt.take (i := 3) (.slice a nx c) rfl (by kernel_rfl) (.inl ⟨rfl, fun _ _ => by simp [go_sem]⟩) S0 ?_
      (try simp only [Act.put, List.getElem_toArray, List.getElem_cons_succ, List.getElem_cons_zero, List.setIfInBounds_toArray, List.set_cons_succ, List.set_cons_zero])
      refine HeadAt.one (i := 4) rfl (by kernel_rfl) ?_
      generalize hK : Upto _ _ = K0
      (try simp only [Act.put, List.getElem_toArray, List.getElem_cons_succ, List.getElem_cons_zero, List.setIfInBounds_toArray, List.set_cons_succ, List.set_cons_zero])
      go_wp2_with fail
      refine (hwo _ S0).mono ?_
      rintro e V4 ⟨hb4, a4, c4, rfl, hz4, hl4, hm4⟩
      go_wp2_with fail
      replace S0 : BlS W V4 := Below.trans S0 (hb4.mono (Below.size S0))
      clear hwo hb4
      subst hK
      refine ⟨S0, ?_⟩
      (try simp only [Act.put, List.getElem_toArray, List.getElem_cons_succ, List.getElem_cons_zero, List.setIfInBounds_toArray, List.set_cons_succ, List.set_cons_zero])
      have hl5 := hlo _ a4 c4 hz4.i hl4 hm4
      refine HeadAt.one (i := 5) rfl (by kernel_rfl) ?_
      generalize hK : Upto _ _ = K0
      (try simp only [Act.put, List.getElem_toArray, List.getElem_cons_succ, List.getElem_cons_zero, List.setIfInBounds_toArray, List.set_cons_succ, List.set_cons_zero])
      go_wp2_with fail
      refine hl5.mono ?_
      rintro e V5 ⟨hb5, h5⟩
      obtain rfl : e = .returned (.tuple #[.slice none 0 0, .bool false]) := by
        rcases h5 with ⟨_, h⟩ | ⟨L, a5, c5, h, _⟩
        · exact h
        · cases h
      clear h5
      go_wp2_with fail
      replace S0 : BlS W V5 := Below.trans S0 (hb5.mono (Below.size S0))
      clear hlo hl5 hb5 hz4 hl4 hm4
      subst hK
      refine ⟨S0, ?_⟩
      (try simp only [Act.put, List.getElem_toArray, List.getElem_cons_succ, List.getElem_cons_zero, List.setIfInBounds_toArray, List.set_cons_succ, List.set_cons_zero])
      refine HeadAt.take (i := 6) (.tuple #[.slice none 0 0, .bool false]) rfl (by kernel_rfl) (.inl ⟨rfl, fun _ _ => by simp [go_sem]⟩) S0 ?_
      (try simp only [Act.put, List.getElem_toArray, List.getElem_cons_succ, List.getElem_cons_zero, List.setIfInBounds_toArray, List.set_cons_succ, List.set_cons_zero])
      refine HeadAt.take (i := 7) (.slice none 0 0) rfl (by kernel_rfl) (.inl ⟨rfl, fun w' z => ?_⟩) S0 ?_
      · (simp [go_sem])
      (try simp only [Act.put, List.getElem_toArray, List.getElem_cons_succ, List.getElem_cons_zero, List.setIfInBounds_toArray, List.set_cons_succ, List.set_cons_zero])
      refine HeadAt.take (i := 8) (.bool false) rfl (by kernel_rfl) (.inl ⟨rfl, fun w' z => ?_⟩) S0 ?_
      · (simp [go_sem])
      (try simp only [Act.put, List.getElem_toArray, List.getElem_cons_succ, List.getElem_cons_zero, List.setIfInBounds_toArray, List.set_cons_succ, List.set_cons_zero])
      refine HeadAt.take (i := 9) (.slice none 0 0) rfl (by kernel_rfl) (.inl ⟨rfl, fun _ _ => by simp [go_sem]⟩) S0 ?_
      (try simp only [Act.put, List.getElem_toArray, List.getElem_cons_succ, List.getElem_cons_zero, List.setIfInBounds_toArray, List.set_cons_succ, List.set_cons_zero])
      refine HeadAt.done (by kernel_rfl) ?_
      (try simp only [Act.put, List.drop_succ_cons, List.drop_zero, List.getElem_toArray, List.getElem_cons_succ, List.getElem_cons_zero])
      go_wp2_with fail
      refine NoPanic.normal ?_
      have hsw := Below.size S0
      have HH := hid (And.intro (Kc.of_below (T := 62) (n0 := w0.heap.size) (C := C) S0) (And.intro (hJ _ _ _ i1 (Cel.of_below S0 (by omega))) (And.intro (i2.below S0) (And.intro (i3.below S0) (i4.trans (Below.mono S0 (by omega)))))))
      clear S0 i1 i2 i3 i4 hz
      gi_wp2
      repeat (refine ⟨fun _ h => (by cases h), ?_⟩; gi_wp2)
      obtain ⟨q1, q2⟩ := HH.out
      exact ⟨q1, by rw [HPX.out]; exact q2⟩
    | some L =>
      obtain ⟨hpx, hrest⟩ := HFS.out L rfl
      have HPX := hid hpx
      clear HFN HFS hpx
      gi_wp2_with fail
      have S0 : BlS W W.drew := (Below.refl W.heap.size W).drew
      refine wpIn_region_head 10 (fun w' => BlS W w') (by kernel_rfl) (by kernel_rfl) ?_
      generalize W.drew = Y0 at *
      refine HeadAt.take (i := 0) (.agg #[.int .i64 X.l, .int .i64 X.n, .int .i64 X.pi, .int .i64 X.sl, .int .i64 X.ga, .int .i64 X.pa, .int .i64 X.sp, .slice aT n cT]) rfl (by kernel_rfl) (.inl ⟨rfl, fun w' z => ?_⟩) S0 ?_
      · (have z0 := (i2.below z).cell 0 rfl; have z1 := (i2.below z).cell 1 rfl; have z2 := (i2.below z).cell 2 rfl; have z3 := (i2.below z).cell 3 rfl; have z4 := (i2.below z).cell 4 rfl; have z5 := (i2.below z).cell 5 rfl; have z6 := (i2.below z).cell 6 rfl; have z7 := (i2.below z).cell 7 rfl; simp [go_sem, z0, z1, z2, z3, z4, z5, z6, z7])
      (try simp only [Act.put, List.getElem_toArray, List.getElem_cons_succ, List.getElem_cons_zero, List.setIfInBounds_toArray, List.set_cons_succ, List.set_cons_zero])
      refine HeadAt.take (i := 1) (.pointer (some ⟨g1, 7, none⟩)) rfl (by kernel_rfl) (.inl ⟨rfl, fun _ _ => by simp [go_sem]⟩) S0 ?_
      (try simp only [Act.put, List.getElem_toArray, List.getElem_cons_succ, List.getElem_cons_zero, List.setIfInBounds_toArray, List.set_cons_succ, List.set_cons_zero])
      refine HeadAt.take (i := 2) (.slice aT n cT) rfl (by kernel_rfl) (.inl ⟨rfl, fun w' z => ?_⟩) S0 ?_
      · (have z0 := (i2.below z).cell 7 rfl; simp [go_sem, z0])
      (try simp only [Act.put, List.getElem_toArray, List.getElem_cons_succ, List.getElem_cons_zero, List.setIfInBounds_toArray, List.set_cons_succ, List.set_cons_zero])
      refine HeadAt.take (i := 3) (.slice a nx c) rfl (by kernel_rfl) (.inl ⟨rfl, fun _ _ => by simp [go_sem]⟩) S0 ?_
      (try simp only [Act.put, List.getElem_toArray, List.getElem_cons_succ, List.getElem_cons_zero, List.setIfInBounds_toArray, List.set_cons_succ, List.set_cons_zero])
      refine HeadAt.one (i := 4) rfl (by kernel_rfl) ?_
      generalize hK : Upto _ _ = K0
      (try simp only [Act.put, List.getElem_toArray, List.getElem_cons_succ, List.getElem_cons_zero, List.setIfInBounds_toArray, List.set_cons_succ, List.set_cons_zero])
      go_wp2_with fail
      refine (hwo _ S0).mono ?_
      rintro e V4 ⟨hb4, a4, c4, rfl, hz4, hl4, hm4⟩
      go_wp2_with fail
      replace S0 : BlS W V4 := Below.trans S0 (hb4.mono (Below.size S0))
      clear hwo hb4
      subst hK
      refine ⟨S0, ?_⟩
      (try simp only [Act.put, List.getElem_toArray, List.getElem_cons_succ, List.getElem_cons_zero, List.setIfInBounds_toArray, List.set_cons_succ, List.set_cons_zero])
      have hl5 := hlo _ a4 c4 hz4.i hl4 hm4
      have hs4 := Below.size S0
      refine HeadAt.one (i := 5) rfl (by kernel_rfl) ?_
      generalize hK : Upto _ _ = K0
      (try simp only [Act.put, List.getElem_toArray, List.getElem_cons_succ, List.getElem_cons_zero, List.setIfInBounds_toArray, List.set_cons_succ, List.set_cons_zero])
      go_wp2_with fail
      refine hl5.mono ?_
      rintro e V5 ⟨hb5, h5⟩
      obtain ⟨a5, c5, rfl, hz5⟩ : ∃ (a5 : Option Addr) (c5 : Nat), e = .returned (.tuple #[.slice a5 L.length c5, .bool true]) ∧ Iz V4.heap.size V5 a5 L := by
        rcases h5 with ⟨h, _⟩ | ⟨L', a5, c5, h, h', h''⟩
        · cases h
        · cases h; exact ⟨a5, c5, h', h''⟩
      clear h5
      obtain ⟨nL, hnL⟩ : ∃ nL, nL = L.length := ⟨_, rfl⟩
      rw [← hnL]
      have HNL := hid hnL
      clear hnL
      go_wp2_with fail
      replace S0 : BlS W V5 := Below.trans S0 (hb5.mono (Below.size S0))
      clear hlo hl5 hb5 hz4 hl4 hm4
      subst hK
      refine ⟨S0, ?_⟩
      (try simp only [Act.put, List.getElem_toArray, List.getElem_cons_succ, List.getElem_cons_zero, List.setIfInBounds_toArray, List.set_cons_succ, List.set_cons_zero])
      refine HeadAt.take (i := 6) (.tuple #[.slice a5 nL c5, .bool true]) rfl (by kernel_rfl) (.inl ⟨rfl, fun _ _ => by simp [go_sem]⟩) S0 ?_
      (try simp only [Act.put, List.getElem_toArray, List.getElem_cons_succ, List.getElem_cons_zero, List.setIfInBounds_toArray, List.set_cons_succ, List.set_cons_zero])
      refine HeadAt.take (i := 7) (.slice a5 nL c5) rfl (by kernel_rfl) (.inl ⟨rfl, fun w' z => ?_⟩) S0 ?_
      · (simp [go_sem])
      (try simp only [Act.put, List.getElem_toArray, List.getElem_cons_succ, List.getElem_cons_zero, List.setIfInBounds_toArray, List.set_cons_succ, List.set_cons_zero])
      refine HeadAt.take (i := 8) (.bool true) rfl (by kernel_rfl) (.inl ⟨rfl, fun w' z => ?_⟩) S0 ?_
      · (simp [go_sem])
      (try simp only [Act.put, List.getElem_toArray, List.getElem_cons_succ, List.getElem_cons_zero, List.setIfInBounds_toArray, List.set_cons_succ, List.set_cons_zero])
      refine HeadAt.take (i := 9) (.slice a5 nL c5) rfl (by kernel_rfl) (.inl ⟨rfl, fun _ _ => by simp [go_sem]⟩) S0 ?_
      (try simp only [Act.put, List.getElem_toArray, List.getElem_cons_succ, List.getElem_cons_zero, List.setIfInBounds_toArray, List.set_cons_succ, List.set_cons_zero])
      refine HeadAt.done (by kernel_rfl) ?_
      (try simp only [Act.put, List.drop_succ_cons, List.drop_zero, List.getElem_toArray, List.getElem_cons_succ, List.getElem_cons_zero])
      go_wp2_with fail
      refine NoPanic.normal ?_
      have hsw := Below.size S0
      have k1 := hJ _ _ _ i1 (Cel.of_below S0 (by omega))
      have k2 := i2.below S0
      have k3 := i3.below S0
      have k4 := i4.trans (Below.mono S0 (by omega))
      have k5 : Kc 62 w0.heap.size C W V5 := Kc.of_below S0
      obtain ⟨fn', tm', as', bo', hy', hR'⟩ := hY PR (x, L) #[.agg #[.slice a x.length c, .slice a5 L.length c5]] hrest V5 k1 ⟨a, c, a5, c5, rfl, (hz.below S0).mono (by omega), hz5.mono (by omega)⟩
      rw [← HNX.out, ← HNL.out] at hy'
      have c0 := k3.cell 0 rfl
      have HH := hid (And.intro k2 (And.intro k3 (And.intro k4 k5)))
      clear S0 i1 i2 i3 i4 hz hz5 k1 k2 k3 k4 k5
      gi_wp2_with (refine ⟨rfl, hR'.mono ?_⟩; clear hR'; rintro r W3 ⟨rfl, hj3, hk3⟩)
      gi_wp2
      obtain ⟨k2, k3, k4, k5⟩ := HH.out
      exact ⟨k5.trans hk3, by rw [HPX.out]; exact hj3, hk3.bx k2 hg1 (by decide), hk3.bx k3 hgy (by decide), k4.trans (hk3.below hC0 (by omega))⟩
  case done =>
    rintro W ⟨i1, i2, i3, i4⟩ hD hsz
    rw [← HRD.out] at i1
    have hM := Marks.one hD
    clear hit0 z1 z2 x0 y0 hJ2
    go_wp2_with fail
    refine leaves_marks _ _ hM fun w' hc => ?_
    refine ⟨_, results_none rfl _ _ _, ?_⟩
    exact ⟨⟨_, rfl⟩, hJ _ _ _ i1 (hc.mono (by omega))⟩
end Go.Proofs.Yteianfbdhakhpaa
/-! ask: all readings in a row. -/
namespace Go.Proofs.Yteianfbdhakhpaa
set_option linter.unusedSimpArgs false
set_option linter.unusedVariables false
open Go Go.RowKit

attribute [local go_sem] Oper.semAt_some

theorem own_heap {w w' : World} {base size : Nat} {e : TypeId} {v : Value} {n : Nat} {xs : List Value} (h : w.ownsRow base e size v n xs) (hk : ∀ g, v.ownBlock = some g → w'.heap[g]? = w.heap[g]?) : w'.ownsRow base e size v n xs := by
  refine ⟨h.1, ?_⟩
  rcases h.2 with h' | ⟨g, cap, cur, rfl, h2, h3, h4⟩
  · exact .inl h'
  · exact .inr ⟨g, cap, cur, rfl, h2, (hk g rfl).trans h3, h4⟩
theorem own_cells {w : World} {base size : Nat} {e : TypeId} {v : Value} {n : Nat} {xs : List Value} (h : w.ownsRow base e size v n xs) : ∀ g, v.ownBlock = some g → ∃ cur, w.heap[g]? = some (.cells cur e (0, 0)) := fun g hg => by
  rcases h.2 with ⟨rfl, _⟩ | ⟨g', cap, cur, rfl, h2, h3, h4⟩
  · cases hg
  · have : g' = g := by simpa [Value.ownBlock] using hg
    exact ⟨cur, by rw [← this]; exact h3⟩
theorem own_cel {B : Nat} {w w' : World} {base size : Nat} {e : TypeId} {v : Value} {n : Nat} {xs : List Value} (h : w.ownsRow base e size v n xs) (hc : Cel B w w') : w'.ownsRow base e size v n xs :=
  own_heap h (fun g hg => by obtain ⟨cur, hh⟩ := own_cells h g hg; rw [hc.2 _ _ _ _ hh, hh])
theorem own_base {w : World} {base base' size : Nat} {e : TypeId} {v : Value} {n : Nat} {xs : List Value} (h : w.ownsRow base e size v n xs) (hb : base' ≤ base) : w.ownsRow base' e size v n xs := by
  refine ⟨h.1, ?_⟩
  rcases h.2 with h' | ⟨g, cap, cur, h1, h2, h3⟩
  · exact .inl h'
  · exact .inr ⟨g, cap, cur, h1, by omega, h3⟩
abbrev Rd := List Int × List Int
/-- Values that are the cells of readings. -/
def RvS (B : Nat) (w : World) (vs : List Value) (rs : List Rd) : Prop :=
  vs.length = rs.length * 2 ∧ ∀ (i : Nat) (r : Rd), rs[i]? = some r → ∃ (a1 : Option Addr) (c1 : Nat) (a2 : Option Addr) (c2 : Nat), vs[i * 2]? = some (.slice a1 r.1.length c1) ∧ vs[i * 2 + 1]? = some (.slice a2 r.2.length c2) ∧ Iz B w a1 r.1 ∧ Iz B w a2 r.2
theorem RvS.nil (B : Nat) (w : World) : RvS B w [] [] := ⟨rfl, fun i r h => by simp at h⟩
theorem RvS.map {B B' : Nat} {w w' : World} {vs : List Value} {rs : List Rd} (h : RvS B w vs rs) (hf : ∀ a L, Iz B w a L → Iz B' w' a L) : RvS B' w' vs rs :=
  ⟨h.1, fun i r hi => by
    obtain ⟨a1, c1, a2, c2, h1, h2, h3, h4⟩ := h.2 i r hi
    exact ⟨a1, c1, a2, c2, h1, h2, hf _ _ h3, hf _ _ h4⟩⟩
theorem RvS.snoc {B : Nat} {w : World} {vs : List Value} {rs : List Rd} (h : RvS B w vs rs) {r : Rd} {a1 a2 : Option Addr} {c1 c2 : Nat} (h1 : Iz B w a1 r.1) (h2 : Iz B w a2 r.2) : RvS B w (vs ++ [.slice a1 r.1.length c1, .slice a2 r.2.length c2]) (rs ++ [r]) := by
  refine ⟨by simp [h.1]; omega, fun i q hi => ?_⟩
  rcases Nat.lt_or_ge i rs.length with hl | hl
  · rw [List.getElem?_append_left hl] at hi
    obtain ⟨b1, d1, b2, d2, q1, q2, q3, q4⟩ := h.2 i q hi
    exact ⟨b1, d1, b2, d2, by rw [List.getElem?_append_left (by rw [h.1]; omega)]; exact q1, by rw [List.getElem?_append_left (by rw [h.1]; omega)]; exact q2, q3, q4⟩
  · rw [List.getElem?_append_right hl] at hi
    have h0 : i - rs.length = 0 := by
      rcases hh : i - rs.length with _ | m
      · rfl
      · rw [hh] at hi; simp at hi
    rw [h0] at hi
    simp at hi
    subst hi
    have hil : i = rs.length := by omega
    refine ⟨a1, c1, a2, c2, ?_, ?_, h1, h2⟩
    · rw [List.getElem?_append_right (by rw [h.1]; omega), h.1, hil, Nat.sub_self]; rfl
    · rw [List.getElem?_append_right (by rw [h.1]; omega), h.1, hil, show rs.length * 2 + 1 - rs.length * 2 = 1 by omega]; rfl
theorem two_slices (x y : Value) (h : x.oneCell' = true) (h' : y.oneCell' = true) : ∀ u ∈ [x, y], u.oneCell' = true := fun u hu => by
  rcases List.mem_cons.1 hu with rfl | hu
  · exact h
  · rw [List.mem_singleton.1 hu]; exact h'
theorem info62 : (Try.prog.info? 62).map (fun i => (i.zero, i.size, i.bytes)) = some (some (.agg #[.slice none 0 0, .slice none 0 0]), 2, 48) := by kernel_rfl
theorem under67 : Try.prog.underlying 67 = some (.slice 62) := by kernel_rfl
/-- What ask hands back. -/
def AkP (E : Int) (rs : List Rd) (w : World) (e : Ending) (w' : World) : Prop :=
  Below w.heap.size w w' ∧ ((E ≠ 0 ∧ e = .returned (.tuple #[.slice none 0 0, .int .i64 E])) ∨ (E = 0 ∧ rs = [] ∧ e = .returned (.tuple #[.slice none 0 0, .int .i64 3])) ∨
    (E = 0 ∧ rs ≠ [] ∧ ∃ (a : Option Addr) (c : Nat) (vs : List Value), e = .returned (.tuple #[.slice a rs.length c, .int .i64 0]) ∧ w'.ownsRow w.heap.size 62 2 (.slice a rs.length c) rs.length vs ∧ RvS w.heap.size w' vs rs))

set_option maxRecDepth 100000 in
set_option maxHeartbeats 6000000 in
theorem ask_any (aT : Option Addr) (cT : Nat) (X : Pu) (o : Bool) (w : World) (hX : Ints w aT X.ts) : Calls Try.prog 58 #[.agg #[.int .i64 X.l, .int .i64 X.n, .int .i64 X.pi, .int .i64 X.sl, .int .i64 X.ga, .int .i64 X.pa, .int .i64 X.sp, .slice aT X.ts.length cT], .bool o] w (AkP (chkE X o) (rdL X X.sp.toNat) w) := by
  obtain ⟨i0, hi0, iz0, iz1, iz2⟩ := info_parts info62
  refine calls_of_wp_marks Try.func58 rfl ?_
  simp only [Try.ntmps58, List.size_toArray, List.length_cons, List.length_nil, Nat.reduceAdd, Nat.reduceSub, Array.replicate_succ, Array.replicate_zero, List.push_toArray, List.append_toArray, List.nil_append, List.cons_append]
  obtain ⟨W, hW, hb, hs, x0⟩ := boxes1 w #[.int .i64 X.l, .int .i64 X.n, .int .i64 X.pi, .int .i64 X.sl, .int .i64 X.ga, .int .i64 X.pa, .int .i64 X.sp, .slice aT X.ts.length cT] 24
  have hck := fun V (h : Below w.heap.size w V) => check_any aT cT X o V (hX.below h (Nat.le_refl _))
  obtain ⟨n, hn⟩ : ∃ n, n = X.ts.length := ⟨_, rfl⟩
  have HN := hid hn
  by_cases hE : chkE X o = 0
  rotate_left
  · skip
    obtain ⟨E, hEE⟩ : ∃ E, E = chkE X o := ⟨_, rfl⟩
    rw [← hEE] at hE hck ⊢
    have hE2 : (E != 0) = true := by rw [bne_iff_ne]; exact hE
    have HE := hid hE
    rw [← hn] at x0 hW hck ⊢
    generalize rdL X X.sp.toNat = rs
    clear hn hE hEE HN
    have c0 := x0.cell 0 rfl; have c1 := x0.cell 1 rfl; have c2 := x0.cell 2 rfl; have c3 := x0.cell 3 rfl; have c4 := x0.cell 4 rfl; have c5 := x0.cell 5 rfl; have c6 := x0.cell 6 rfl; have c7 := x0.cell 7 rfl
    go_wp2_with fail
    refine (hck _ hb).mono ?_
    rintro e V1 ⟨rfl, hb1⟩
    replace hb := hb.trans (hb1.mono hb.size)
    clear hb1 hW c0 c1 c2 c3 c4 c5 c6 c7 x0 hck
    go_wp2
    refine leaves_marks (B := w.heap.size) [] _ trivial fun w' hc => ?_
    refine ⟨_, results_tmp2 rfl _ _ _, ?_⟩
    exact ⟨hb.trans hc.1, .inl ⟨HE.out, rfl⟩⟩
  have hvo : vB X = true ∧ o = true := by
    unfold chkE at hE
    cases hv : vB X
    · rw [hv] at hE; simp at hE
    · rw [hv] at hE
      cases o
      · simp at hE
      · exact ⟨rfl, rfl⟩
  obtain ⟨hv, rfl⟩ := hvo
  obtain ⟨ok, hsp, htm⟩ := vB_ok hv
  obtain ⟨h24, hr⟩ := timesB_rng htm
  have hlen := rdL_len X X.sp.toNat h24 (by omega)
  obtain ⟨m, hm⟩ : ∃ m, m = X.sp.toNat := ⟨_, rfl⟩
  have hsm : X.sp = (m : Int) := by omega
  rw [← hm] at hlen ⊢
  rw [hE] at hck ⊢
  rw [hsm] at x0 hW hck ⊢
  have hm3 : m ≤ 3 := by omega
  have hrd := fun V => readings_any aT cT X (m : Int) V
  have hit0 := fun C B h1 h2 g1 g2 h3 V h4 k1 k2 => readings_iter aT cT X ok h24 hr m hm3 w hX C B h1 h2 g1 g2 h3 V h4 k1 k2
  rw [hsm] at hrd hit0
  rw [← hn] at x0 hW hck hrd hit0 ⊢
  obtain ⟨RS, hRS⟩ : ∃ RS, RS = rdL X m := ⟨_, rfl⟩
  rw [← hRS] at hlen hit0 ⊢
  have hee : ((0 : Int) != 0) = false := by simp
  clear hE hv ok hsp htm h24 hr hm hsm hn hRS
  have c0 := x0.cell 0 rfl; have c1 := x0.cell 1 rfl; have c2 := x0.cell 2 rfl; have c3 := x0.cell 3 rfl; have c4 := x0.cell 4 rfl; have c5 := x0.cell 5 rfl; have c6 := x0.cell 6 rfl; have c7 := x0.cell 7 rfl
  go_wp2_with fail
  refine (hck _ hb).mono ?_
  rintro e V1 ⟨rfl, hb1⟩
  clear c0 c1 c2 c3 c4 c5 c6 c7 hck
  replace x0 := x0.below hb1
  have hb2 := hb.trans (hb1.mono hb.size)
  have hs1 := hb1.size
  clear hb1 hW hb
  obtain ⟨V2, hV2⟩ : ∃ V2, V2 = V1.alloc (.cells #[.slice none 0 0] 67) := ⟨_, rfl⟩
  have hba := below_one (w := V1) (.cells #[.slice none 0 0] 67)
  have hfb := Bx.new V1 #[.slice none 0 0] 67
  rw [← hV2] at hba hfb
  have x1 := x0.below hba
  have hb3 := hb2.trans (hba.mono hb2.size)
  have hs2 : V2.heap.size = V1.heap.size + 1 := by rw [hV2]; simp
  have HV2 := hid hV2
  clear hba hV2 x0
  go_upto_region 5 with fail
  rw [← HV2.out]
  obtain ⟨fb, hfb'⟩ : ∃ fb, fb = V1.heap.size := ⟨_, rfl⟩
  rw [← hfb'] at hfb hs1 hs2 ⊢
  have hfw : w.heap.size ≤ fb := by rw [hfb']; exact hb2.size
  clear hfb' HV2 hb2
  have c0 := x1.cell 0 rfl; have c1 := x1.cell 1 rfl; have c2 := x1.cell 2 rfl; have c3 := x1.cell 3 rfl; have c4 := x1.cell 4 rfl; have c5 := x1.cell 5 rfl; have c6 := x1.cell 6 rfl; have c7 := x1.cell 7 rfl
  go_wp2_with fail
  refine (hrd _).mono ?_
  rintro e V3 ⟨rfl, z1, z2, hb4⟩
  clear c0 c1 c2 c3 c4 c5 c6 c7 hrd x1
  replace hfb := hfb.below hb4
  replace hb3 := hb3.trans (hb4.mono hb3.size)
  have hs3 := hb4.size
  have hz2 := z2.lt
  clear hb4
  go_wp2_with fail

  rw [hs2] at z1 z2 hs3
  have hV3 : fb + 1 + 1 < V3.heap.size := by omega
  have hfl := hfb.lt
  have hw3 := hb3.size
  refine wp_rangeFuncF (α := Rd) (gf := 81) (bd := #[]) (lb := #[.pointer (some ⟨fb + 1, 0, none⟩), .pointer (some ⟨fb + 1 + 1, 0, none⟩)]) (E := ER) (xs := RS) 62 w.heap.size (fun k => k = fb) (fun k h => by omega) rfl (enters_of Try.func81 (by kernel_rfl) rfl) (fun x vs W hE => by obtain ⟨a1, c1, a2, c2, rfl, _⟩ := hE; rfl)
    (hit0 _ _ (fun k h => by rcases h with h | h | h <;> omega) (fun k h => by rcases h with h | h | h <;> omega) (fb + 1) (fb + 1 + 1) (fun h => by rcases h with h | h | h <;> omega) V3 hb3 z1 z2)
    (fun pre W => (∃ (a : Option Addr) (c : Nat) (vs : List Value), Bx W fb #[.slice a pre.length c] 67 ∧ W.ownsRow V3.heap.size 62 2 (.slice a pre.length c) pre.length vs ∧ RvS (V3.heap.size + 2) W vs pre) ∧ Below w.heap.size w W) ?hI ?h0
    (fun x a' W => ∃ (a1 : Option Addr) (c1 : Nat) (a2 : Option Addr) (c2 : Nat) (rb : Nat), Bx W rb #[.slice a1 x.1.length c1, .slice a2 x.2.length c2] 62 ∧ V3.heap.size + 2 ≤ rb ∧ Iz (V3.heap.size + 2) W a1 x.1 ∧ Iz (V3.heap.size + 2) W a2 x.2 ∧ a' = { tmps := #[.agg #[.int .i64 X.l, .int .i64 X.n, .int .i64 X.pi, .int .i64 X.sl, .int .i64 X.ga, .int .i64 X.pa, .int .i64 (m : Int), .slice aT n cT], .bool true, .pointer (some ⟨w.heap.size, 0, none⟩), undef, .slice none 0 0, .int .i64 0, .int .i64 0, .pointer (some ⟨fb, 0, none⟩), .pointer (some ⟨rb, 0, none⟩), .agg #[.int .i64 X.l, .int .i64 X.n, .int .i64 X.pi, .int .i64 X.sl, .int .i64 X.ga, .int .i64 X.pa, .int .i64 (m : Int), .slice aT n cT], .bool true, .int .i64 0, .int .i64 0, .bool false, undef, .agg #[.int .i64 X.l, .int .i64 X.n, .int .i64 X.pi, .int .i64 X.sl, .int .i64 X.ga, .int .i64 X.pa, .int .i64 (m : Int), .slice aT n cT], .pointer (some ⟨w.heap.size, 6, none⟩), .int .i64 (m : Int), .func (.func 81) #[] #[.pointer (some ⟨fb + 1, 0, none⟩), .pointer (some ⟨fb + 1 + 1, 0, none⟩)], .agg #[.slice a1 x.1.length c1, .slice a2 x.2.length c2], undef, undef, undef, undef, undef, undef, undef, undef], defers := [] }) ?hAx ?assign ?body ?done
  case hI =>
    rintro pre W W' ⟨⟨a, c, vs, i1, i2, i3⟩, i4⟩ hs'
    exact ⟨⟨a, c, vs, hs'.bx i1, own_cel i2 hs', i3.map (fun a L h => h.cel hs')⟩, i4.trans (hs'.1.mono (by omega))⟩
  case h0 => exact ⟨⟨none, 0, [], hfb, World.ownsRow_nil _ _ _ _, RvS.nil _ _⟩, hb3⟩
  case hAx =>
    rintro x a' W W' ⟨a1, c1, a2, c2, rb, k1, k2, k3, k4, k5⟩ hs'
    exact ⟨a1, c1, a2, c2, rb, hs'.bx k1, k2, k3.cel hs', k4.cel hs', k5⟩
  case assign =>
    rintro l' pre x vs W K hx ⟨⟨a, c, vs', i1, i2, i3⟩, i4⟩ ⟨a1, c1, a2, c2, rfl, hE1, hE2⟩ hsz hK
    have hba := below_one (w := W) (.cells #[.slice a1 x.1.length c1, .slice a2 x.2.length c2] 62)
    have HK := hid (hK)
    have HH := hid (And.intro (Kc.of_below (T := 62) (n0 := w.heap.size) (C := fun k => k = fb) hba) (And.intro (i1.below hba) (And.intro (own_below2 i2 hba) (And.intro (i3.map (fun a L h => h.below hba)) (And.intro (i4.trans (hba.mono (by omega))) (And.intro (Bx.new W #[.slice a1 x.1.length c1, .slice a2 x.2.length c2] 62) (And.intro (hE1.below hba) (hE2.below hba))))))))
    clear hK hba i1 i2 i3 i4 hE1 hE2 hit0 z1 z2 hfb
    refine wpIn_region_plain rfl ?_
    go_wp2_with fail
    obtain ⟨q1, q2, q3, q4, q5, q6, q7, q8⟩ := HH.out
    exact HK.out _ _ q1 ⟨⟨a, c, vs', q2, q3, q4⟩, q5⟩ ⟨a1, c1, a2, c2, W.heap.size, q6, hsz, q7, q8, rfl⟩
  case body =>
    rintro l' pre x a' W ⟨rest, hx⟩ ⟨⟨a, c, vs, i1, i2, i3⟩, i4⟩ ⟨a1, c1, a2, c2, rb, k1, k2, k3, k4, rfl⟩ hsz
    have hp : pre.length ≤ 15625 := by rw [hx] at hlen; simp at hlen; omega
    obtain ⟨p, hpp⟩ : ∃ p, p = pre.length := ⟨_, rfl⟩
    rw [← hpp] at hp i1 i2
    have HP := hid hpp
    obtain ⟨n1, hn1⟩ : ∃ n1, n1 = x.1.length := ⟨_, rfl⟩
    obtain ⟨n2, hn2⟩ : ∃ n2, n2 = x.2.length := ⟨_, rfl⟩
    rw [← hn1, ← hn2] at k1
    rw [← hn1, ← hn2]
    have HN1 := hid hn1; have HN2 := hid hn2
    have v0 := i1.cell 0 rfl
    have u0 := k1.cell 0 rfl
    have u1 := k1.cell 1 rfl
    have hba := below_one (w := W) (.cells #[.slice a1 n1 c1, .slice a2 n2 c2] 62)
    have j1 := i1.below hba
    have j2 := own_below2 i2 hba
    have hcls := Cls.of_bx (Bx.new W #[.slice a1 n1 c1, .slice a2 n2 c2] 62)
    have hkc : Kc 62 w.heap.size (fun k => k = fb) W (W.alloc (.cells #[.slice a1 n1 c1, .slice a2 n2 c2] 62)) := Kc.of_below hba
    have hsa : (W.alloc (.cells #[.slice a1 n1 c1, .slice a2 n2 c2] 62)).heap.size = W.heap.size + 1 := by simp
    have hge := own_ge2 j2
    have hoc := own_cells j2
    have HI3 := hid i3; have HI4 := hid i4; have HK3 := hid k3; have HK4 := hid k4
    clear hx hpp hn1 hn2 i1 i2 i3 i4 k1 k3 k4 hba hit0 z1 z2 hfb
    refine wpIn_block ?_
    refine wpIn_region_plain rfl ?_
    go_wp2_with (at_builtin; go_loud (refine wpList_app rfl (.tmp 20) (.tmp 22) 67 rfl V3.heap.size 62 i0 (.agg #[.slice none 0 0, .slice none 0 0]) 2 48 under67 hi0 iz0 iz1 iz2 rfl (by decide) (.slice a p c) p vs rfl j2 (some ⟨W.heap.size, 0, none⟩) 1 1 [.slice a1 n1 c1, .slice a2 n2 c2] rfl rfl hcls (two_slices _ _ rfl rfl) (by unfold maxLen; omega) (by omega) (by simp; omega) ?_); intro v3 W3 hrow3 hg3; obtain ⟨a3, c3, rfl⟩ := own_slice2 hrow3; have j3 : Bx W3 fb #[.slice a p c] 67 := (by have hh := hg3.block fb (by simp; omega) (fun e => by have := hge fb e.symm; omega); unfold Bx at *; rw [hh]; exact j1); have v3c := j3.cell 0 rfl; have v3f := j3.free 0)
    have hge3 := own_ge2 hrow3
    have hk2 := (hkc.trans (Kc.grown (C := fun k => k = fb) (n0 := w.heap.size) (T := 62) hg3 (fun k e => .inr ⟨by have := hge k e; omega, by obtain ⟨cur, hh⟩ := hoc k e; exact ⟨cur, _, hh⟩⟩))).trans (Kc.set (n0 := w.heap.size) (T := 62) (C := fun k => k = fb) (p := ⟨fb, 0, none⟩) rfl (.slice a3 (p + 1) c3))
    have hown4 : (W3.setCell ⟨fb, 0, none⟩ (.slice a3 (p + 1) c3)).ownsRow V3.heap.size 62 2 (.slice a3 (p + 1) c3) (p + 1) (vs ++ [.slice a1 n1 c1, .slice a2 n2 c2]) := own_heap hrow3 (fun g hg => Below.heap_setCell _ _ _ _ (by have := hge3 g hg; show g ≠ fb; omega))
    have j4 : Bx (W3.setCell ⟨fb, 0, none⟩ (.slice a3 (p + 1) c3)) fb #[.slice a3 (p + 1) c3] 67 := by have := j3.set 0 (.slice a3 (p + 1) c3); simpa using this
    have hiz : ∀ a L, Iz (V3.heap.size + 2) W a L → Iz (V3.heap.size + 2) (W3.setCell ⟨fb, 0, none⟩ (.slice a3 (p + 1) c3)) a L := fun a L h => h.kc (by decide) hk2 (fun k e => by omega)
    have hRv := (HI3.out.map hiz).snoc (r := x) (a1 := a1) (c1 := c1) (a2 := a2) (c2 := c2) (hiz _ _ HK3.out) (hiz _ _ HK4.out)
    rw [← HN1.out, ← HN2.out] at hRv
    have hl : (pre ++ [x]).length = p + 1 := by rw [List.length_append, HP.out]; rfl
    have HF := hid (show (∃ (a : Option Addr) (c : Nat) (vs : List Value), Bx (W3.setCell ⟨fb, 0, none⟩ (.slice a3 (p + 1) c3)) fb #[.slice a (pre ++ [x]).length c] 67 ∧ (W3.setCell ⟨fb, 0, none⟩ (.slice a3 (p + 1) c3)).ownsRow V3.heap.size 62 2 (.slice a (pre ++ [x]).length c) (pre ++ [x]).length vs ∧ RvS (V3.heap.size + 2) (W3.setCell ⟨fb, 0, none⟩ (.slice a3 (p + 1) c3)) vs (pre ++ [x])) ∧ Below w.heap.size w (W3.setCell ⟨fb, 0, none⟩ (.slice a3 (p + 1) c3)) from by
      rw [hl]
      exact ⟨⟨a3, c3, _, j4, hown4, hRv⟩, HI4.out.trans (hk2.below (fun k e => by omega) (by omega))⟩)
    have HK2 := hid hk2
    clear hl hRv hiz j4 hown4 hk2 hge3 hoc hge hcls j1 j2 hrow3 hg3
    go_wp2
    obtain ⟨⟨a', c', vs', g1, g2, g3⟩, g4⟩ := HF.out
    exact ⟨HK2.out, ⟨a', c', by simpa using g1, vs', by simpa using g2, g3⟩, g4⟩
  case done =>
    rintro W ⟨⟨a, c, vs, i1, i2, i3⟩, i4⟩ hD hsz
    have hM := Marks.one hD
    have v0 := i1.cell 0 rfl
    obtain ⟨N, hN⟩ : ∃ N, N = RS.length := ⟨_, rfl⟩
    rw [← hN] at v0 i2 hlen
    have HNN := hid hN
    clear i1 hit0 z1 z2 hfb hN
    by_cases hN0 : N = 0
    · have hEQ : ((N : Int) == 0) = true := by simp [hN0]
      have HR := hid (show RS = [] from List.eq_nil_of_length_eq_zero (by rw [← HNN.out]; exact hN0))
      clear hN0
      go_wp2_with fail
      refine leaves_marks _ _ hM fun w' hc => ?_
      refine ⟨_, results_tmp2 rfl _ _ _, ?_⟩
      exact ⟨i4.trans (hc.1.mono (by omega)), .inr (.inl ⟨rfl, HR.out, rfl⟩)⟩
    · have hEQ : ((N : Int) == 0) = false := by rw [beq_eq_false_iff_ne]; omega
      have HR := hid (show RS ≠ [] from fun h => hN0 (by rw [HNN.out, h]; rfl))
      clear hN0
      go_wp2_with fail
      refine leaves_marks _ _ hM fun w' hc => ?_
      refine ⟨_, results_tmp2 rfl _ _ _, ?_⟩
      refine ⟨i4.trans (hc.1.mono (by omega)), .inr (.inr ⟨rfl, HR.out, a, c, vs, ?_, ?_, ?_⟩)⟩
      · rw [← HNN.out]; rfl
      · rw [← HNN.out]; exact own_base (own_cel i2 hc) (by omega)
      · exact i3.map (fun a L h => (h.cel hc).mono (by omega))
end Go.Proofs.Yteianfbdhakhpaa
/-! Readings that are asked about; counts of them. -/
namespace Go.Proofs.Yteianfbdhakhpaa
set_option linter.unusedSimpArgs false
set_option linter.unusedVariables false
open Go Go.RowKit

/-- The error of ask. -/
def erO (E : Int) (rs : List Rd) : Int := if E ≠ 0 then E else if rs = [] then 3 else 0
/-- A slice that reads as readings. -/
def Rds (B : Nat) (w : World) (a : Option Addr) (rs : List Rd) : Prop := ∀ (i : Nat) (r : Rd), rs[i]? = some r → ∃ (b off : Nat) (a1 : Option Addr) (c1 : Nat) (a2 : Option Addr) (c2 : Nat), a = some ⟨b, off, none⟩ ∧ b < w.heap.size ∧
  w.cell? ⟨b, off + i * 2, none⟩ = some (.slice a1 r.1.length c1) ∧ w.cell? ⟨b, off + i * 2 + 1, none⟩ = some (.slice a2 r.2.length c2) ∧ Iz B w a1 r.1 ∧ Iz B w a2 r.2
theorem Rds.below {B : Nat} {w w' : World} {a : Option Addr} {rs : List Rd} (h : Rds B w a rs) (hb : Below w.heap.size w w') : Rds B w' a rs := fun i r hi => by
  obtain ⟨b, off, a1, c1, a2, c2, h1, h2, h3, h4, h5, h6⟩ := h i r hi
  have hs := hb.size
  exact ⟨b, off, a1, c1, a2, c2, h1, by omega, by rw [hb.cell (p := ⟨b, off + i * 2, none⟩) h2]; exact h3, by rw [hb.cell (p := ⟨b, off + i * 2 + 1, none⟩) h2]; exact h4, h5.below hb, h6.below hb⟩
theorem Rds.of {B base : Nat} {w : World} {a : Option Addr} {c : Nat} {vs : List Value} {rs : List Rd} (h : w.ownsRow base 62 2 (.slice a rs.length c) rs.length vs) (hv : RvS B w vs rs) : Rds B w a rs := fun i r hi => by
  have hlt : i < rs.length := (List.getElem?_eq_some_iff.1 hi).1
  obtain ⟨a1, c1, a2, c2, q1, q2, q3, q4⟩ := hv.2 i r hi
  obtain ⟨g, cap, e⟩ := Go.Joins.ownsRow_form h (by omega)
  simp only [Value.slice.injEq] at e
  obtain ⟨rfl, _, rfl⟩ := e
  have e1 := World.ownsRow.cellAt h (i * 2) (by omega)
  have e2 := World.ownsRow.cellAt h (i * 2 + 1) (by omega)
  exact ⟨g, 0, a1, c1, a2, c2, rfl, (h.lt g rfl).2, by rw [Nat.zero_add, e1]; exact q1, by rw [Nat.zero_add, e2]; exact q2, q3, q4⟩
/-- ask with an error, and without. -/
theorem ask_bad (aT : Option Addr) (cT : Nat) (X : Pu) (o : Bool) (w : World) (hX : Ints w aT X.ts) (h : erO (chkE X o) (rdL X X.sp.toNat) ≠ 0) : Calls Try.prog 58 #[.agg #[.int .i64 X.l, .int .i64 X.n, .int .i64 X.pi, .int .i64 X.sl, .int .i64 X.ga, .int .i64 X.pa, .int .i64 X.sp, .slice aT X.ts.length cT], .bool o] w fun e w' => e = .returned (.tuple #[.slice none 0 0, .int .i64 (erO (chkE X o) (rdL X X.sp.toNat))]) ∧ Below w.heap.size w w' :=
  (ask_any aT cT X o w hX).mono fun e w' hh => by
    obtain ⟨hb, hh⟩ := hh
    unfold erO at h ⊢
    rcases hh with ⟨h1, rfl⟩ | ⟨h1, h2, rfl⟩ | ⟨h1, h2, -⟩
    · rw [if_pos h1]; exact ⟨rfl, hb⟩
    · rw [if_neg (by omega), if_pos h2]; exact ⟨rfl, hb⟩
    · rw [if_neg (by omega), if_neg h2] at h; omega
theorem ask_ok (aT : Option Addr) (cT : Nat) (X : Pu) (o : Bool) (w : World) (hX : Ints w aT X.ts) (h : erO (chkE X o) (rdL X X.sp.toNat) = 0) : Calls Try.prog 58 #[.agg #[.int .i64 X.l, .int .i64 X.n, .int .i64 X.pi, .int .i64 X.sl, .int .i64 X.ga, .int .i64 X.pa, .int .i64 X.sp, .slice aT X.ts.length cT], .bool o] w fun e w' => Below w.heap.size w w' ∧ ∃ (a : Option Addr) (c : Nat) (vs : List Value), e = .returned (.tuple #[.slice a (rdL X X.sp.toNat).length c, .int .i64 0]) ∧ w'.ownsRow w.heap.size 62 2 (.slice a (rdL X X.sp.toNat).length c) (rdL X X.sp.toNat).length vs ∧ RvS w.heap.size w' vs (rdL X X.sp.toNat) :=
  (ask_any aT cT X o w hX).mono fun e w' hh => by
    obtain ⟨hb, hh⟩ := hh
    unfold erO at h
    rcases hh with ⟨h1, rfl⟩ | ⟨h1, h2, rfl⟩ | ⟨h1, h2, h3⟩
    · rw [if_pos h1] at h; omega
    · rw [if_neg (by omega), if_pos h2] at h; omega
    · exact ⟨hb, h3⟩
theorem erO_zero {X : Pu} {o : Bool} (h : erO (chkE X o) (rdL X X.sp.toNat) = 0) : vB X = true ∧ o = true ∧ rdL X X.sp.toNat ≠ [] := by
  unfold erO at h
  by_cases h1 : chkE X o = 0
  · rw [if_neg (by omega)] at h
    by_cases h2 : rdL X X.sp.toNat = []
    · rw [if_pos h2] at h; omega
    · unfold chkE at h1
      cases hv : vB X
      · rw [hv] at h1; simp at h1
      · rw [hv] at h1
        cases o
        · simp at h1
        · exact ⟨rfl, rfl, h2⟩
  · rw [if_pos h1] at h; exact absurd h h1
theorem erO_len {X : Pu} (hv : vB X = true) : (rdL X X.sp.toNat).length ≤ 15625 := by
  obtain ⟨_, h2, h3⟩ := vB_ok hv
  exact rdL_len X _ (timesB_rng h3).1 (by omega)

set_option maxRecDepth 100000 in
set_option maxHeartbeats 2000000 in
theorem sameList_any (a1 b1 a2 b2 : Option Addr) (c1 d1 c2 d2 n1 m1 : Nat) (xs ys : List Int) (w : World) (hA : Ints w a2 xs) (hB : Ints w b2 ys) : Calls Try.prog 64 #[.agg #[.slice a1 n1 c1, .slice a2 xs.length c2], .agg #[.slice b1 m1 d1, .slice b2 ys.length d2]] w fun e w' => e = .returned (.bool (decide (xs = ys))) ∧ Below w.heap.size w w' := by
  obtain ⟨W, hW, hb, _, x0, x1⟩ := boxes2 w #[.slice a1 n1 c1, .slice a2 xs.length c2] 62 #[.slice b1 m1 d1, .slice b2 ys.length d2] 62
  have he := Equal_any a2 b2 c2 d2 xs ys W (hA.below hb (Nat.le_refl _)) (hB.below hb (Nat.le_refl _))
  generalize decide (xs = ys) = r at *
  generalize xs.length = n at *
  generalize ys.length = m at *
  have c0 := x0.cell 0 rfl; have c1 := x0.cell 1 rfl
  have d0 := x1.cell 0 rfl; have d1 := x1.cell 1 rfl
  go_enter Try.func64, Try.ntmps64
  go_wp2_with fail
  refine he.mono ?_
  rintro e W1 ⟨rfl, hb1⟩
  go_wp2
  go_ret
  exact ⟨rfl, hb.trans (hb1.mono hb.size)⟩
/-- Whether two readings have the same list. -/
def slB (r0 r : Rd) : Bool := decide (r.2 = r0.2)
set_option maxRecDepth 100000 in
set_option maxHeartbeats 2000000 in
theorem read1_any (B g : Nat) (a a1 a2 : Option Addr) (c c1 c2 n n1 : Nat) (rs : List Rd) (r0 : Rd) (hn : n = rs.length) (h0 : rs[0]? = some r0) (xs : List Int) (w : World) (hR : Rds B w a rs) (hA : Ints w a2 xs) (x0 : Bx w g #[.slice a n c] 67) : Calls Try.prog 91 #[.agg #[.slice a1 n1 c1, .slice a2 xs.length c2], .pointer (some ⟨g, 0, none⟩)] w fun e w' => e = .returned (.bool (decide (xs = r0.2))) ∧ Below w.heap.size w w' := by
  obtain ⟨b, off, e1, d1, e2, d2, rfl, hbl, q1, q2, i1, i2⟩ := hR 0 r0 h0
  have hpos : 0 < n := by rw [hn]; exact (List.getElem?_eq_some_iff.1 h0).1
  have hnI : (0 : Int) < (n : Int) := by omega
  have hz0 : ¬ n = 0 := by omega
  obtain ⟨W, hW, hb, _, y0⟩ := boxes1 w #[.slice a1 n1 c1, .slice a2 xs.length c2] 62
  have hsl := fun V (h : Below w.heap.size w V) => sameList_any a1 e1 a2 e2 c1 d1 c2 d2 n1 r0.1.length xs r0.2 V (hA.below h (Nat.le_refl _)) (i2.i.below h (Nat.le_refl _))
  have q1' : ClB w b off (.slice e1 r0.1.length d1) := ⟨by simpa using q1, hbl⟩
  have q2' : ClB w b (off + 1) (.slice e2 r0.2.length d2) := ⟨by simpa using q2, hbl⟩
  have k1 := q1'.below hb
  have k2 := q2'.below hb
  have x1 := x0.below hb
  generalize decide (xs = r0.2) = rr at *
  generalize xs.length = nx at *
  generalize r0.1.length = m1 at *
  generalize r0.2.length = m2 at *
  clear hn h0 hR hA i1 i2 q1 q2 q1' q2' x0 hpos
  have c0 := y0.cell 0 rfl; have c1 := y0.cell 1 rfl
  go_enter Try.func91, Try.ntmps91
  go_upto_region 1 with fail
  clear c0 c1 hW
  have S0 : BlS W W.drew := (Below.refl W.heap.size W).drew
  refine wp_region_head 5 (fun w' => BlS W w') (by kernel_rfl) rfl ?_
  generalize W.drew = Y0 at *
  refine HeadAt.take (i := 0) (.agg #[.slice a1 n1 c1, .slice a2 nx c2]) rfl (by kernel_rfl) (.inl ⟨rfl, fun w' z => ?_⟩) S0 ?_
  · (have z0 := (y0.below z).cell 0 rfl; have z1 := (y0.below z).cell 1 rfl; simp [go_sem, z0, z1])
  (try simp only [Act.put, List.getElem_toArray, List.getElem_cons_succ, List.getElem_cons_zero, List.setIfInBounds_toArray, List.set_cons_succ, List.set_cons_zero])
  refine HeadAt.take (i := 1) (.slice (some ⟨b, off, none⟩) n c) rfl (by kernel_rfl) (.inl ⟨rfl, fun w' z => ?_⟩) S0 ?_
  · (have z0 := (x1.below z).cell 0 rfl; simp [go_sem, z0])
  (try simp only [Act.put, List.getElem_toArray, List.getElem_cons_succ, List.getElem_cons_zero, List.setIfInBounds_toArray, List.set_cons_succ, List.set_cons_zero])
  refine HeadAt.take (i := 2) (.pointer (some ⟨b, off, none⟩)) rfl (by kernel_rfl) (.inl ⟨rfl, fun w' z => ?_⟩) S0 ?_
  · (simp [go_sem, hnI, hz0])
  (try simp only [Act.put, List.getElem_toArray, List.getElem_cons_succ, List.getElem_cons_zero, List.setIfInBounds_toArray, List.set_cons_succ, List.set_cons_zero])
  refine HeadAt.take (i := 3) (.agg #[.slice e1 m1 d1, .slice e2 m2 d2]) rfl (by kernel_rfl) (.inl ⟨rfl, fun w' z => ?_⟩) S0 ?_
  · (have z0 := (k1.below z).1; have z1 := (k2.below z).1; simp [go_sem, z0, z1])
  (try simp only [Act.put, List.getElem_toArray, List.getElem_cons_succ, List.getElem_cons_zero, List.setIfInBounds_toArray, List.set_cons_succ, List.set_cons_zero])
  refine HeadAt.one (i := 4) rfl (by kernel_rfl) ?_
  generalize hK : Upto _ _ = K0
  (try simp only [Act.put, List.getElem_toArray, List.getElem_cons_succ, List.getElem_cons_zero, List.setIfInBounds_toArray, List.set_cons_succ, List.set_cons_zero])
  go_wp2_with fail
  refine (hsl _ (hb.trans (Below.mono S0 hb.size))).mono ?_
  rintro e V4 ⟨rfl, hb4⟩
  go_wp2_with fail
  replace S0 : BlS W V4 := Below.trans S0 (hb4.mono (Below.size S0))
  clear hb4
  subst hK
  refine ⟨S0, ?_⟩
  (try simp only [Act.put, List.getElem_toArray, List.getElem_cons_succ, List.getElem_cons_zero, List.setIfInBounds_toArray, List.set_cons_succ, List.set_cons_zero])
  refine HeadAt.done (by kernel_rfl) ?_
  (try simp only [Act.put, List.drop_succ_cons, List.drop_zero, List.getElem_toArray, List.getElem_cons_succ, List.getElem_cons_zero])
  go_wp2_with fail
  refine NoPanic.normal ?_
  replace hb := hb.trans (Below.mono S0 hb.size)
  clear S0
  go_wp2
  go_ret
  exact ⟨rfl, hb⟩
set_option maxRecDepth 100000 in
set_option maxHeartbeats 2000000 in
theorem counted1_any (g : Nat) (a1 a2 : Option Addr) (e1 e2 n2 : Nat) (k : Int) (xs : List Int) (w : World) (hA : Ints w a1 xs) (x0 : Bx w g #[.int .i64 k] 3) : Calls Try.prog 93 #[.agg #[.slice a1 xs.length e1, .slice a2 n2 e2], .pointer (some ⟨g, 0, none⟩)] w fun e w' => e = .returned (.bool (inL k xs)) ∧ Below w.heap.size w w' := by
  obtain ⟨W, hW, hb, _, y0⟩ := boxes1 w #[.slice a1 xs.length e1, .slice a2 n2 e2] 62
  have hc := contains_any a1 e1 xs k W (hA.below hb (Nat.le_refl _))
  have x1 := x0.below hb
  generalize inL k xs = rr at *
  generalize xs.length = nx at *
  clear x0
  have c0 := y0.cell 0 rfl; have c1 := y0.cell 1 rfl
  have d0 := x1.cell 0 rfl
  go_enter Try.func93, Try.ntmps93
  go_wp2_with fail
  refine hc.mono ?_
  rintro e V ⟨rfl, rfl⟩
  go_wp2
  go_ret
  exact ⟨rfl, hb⟩
def cntR (f : Rd → Bool) (l : List Rd) : Nat := (l.filter f).length
set_option maxRecDepth 100000 in
set_option maxHeartbeats 3000000 in
theorem count91_any (g : Nat) (B : Nat) (a : Option Addr) (c : Nat) (l : List Rd) (f : Rd → Bool) (w : World) (hl : l.length ≤ 15625) (hI : Rds B w a l) (hf : ∀ V r a1 c1 a2 c2, Below w.heap.size w V → r ∈ l → Ints V a1 r.1 → Ints V a2 r.2 → Calls Try.prog 91 #[.agg #[.slice a1 r.1.length c1, .slice a2 r.2.length c2], .pointer (some ⟨g, 0, none⟩)] V fun e w' => e = .returned (.bool (f r)) ∧ Below V.heap.size V w') : Calls Try.prog 92 #[.slice a l.length c, .func (.func 91) #[] #[.pointer (some ⟨g, 0, none⟩)]] w fun e w' => e = .returned (.int .i64 (cntR f l)) ∧ Below w.heap.size w w' := by
  have hle : cntR f l ≤ l.length := List.length_filter_le _ _
  have HK := hid (show ∀ k x, l[k]? = some x → cntR f (l.take (k + 1)) = cntR f (l.take k) + if f x = true then 1 else 0 from fun k x h => by
    unfold cntR; rw [List.take_add_one, h, List.filter_append, List.length_append]
    cases hx : f x <;> simp [hx])
  have HLE := hid (show ∀ k, cntR f (l.take k) ≤ k from fun k => Nat.le_trans (List.length_filter_le _ _) (by rw [List.length_take]; omega))
  obtain ⟨R, hR⟩ : ∃ R, R = cntR f l := ⟨_, rfl⟩
  rw [← hR] at hle ⊢
  have HR := hid hR
  obtain ⟨n, hn⟩ : ∃ n, n = l.length := ⟨_, rfl⟩
  rw [← hn] at hl hle ⊢
  have HN := hid hn
  have HF := hid hf
  clear hn hR hf
  go_enter Try.func92, Try.ntmps92
  go_wp2
  go_loopw [5, 7, 10] (fun v5 v7 v10 wr => ∃ k q : Nat, k ≤ n ∧ v10 = .int .i64 (k : Int) ∧ v5 = .int .i64 (q : Int) ∧ Hid (q = cntR f (l.take k)) ∧ Below w.heap.size w wr) (fun _ _ v10 _ => n - (intOf v10).toNat)
  case atStart => exact ⟨0, 0, Nat.zero_le _, rfl, rfl, hid rfl, Below.refl _ _⟩
  case round =>
    obtain ⟨k, q, hk, rfl, rfl, HQ, hb⟩ := hrel
    by_cases hlt : k < n
    · obtain ⟨x, hx⟩ : ∃ x, l[k]? = some x := ⟨l[k]'(by rw [← HN.out]; exact hlt), List.getElem?_eq_getElem _⟩
      obtain ⟨b, off, a1, c1, a2, c2, rfl, hbl, q1, q2, i1, i2⟩ := (hI.below hb) k x hx
      have hkI : (k : Int) < n := by omega
      have hk0 : (0 : Int) ≤ (k : Int) := by omega
      have hq1 : q ≤ k := by rw [HQ.out]; exact HLE.out k
      have hba := below_one (w := wr) (.cells #[.slice a1 x.1.length c1, .slice a2 x.2.length c2] 62)
      have hcall := HF.out (wr.alloc (.cells #[.slice a1 x.1.length c1, .slice a2 x.2.length c2] 62)) x a1 c1 a2 c2 (hb.trans (hba.mono hb.size)) (List.mem_of_getElem? hx) (i1.i.below hba (Nat.le_refl _)) (i2.i.below hba (Nat.le_refl _))
      have hs := HK.out k x hx
      rw [← HQ.out] at hs
      have hb2 := hb.trans (hba.mono hb.size)
      generalize hfx : f x = fx at *
      generalize x.1.length = n1 at *
      generalize x.2.length = n2 at *
      clear hx hfx hba i1 i2
      cases fx with
      | true =>
        have HS := hid (show q + 1 = cntR f (l.take (k + 1)) by rw [hs]; rfl)
        clear hs
        go_wp2_with fail
        refine hcall.mono ?_
        rintro e V1 ⟨rfl, hb1⟩
        replace hb2 := hb2.trans (hb1.mono hb2.size)
        clear hb1 hcall q1 q2
        go_wp2
        go_roundw
        case rel => exact ⟨k + 1, q + 1, by omega, by go_num, by go_num, HS, hb2⟩
        case measure => simp [intOf]; omega
      | false =>
        have HS := hid (show q = cntR f (l.take (k + 1)) by rw [hs]; rfl)
        clear hs
        go_wp2_with fail
        refine hcall.mono ?_
        rintro e V1 ⟨rfl, hb1⟩
        replace hb2 := hb2.trans (hb1.mono hb2.size)
        clear hb1 hcall q1 q2
        go_wp2
        go_roundw
        case rel => exact ⟨k + 1, q, by omega, by go_num, rfl, HS, hb2⟩
        case measure => simp [intOf]; omega
    · have hkn : k = n := by omega
      have hq := HQ.out
      rw [List.take_of_length_le (by rw [hkn, HN.out]; exact Nat.le_refl _), ← HR.out] at hq
      have HQ2 := hid hq
      clear hq HQ
      go_wp2
      go_ret
      exact ⟨ret_int (by rw [HQ2.out]), hb⟩
set_option maxRecDepth 100000 in
set_option maxHeartbeats 3000000 in
theorem count93_any (g : Nat) (B : Nat) (a : Option Addr) (c : Nat) (l : List Rd) (f : Rd → Bool) (w : World) (hl : l.length ≤ 15625) (hI : Rds B w a l) (hf : ∀ V r a1 c1 a2 c2, Below w.heap.size w V → r ∈ l → Ints V a1 r.1 → Ints V a2 r.2 → Calls Try.prog 93 #[.agg #[.slice a1 r.1.length c1, .slice a2 r.2.length c2], .pointer (some ⟨g, 0, none⟩)] V fun e w' => e = .returned (.bool (f r)) ∧ Below V.heap.size V w') : Calls Try.prog 92 #[.slice a l.length c, .func (.func 93) #[] #[.pointer (some ⟨g, 0, none⟩)]] w fun e w' => e = .returned (.int .i64 (cntR f l)) ∧ Below w.heap.size w w' := by
  have hle : cntR f l ≤ l.length := List.length_filter_le _ _
  have HK := hid (show ∀ k x, l[k]? = some x → cntR f (l.take (k + 1)) = cntR f (l.take k) + if f x = true then 1 else 0 from fun k x h => by
    unfold cntR; rw [List.take_add_one, h, List.filter_append, List.length_append]
    cases hx : f x <;> simp [hx])
  have HLE := hid (show ∀ k, cntR f (l.take k) ≤ k from fun k => Nat.le_trans (List.length_filter_le _ _) (by rw [List.length_take]; omega))
  obtain ⟨R, hR⟩ : ∃ R, R = cntR f l := ⟨_, rfl⟩
  rw [← hR] at hle ⊢
  have HR := hid hR
  obtain ⟨n, hn⟩ : ∃ n, n = l.length := ⟨_, rfl⟩
  rw [← hn] at hl hle ⊢
  have HN := hid hn
  have HF := hid hf
  clear hn hR hf
  go_enter Try.func92, Try.ntmps92
  go_wp2
  go_loopw [5, 7, 10] (fun v5 v7 v10 wr => ∃ k q : Nat, k ≤ n ∧ v10 = .int .i64 (k : Int) ∧ v5 = .int .i64 (q : Int) ∧ Hid (q = cntR f (l.take k)) ∧ Below w.heap.size w wr) (fun _ _ v10 _ => n - (intOf v10).toNat)
  case atStart => exact ⟨0, 0, Nat.zero_le _, rfl, rfl, hid rfl, Below.refl _ _⟩
  case round =>
    obtain ⟨k, q, hk, rfl, rfl, HQ, hb⟩ := hrel
    by_cases hlt : k < n
    · obtain ⟨x, hx⟩ : ∃ x, l[k]? = some x := ⟨l[k]'(by rw [← HN.out]; exact hlt), List.getElem?_eq_getElem _⟩
      obtain ⟨b, off, a1, c1, a2, c2, rfl, hbl, q1, q2, i1, i2⟩ := (hI.below hb) k x hx
      have hkI : (k : Int) < n := by omega
      have hk0 : (0 : Int) ≤ (k : Int) := by omega
      have hq1 : q ≤ k := by rw [HQ.out]; exact HLE.out k
      have hba := below_one (w := wr) (.cells #[.slice a1 x.1.length c1, .slice a2 x.2.length c2] 62)
      have hcall := HF.out (wr.alloc (.cells #[.slice a1 x.1.length c1, .slice a2 x.2.length c2] 62)) x a1 c1 a2 c2 (hb.trans (hba.mono hb.size)) (List.mem_of_getElem? hx) (i1.i.below hba (Nat.le_refl _)) (i2.i.below hba (Nat.le_refl _))
      have hs := HK.out k x hx
      rw [← HQ.out] at hs
      have hb2 := hb.trans (hba.mono hb.size)
      generalize hfx : f x = fx at *
      generalize x.1.length = n1 at *
      generalize x.2.length = n2 at *
      clear hx hfx hba i1 i2
      cases fx with
      | true =>
        have HS := hid (show q + 1 = cntR f (l.take (k + 1)) by rw [hs]; rfl)
        clear hs
        go_wp2_with fail
        refine hcall.mono ?_
        rintro e V1 ⟨rfl, hb1⟩
        replace hb2 := hb2.trans (hb1.mono hb2.size)
        clear hb1 hcall q1 q2
        go_wp2
        go_roundw
        case rel => exact ⟨k + 1, q + 1, by omega, by go_num, by go_num, HS, hb2⟩
        case measure => simp [intOf]; omega
      | false =>
        have HS := hid (show q = cntR f (l.take (k + 1)) by rw [hs]; rfl)
        clear hs
        go_wp2_with fail
        refine hcall.mono ?_
        rintro e V1 ⟨rfl, hb1⟩
        replace hb2 := hb2.trans (hb1.mono hb2.size)
        clear hb1 hcall q1 q2
        go_wp2
        go_roundw
        case rel => exact ⟨k + 1, q, by omega, by go_num, rfl, HS, hb2⟩
        case measure => simp [intOf]; omega
    · have hkn : k = n := by omega
      have hq := HQ.out
      rw [List.take_of_length_le (by rw [hkn, HN.out]; exact Nat.le_refl _), ← HR.out] at hq
      have HQ2 := hid hq
      clear hq HQ
      go_wp2
      go_ret
      exact ⟨ret_int (by rw [HQ2.out]), hb⟩
set_option maxRecDepth 100000 in
set_option maxHeartbeats 2000000 in
theorem all91_any (B g : Nat) (a : Option Addr) (c : Nat) (rs : List Rd) (r0 : Rd) (h0 : rs[0]? = some r0) (w : World) (hl : rs.length ≤ 15625) (hR : Rds B w a rs) (x0 : Bx w g #[.slice a rs.length c] 67) : Calls Try.prog 90 #[.slice a rs.length c, .func (.func 91) #[] #[.pointer (some ⟨g, 0, none⟩)]] w fun e w' => e = .returned (.bool (decide (cntR (slB r0) rs = rs.length))) ∧ Below w.heap.size w w' := by
  have hc := count91_any g B a c rs (slB r0) w hl hR (fun V r a1 c1 a2 c2 hb _ hi1 hi2 => read1_any B g a a1 a2 c c1 c2 rs.length r.1.length rs r0 rfl h0 r.2 V (hR.below hb) hi2 (x0.below hb))
  generalize cntR (slB r0) rs = q at *
  obtain ⟨n, hn⟩ : ∃ n, n = rs.length := ⟨_, rfl⟩
  rw [← hn] at hc ⊢
  clear hn h0 hR x0
  have HE := hid (show ((q : Int) == (n : Int)) = decide (q = n) by
    by_cases h : q = n
    · simp [h]
    · rw [decide_eq_false h, beq_eq_false_iff_ne]; omega)
  go_enter Try.func90, Try.ntmps90
  go_wp2_with fail
  refine hc.mono ?_
  rintro e V1 ⟨rfl, hb1⟩
  go_wp2
  go_ret
  exact ⟨ret_bool (by first | exact HE.out | (rw [← HE.out])), hb1⟩
end Go.Proofs.Yteianfbdhakhpaa
/-! Many, Read, Fewest. -/
namespace Go.Proofs.Yteianfbdhakhpaa
set_option linter.unusedSimpArgs false
set_option linter.unusedVariables false
open Go Go.RowKit

attribute [local go_sem] Oper.semAt_some

/-- All readings of a train. -/
def RS (X : Pu) : List Rd := rdL X X.sp.toNat
def erX (X : Pu) (o : Bool) : Int := erO (chkE X o) (RS X)
def manN (X : Pu) : Nat := if erX X true = 0 then (RS X).length else 0
set_option maxRecDepth 100000 in
set_option maxHeartbeats 2000000 in
theorem Many_any (aT : Option Addr) (cT : Nat) (X : Pu) (w : World) (hX : Ints w aT X.ts) : Calls Try.prog 24 #[.agg #[.int .i64 X.l, .int .i64 X.n, .int .i64 X.pi, .int .i64 X.sl, .int .i64 X.ga, .int .i64 X.pa, .int .i64 X.sp, .slice aT X.ts.length cT]] w fun e w' => e = .returned (.tuple #[.int .i64 (manN X), .int .i64 (erX X true)]) ∧ Below w.heap.size w w' := by
  obtain ⟨W, hW, hb, _, x0⟩ := boxes1 w #[.int .i64 X.l, .int .i64 X.n, .int .i64 X.pi, .int .i64 X.sl, .int .i64 X.ga, .int .i64 X.pa, .int .i64 X.sp, .slice aT X.ts.length cT] 24
  have hk1 := ask_bad aT cT X true W (hX.below hb (Nat.le_refl _))
  have hk2 := ask_ok aT cT X true W (hX.below hb (Nat.le_refl _))
  have e1 : erO (chkE X true) (rdL X X.sp.toNat) = erX X true := rfl
  have e2 : rdL X X.sp.toNat = RS X := rfl
  rw [e1] at hk1 hk2
  rw [e2] at hk2
  have HM := hid (show manN X = if erX X true = 0 then (RS X).length else 0 from rfl)
  generalize manN X = M at *
  generalize erX X true = er at *
  generalize (RS X).length = N at *
  generalize X.ts.length = n at *
  clear hX e1 e2
  have c0 := x0.cell 0 rfl; have c1 := x0.cell 1 rfl; have c2 := x0.cell 2 rfl; have c3 := x0.cell 3 rfl; have c4 := x0.cell 4 rfl; have c5 := x0.cell 5 rfl; have c6 := x0.cell 6 rfl; have c7 := x0.cell 7 rfl
  by_cases he : er = 0
  · have hc := hk2 he
    have HR := hid (show M = N by rw [HM.out, if_pos he])
    have HE := hid he
    clear hk1 hk2 HM he
    go_enter Try.func24, Try.ntmps24
    go_wp2_with fail
    refine hc.mono ?_
    rintro e V ⟨hb1, a, c, vs, rfl, -⟩
    replace hb := hb.trans (hb1.mono hb.size)
    clear hb1 hc hW c0 c1 c2 c3 c4 c5 c6 c7 x0
    go_wp2
    go_ret2
    exact ⟨by rw [HR.out, HE.out]; rfl, hb⟩
  · have hc := hk1 he
    have HR := hid (show M = 0 by rw [HM.out, if_neg he])
    clear hk1 hk2 HM he
    go_enter Try.func24, Try.ntmps24
    go_wp2_with fail
    refine hc.mono ?_
    rintro e V ⟨rfl, hb1⟩
    replace hb := hb.trans (hb1.mono hb.size)
    clear hb1 hc hW c0 c1 c2 c3 c4 c5 c6 c7 x0
    go_wp2
    go_ret2
    exact ⟨by rw [HR.out]; rfl, hb⟩

def sameB (rs : List Rd) : Bool := match rs with | [] => true | r0 :: _ => decide (cntR (slB r0) rs = rs.length)
/-- The error of read, and the list that it hands back. -/
def rdE (X : Pu) (o : Bool) : Int := if erX X o = 0 then (if sameB (RS X) = true then 0 else 2) else erX X o
def rdLi (X : Pu) (o : Bool) : List Int := if rdE X o = 0 then ((RS X).headD ([], [])).2 else []
def ReP (E : Int) (L : List Int) (w : World) (e : Ending) (w' : World) : Prop := Below w.heap.size w w' ∧ ∃ (a : Option Addr) (c : Nat), e = .returned (.tuple #[.slice a L.length c, .int .i64 E]) ∧ Iz w.heap.size w' a L
set_option maxRecDepth 100000 in
set_option maxHeartbeats 4000000 in
theorem read_any (aT : Option Addr) (cT : Nat) (X : Pu) (o : Bool) (w : World) (hX : Ints w aT X.ts) : Calls Try.prog 65 #[.agg #[.int .i64 X.l, .int .i64 X.n, .int .i64 X.pi, .int .i64 X.sl, .int .i64 X.ga, .int .i64 X.pa, .int .i64 X.sp, .slice aT X.ts.length cT], .bool o] w (ReP (rdE X o) (rdLi X o) w) := by
  obtain ⟨W, hW, hb, _, x0⟩ := boxes1 w #[.int .i64 X.l, .int .i64 X.n, .int .i64 X.pi, .int .i64 X.sl, .int .i64 X.ga, .int .i64 X.pa, .int .i64 X.sp, .slice aT X.ts.length cT] 24
  have hk1 := ask_bad aT cT X o W (hX.below hb (Nat.le_refl _))
  have hk2 := ask_ok aT cT X o W (hX.below hb (Nat.le_refl _))
  have hz := fun h => erO_zero (X := X) (o := o) h
  have hln := fun h => erO_len (X := X) h
  have e1 : erO (chkE X o) (rdL X X.sp.toNat) = erX X o := rfl
  have e2 : rdL X X.sp.toNat = RS X := rfl
  rw [e1] at hk1 hk2 hz
  rw [e2] at hk2 hz hln
  have HE := hid (show rdE X o = if erX X o = 0 then (if sameB (RS X) = true then 0 else 2) else erX X o from rfl)
  have HL := hid (show rdLi X o = if rdE X o = 0 then ((RS X).headD ([], [])).2 else [] from rfl)
  generalize rdE X o = E at *
  generalize rdLi X o = L at *
  generalize erX X o = er at *
  generalize X.ts.length = n at *
  by_cases he : er = 0
  rotate_left
  · skip
    have hc := hk1 he
    have HR := hid (show E = er by rw [HE.out, if_neg he])
    have HR2 := hid (show L = [] by rw [HL.out, HR.out, if_neg he])
    have hne : (er != 0) = true := by rw [bne_iff_ne]; exact he
    clear hk1 hk2 HE HL he hz hln e1 e2
    have c0 := x0.cell 0 rfl; have c1 := x0.cell 1 rfl; have c2 := x0.cell 2 rfl; have c3 := x0.cell 3 rfl; have c4 := x0.cell 4 rfl; have c5 := x0.cell 5 rfl; have c6 := x0.cell 6 rfl; have c7 := x0.cell 7 rfl
    go_enter Try.func65, Try.ntmps65
    go_wp2_with fail
    refine hc.mono ?_
    rintro e V ⟨rfl, hb1⟩
    replace hb := hb.trans (hb1.mono hb.size)
    clear hb1 hc hW c0 c1 c2 c3 c4 c5 c6 c7 x0
    have hba := hb.trans ((below_one (w := V) (.cells #[.slice none 0 0] 67)).mono hb.size)
    clear hb
    go_wp2
    go_ret2
    exact ⟨hba, none, 0, by rw [HR.out, HR2.out]; rfl, by rw [HR2.out]; exact Iz.none_ _ _⟩
  obtain ⟨hv, -, hne⟩ := hz he
  have hl := hln hv
  have hc := hk2 he
  obtain ⟨r0, rest, hrs⟩ : ∃ r0 rest, RS X = r0 :: rest := by
    rcases hh : RS X with _ | ⟨r0, rest⟩
    · exact absurd hh hne
    · exact ⟨r0, rest, rfl⟩
  have h0 : (RS X)[0]? = some r0 := by rw [hrs]; rfl
  have hsb : sameB (RS X) = decide (cntR (slB r0) (RS X) = (RS X).length) := by rw [hrs]; rfl
  have hhd : ((RS X).headD ([], [])).2 = r0.2 := by rw [hrs]; rfl
  have HE2 := hid (show E = if sameB (RS X) = true then 0 else 2 by rw [HE.out, if_pos he])
  rw [hsb] at HE2
  rw [hhd] at HL
  have hal := fun (B g : Nat) a c V (hR : Rds B V a (RS X)) x0 => all91_any B g a c (RS X) r0 h0 V hl hR x0
  generalize decide (cntR (slB r0) (RS X) = (RS X).length) = sm at *
  have hpos : 0 < (RS X).length := by rw [hrs]; simp
  have H0 := hid h0
  obtain ⟨N, hN⟩ : ∃ N, N = (RS X).length := ⟨_, rfl⟩
  rw [← hN] at hc hal hpos
  have HN := hid hN
  have hNI : (0 : Int) < (N : Int) := by omega
  have hz0 : ¬ N = 0 := by omega
  have hee : ((0 : Int) != 0) = false := by simp
  have hbw := hb.size
  clear hk1 hk2 HE he hz hln e1 e2 hv hne hrs h0 hsb hhd hN hX hl
  have c0 := x0.cell 0 rfl; have c1 := x0.cell 1 rfl; have c2 := x0.cell 2 rfl; have c3 := x0.cell 3 rfl; have c4 := x0.cell 4 rfl; have c5 := x0.cell 5 rfl; have c6 := x0.cell 6 rfl; have c7 := x0.cell 7 rfl
  cases sm with
  | false =>
    have HE3 := hid (show E = 2 by rw [HE2.out]; rfl)
    have HL3 := hid (show L = [] by rw [HL.out, HE3.out]; rfl)
    clear HE2 HL
    go_enter Try.func65, Try.ntmps65
    go_wp2_with fail
    refine hc.mono ?_
    rintro e V ⟨hb1, a, c, vs, rfl, hown, hrv⟩
    replace hb := hb.trans (hb1.mono hb.size)
    have hR := (Rds.of (by rw [← HN.out]; exact hown) hrv).below (below_one (w := V) (.cells #[.slice a N c] 67))
    have y0 := Bx.new V #[.slice a N c] 67
    have hba := hb.trans ((below_one (w := V) (.cells #[.slice a N c] 67)).mono hb.size)
    have hall := hal _ _ a c _ hR y0
    clear hb1 hc hW c0 c1 c2 c3 c4 c5 c6 c7 x0 hb hown hrv hal
    have HY := hid (And.intro hR (And.intro y0 hba))
    have yc := y0.cell 0 rfl
    clear hR y0 hba
    go_wp2_with fail
    refine hall.mono ?_
    rintro e V2 ⟨rfl, hb2⟩
    obtain ⟨hR, y0, hba⟩ := HY.out
    replace hR := hR.below hb2
    replace y0 := y0.below hb2
    replace hba := hba.trans (hb2.mono hba.size)
    clear hall hb2 HY yc
    clear hR y0
    go_wp2
    go_ret2
    exact ⟨hba, none, 0, by rw [HE3.out, HL3.out]; rfl, by rw [HL3.out]; exact Iz.none_ _ _⟩
  | true =>
    have HE3 := hid (show E = 0 by rw [HE2.out]; rfl)
    have HL3 := hid (show L = r0.2 by rw [HL.out, HE3.out]; rfl)
    clear HE2 HL
    go_enter Try.func65, Try.ntmps65
    go_wp2_with fail
    refine hc.mono ?_
    rintro e V ⟨hb1, a, c, vs, rfl, hown, hrv⟩
    replace hb := hb.trans (hb1.mono hb.size)
    have hR := (Rds.of (by rw [← HN.out]; exact hown) hrv).below (below_one (w := V) (.cells #[.slice a N c] 67))
    have y0 := Bx.new V #[.slice a N c] 67
    have hba := hb.trans ((below_one (w := V) (.cells #[.slice a N c] 67)).mono hb.size)
    have hall := hal _ _ a c _ hR y0
    clear hb1 hc hW c0 c1 c2 c3 c4 c5 c6 c7 x0 hb hown hrv hal
    have HY := hid (And.intro hR (And.intro y0 hba))
    have yc := y0.cell 0 rfl
    clear hR y0 hba
    go_wp2_with fail
    refine hall.mono ?_
    rintro e V2 ⟨rfl, hb2⟩
    obtain ⟨hR, y0, hba⟩ := HY.out
    replace hR := hR.below hb2
    replace y0 := y0.below hb2
    replace hba := hba.trans (hb2.mono hba.size)
    clear hall hb2 HY yc
    obtain ⟨b, off, a1, c1, a2, c2, rfl, hbl, q1, q2, i1, i2⟩ := hR 0 r0 H0.out
    have q2' : V2.cell? ⟨b, off + 1, none⟩ = some (.slice a2 r0.2.length c2) := by simpa using q2
    have yc := y0.cell 0 rfl
    have HI2 := hid i2
    obtain ⟨m2, hm2⟩ : ∃ m2, m2 = r0.2.length := ⟨_, rfl⟩
    rw [← hm2] at q2'
    have HM2 := hid hm2
    clear hR y0 q1 q2 i1 i2 hm2
    go_wp2
    go_ret2
    exact ⟨hba, a2, c2, by rw [HE3.out, HL3.out, HM2.out]; rfl, by rw [HL3.out]; exact HI2.out.mono (by omega)⟩
set_option maxRecDepth 100000 in
set_option maxHeartbeats 4000000 in
theorem Read_any (aT : Option Addr) (cT : Nat) (X : Pu) (w : World) (hX : Ints w aT X.ts) : Calls Try.prog 28 #[.agg #[.int .i64 X.l, .int .i64 X.n, .int .i64 X.pi, .int .i64 X.sl, .int .i64 X.ga, .int .i64 X.pa, .int .i64 X.sp, .slice aT X.ts.length cT]] w (ReP (rdE X true) (rdLi X true) w) := by
  obtain ⟨W, hW, hb, _, x0⟩ := boxes1 w #[.int .i64 X.l, .int .i64 X.n, .int .i64 X.pi, .int .i64 X.sl, .int .i64 X.ga, .int .i64 X.pa, .int .i64 X.sp, .slice aT X.ts.length cT] 24
  have hc := read_any aT cT X true W (hX.below hb (Nat.le_refl _))
  generalize rdE X true = E at *
  generalize rdLi X true = L at *
  generalize X.ts.length = n at *
  have hs := hb.size
  clear hX
  have c0 := x0.cell 0 rfl; have c1 := x0.cell 1 rfl; have c2 := x0.cell 2 rfl; have c3 := x0.cell 3 rfl; have c4 := x0.cell 4 rfl; have c5 := x0.cell 5 rfl; have c6 := x0.cell 6 rfl; have c7 := x0.cell 7 rfl
  go_enter Try.func28, Try.ntmps28
  go_wp2_with fail
  refine hc.mono ?_
  rintro e V ⟨hb1, a, c, rfl, hz⟩
  replace hb := hb.trans (hb1.mono hb.size)
  have HZ := hid hz
  obtain ⟨m, hm⟩ : ∃ m, m = L.length := ⟨_, rfl⟩
  rw [← hm]
  have HM := hid hm
  clear hb1 hc hW c0 c1 c2 c3 c4 c5 c6 c7 x0 hz hm
  go_wp2
  go_ret2
  exact ⟨hb, a, c, by rw [HM.out]; rfl, HZ.out.mono (by omega)⟩
end Go.Proofs.Yteianfbdhakhpaa
