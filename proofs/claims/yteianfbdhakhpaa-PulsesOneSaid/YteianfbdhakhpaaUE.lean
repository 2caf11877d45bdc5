import Derived.Test.YteianfbdhakhpaaM8
import Derived.Test.YteianfbdhakhpaaUA
import Derived.Test.YteianfbdhakhpaaTI
/-! The law of one more pulse. -/
namespace Go.Proofs.Yteianfbdhakhpaa
set_option linter.unusedSimpArgs false
set_option linter.unusedVariables false
open Go Go.RowKit

/-- The times so far, with the new one or without it. -/
def OneI (ts : List Int) (t : Int) (k : Nat) (put : Bool) (C : List Int) : Prop :=
  (put = false ∧ C = ts.take k) ∨ (put = true ∧ ∃ i, i ≤ k ∧ C = ts.take i ++ t :: (ts.take k).drop i)
theorem OneI.put {ts : List Int} {t : Int} {k : Nat} {C : List Int} (h : OneI ts t k false C) : OneI ts t k true (C ++ [t]) := by
  rcases h with ⟨_, rfl⟩ | ⟨h, _⟩
  · refine .inr ⟨rfl, k, Nat.le_refl _, ?_⟩
    rw [List.drop_eq_nil_iff.2 (by simp; omega)]
  · cases h
theorem OneI.next {ts : List Int} {t : Int} {k : Nat} {put : Bool} {C : List Int} {y : Int} (h : OneI ts t k put C) (hy : ts[k]? = some y) : OneI ts t (k + 1) put (C ++ [y]) := by
  have hl := (List.getElem?_eq_some_iff.1 hy).1
  have e : ts.take (k + 1) = ts.take k ++ [y] := by rw [List.take_add_one, hy]; rfl
  rcases h with ⟨h1, rfl⟩ | ⟨h1, i, hi, rfl⟩
  · exact .inl ⟨h1, e.symm⟩
  · refine .inr ⟨h1, i, by omega, ?_⟩
    rw [e, List.drop_append_of_le_length (by simp; omega)]
    simp
theorem OneI.done {ts : List Int} {t : Int} {n : Nat} {C : List Int} (h : OneI ts t n true C) (hn : n = ts.length) : ∃ A B, ts = A ++ B ∧ C = A ++ t :: B := by
  rcases h with ⟨h, _⟩ | ⟨_, i, hi, rfl⟩
  · cases h
  · refine ⟨ts.take i, ts.drop i, (List.take_append_drop i ts).symm, ?_⟩
    rw [hn, List.take_length]
/-- What the statement compares. -/
theorem one_law {X : Pu} (hv : vB X = true) {t : Int} {C : List Int} (h : ∃ A B, X.ts = A ++ B ∧ C = A ++ t :: B) (hvY : vB (X.wt C) = true) :
    ((fewE X = 0 ∧ fewN X ≤ 3) ∨ (fewE X = 3 ∧ fewN X = 0)) ∧ ((fewE (X.wt C) = 0 ∧ fewN (X.wt C) ≤ 3) ∨ (fewE (X.wt C) = 3 ∧ fewN (X.wt C) = 0)) ∧ (fewE X = 0 → fewN X ≠ 3 → fewE (X.wt C) = 0 ∧ fewN (X.wt C) ≤ fewN X + 1) := by
  obtain ⟨A, B, h1, rfl⟩ := h
  have a := fewE_cases hv
  have b := fewE_cases hvY
  have c := one_more (X := X) (t := t) h1
  refine ⟨by rcases a with a | a <;> omega, by rcases b with b | b <;> omega, fun h2 h3 => ?_⟩
  rcases a with a | a
  · have := c (by omega)
    rcases b with b | b <;> omega
  · omega
set_option maxRecDepth 100000 in
set_option maxHeartbeats 4000000 in
theorem PulsesOne_any (aT : Option Addr) (cT : Nat) (X : Pu) (t : Int) (w : World) (hX : Ints w aT X.ts) (ht : -9223372036854775808 ≤ t ∧ t ≤ 9223372036854775807) : Calls Try.prog 10 #[.agg #[.int .i64 X.l, .int .i64 X.n, .int .i64 X.pi, .int .i64 X.sl, .int .i64 X.ga, .int .i64 X.pa, .int .i64 X.sp, .slice aT X.ts.length cT], .int .i64 t] w fun e w' => e = .returned (.bool true) ∧ Below w.heap.size w w' := by
  obtain ⟨j0, hj0, jz0, jz1, jz2⟩ := info_parts info3i
  obtain ⟨W, hW, hb, _, x0⟩ := boxes1 w #[.int .i64 X.l, .int .i64 X.n, .int .i64 X.pi, .int .i64 X.sl, .int .i64 X.ga, .int .i64 X.pa, .int .i64 X.sp, .slice aT X.ts.length cT] 24
  replace hX := hX.below hb (Nat.le_refl _)
  have hrd := fun V h => ready_any aT cT X V h
  have hin := fun V h => In_any aT cT X.ts t V h
  have hfe := fun V h => Fewest_any aT cT X V h
  have hcp := fun V h h1 => Copy_any aT cT X V h h1
  have hwk := fun V => works_any V
  have hrdY : ∀ aQ cQ C V, Ints V aQ C → Calls Try.prog 38 #[.agg #[.int .i64 X.l, .int .i64 X.n, .int .i64 X.pi, .int .i64 X.sl, .int .i64 X.ga, .int .i64 X.pa, .int .i64 X.sp, .slice aQ C.length cQ]] V _ := fun aQ cQ C V h => ready_any aQ cQ (X.wt C) V h
  have hfeY : ∀ aQ cQ C V, Ints V aQ C → Calls Try.prog 22 #[.agg #[.int .i64 X.l, .int .i64 X.n, .int .i64 X.pi, .int .i64 X.sl, .int .i64 X.ga, .int .i64 X.pa, .int .i64 X.sp, .slice aQ C.length cQ]] V _ := fun aQ cQ C V h => Fewest_any aQ cQ (X.wt C) V h
  have HRD := hid (show rdyB X = true → _ from rdyB_ok)
  have HRY := hid (show ∀ C, rdyB (X.wt C) = true → _ from fun C => rdyB_ok (X := X.wt C))
  have HONE := hid (show vB X = true → ∀ C, (∃ A B, X.ts = A ++ B ∧ C = A ++ t :: B) → vB (X.wt C) = true → _ from fun hv C h hvY => one_law hv h hvY)
  have HRG := hid hX.2.1
  have HT := hid ht
  unfold CpP at hcp
  generalize rdyB X = rd at *
  generalize vB X = vb at *
  generalize fewE X = FE at *
  generalize fewN X = FN at *
  generalize inL t X.ts = tin at *
  generalize hnn : X.ts.length = n at *
  have HNN := hid hnn.symm
  clear hnn
  generalize hts : X.ts = ts at *
  clear hts ht
  go_enter Try.func10, Try.ntmps10
  have c0 := x0.cell 0 rfl; have c1 := x0.cell 1 rfl; have c2 := x0.cell 2 rfl; have c3 := x0.cell 3 rfl; have c4 := x0.cell 4 rfl; have c5 := x0.cell 5 rfl; have c6 := x0.cell 6 rfl; have c7 := x0.cell 7 rfl
  go_wp2_with fail
  refine (hrd _ hX).mono ?_
  rintro e Vc1 ⟨rfl, hb1⟩
  clear c0 c1 c2 c3 c4 c5 c6 c7
  replace x0 := x0.below hb1
  replace hX := hX.below hb1 (Nat.le_refl _)
  replace hb := hb.trans (hb1.mono hb.size)
  clear hb1 hrd hW
  have c0 := x0.cell 0 rfl; have c1 := x0.cell 1 rfl; have c2 := x0.cell 2 rfl; have c3 := x0.cell 3 rfl; have c4 := x0.cell 4 rfl; have c5 := x0.cell 5 rfl; have c6 := x0.cell 6 rfl; have c7 := x0.cell 7 rfl
  cases rd with
  | false =>
    go_wp2_with fail
    refine (hwk _).mono ?_
    rintro e Vw ⟨rfl, hbw9⟩
    clear c0 c1 c2 c3 c4 c5 c6 c7
    replace hb := hb.trans (hbw9.mono hb.size)
    go_wp2
    go_ret
    exact ⟨rfl, hb⟩
  | true =>
    have HV := hid (HRD.out rfl).1
    have HL14 := hid (HRD.out rfl).2
    clear HRD
    go_wp2_with fail
    refine (hin _ hX).mono ?_
    rintro e Vc3 ⟨rfl, rfl⟩
    clear hin
    cases tin with
    | true =>
      go_wp2_with fail
      refine (hwk _).mono ?_
      rintro e Vw ⟨rfl, hbw9⟩
      clear c0 c1 c2 c3 c4 c5 c6 c7
      replace hb := hb.trans (hbw9.mono hb.size)
      go_wp2
      go_ret
      exact ⟨rfl, hb⟩
    | false =>
      go_wp2_with fail
      refine (hcp _ hX (by have := HL14.out; omega)).mono ?_
      rintro e Vq ⟨hb1, aQ, cQ, rfl, hQ⟩
      clear hQ
      clear c0 c1 c2 c3 c4 c5 c6 c7
      replace x0 := x0.below hb1
      replace hX := hX.below hb1 (Nat.le_refl _)
      replace hb := hb.trans (hb1.mono hb.size)
      clear hb1 hcp
      have HX0L2 := hid x0.lt
      have HX0q := hid x0
      have c0 := x0.cell 0 rfl; have c1 := x0.cell 1 rfl; have c2 := x0.cell 2 rfl; have c3 := x0.cell 3 rfl; have c4 := x0.cell 4 rfl; have c5 := x0.cell 5 rfl; have c6 := x0.cell 6 rfl; have c7 := x0.cell 7 rfl
      have H_hv := hid hX
      clear hX
      have hba := below_one (w := Vq) (.cells #[.int .i64 X.l, .int .i64 X.n, .int .i64 X.pi, .int .i64 X.sl, .int .i64 X.ga, .int .i64 X.pa, .int .i64 X.sp, .slice aQ n cQ] 24)
      have HXa := hid (And.intro (x0.below hba) (And.intro (hb.trans (hba.mono hb.size)) (And.intro (Bx.new Vq #[.int .i64 X.l, .int .i64 X.n, .int .i64 X.pi, .int .i64 X.sl, .int .i64 X.ga, .int .i64 X.pa, .int .i64 X.sp, .slice aQ n cQ] 24) (And.intro hba hb.size))))
      clear hba hb x0
      go_upto_region 4 with fail
      clear c0 c1 c2 c3 c4 c5 c6 c7
      obtain ⟨x0, hb, x5, hv, hwz_x5⟩ := HXa.out
      clear HXa
      obtain ⟨sa_x5, hsa⟩ : ∃ q, q = Vq.heap.size := ⟨_, rfl⟩
      have HS_x5 := hid hsa
      rw [← hsa] at x5 hv hwz_x5 ⊢
      clear hsa
      generalize World.alloc _ _ = Va_x5 at *
      have HW_x5 := hid hwz_x5
      clear hwz_x5
      have c0 := x0.cell 0 rfl; have c1 := x0.cell 1 rfl; have c2 := x0.cell 2 rfl; have c3 := x0.cell 3 rfl; have c4 := x0.cell 4 rfl; have c5 := x0.cell 5 rfl; have c6 := x0.cell 6 rfl; have c7 := x0.cell 7 rfl
      have HX05 := hid (show w.heap.size < sa_x5 by rw [HS_x5.out]; exact HX0L2.out)
      have d0 := x5.cell 0 rfl; have d1 := x5.cell 1 rfl; have d2 := x5.cell 2 rfl; have d3 := x5.cell 3 rfl; have d4 := x5.cell 4 rfl; have d5 := x5.cell 5 rfl; have d6 := x5.cell 6 rfl; have d7 := x5.cell 7 rfl
      have HXs := hid (And.intro (x0.other (a := ⟨sa_x5, 7, none⟩) (by show _ ≠ sa_x5; exact Nat.ne_of_lt HX05.out) (.slice none 0 0)) (And.intro (show Bx _ sa_x5 #[.int .i64 X.l, .int .i64 X.n, .int .i64 X.pi, .int .i64 X.sl, .int .i64 X.ga, .int .i64 X.pa, .int .i64 X.sp, .slice none 0 0] 24 from x5.set 7 (.slice none 0 0)) (And.intro (hv.setCell (p := ⟨sa_x5, 7, none⟩) (Nat.le_refl _) (.slice none 0 0)) (hb.setCell (p := ⟨sa_x5, 7, none⟩) HW_x5.out (.slice none 0 0)))))
      have f0 := x5.free 0; have f1 := x5.free 1; have f2 := x5.free 2; have f3 := x5.free 3; have f4 := x5.free 4; have f5 := x5.free 5; have f6 := x5.free 6; have f7 := x5.free 7
      clear hb x0 x5 hv
      go_upto_region 5 with fail
      clear d0 d1 d2 d3 d4 d5 d6 d7
      clear c0 c1 c2 c3 c4 c5 c6 c7
      clear f0 f1 f2 f3 f4 f5 f6 f7
      obtain ⟨x0, x5, hv, hb⟩ := HXs.out
      clear HXs
      generalize World.setCell _ _ _ = Vs_7 at *
      have c0 := x0.cell 0 rfl; have c1 := x0.cell 1 rfl; have c2 := x0.cell 2 rfl; have c3 := x0.cell 3 rfl; have c4 := x0.cell 4 rfl; have c5 := x0.cell 5 rfl; have c6 := x0.cell 6 rfl; have c7 := x0.cell 7 rfl
      clear c0 c1 c2 c3 c4 c5 c6 c7
      clear x0
      have hlt5 := x5.lt
      go_wp2
      go_loopw [6, 7] (fun v6 v7 wr => ∃ (k p : Nat) (put : Bool) (a : Option Addr) (c : Nat) (C : List Int), k ≤ n ∧ v7 = .int .i64 (k : Int) ∧ v6 = .bool put ∧ Hid (OneI ts t k put C ∧ p = C.length ∧ p ≤ k + 1) ∧ wr.ownsRow (sa_x5 + 1) 3 1 (.slice a p c) p (C.map (Value.int .i64)) ∧ Bx wr sa_x5 #[.int .i64 X.l, .int .i64 X.n, .int .i64 X.pi, .int .i64 X.sl, .int .i64 X.ga, .int .i64 X.pa, .int .i64 X.sp, .slice a p c] 24 ∧ Below sa_x5 Vq wr ∧ Below w.heap.size w wr) (fun _ v7 _ => n - (intOf v7).toNat)
      case atStart => exact ⟨0, 0, false, none, 0, [], Nat.zero_le _, rfl, rfl, hid ⟨.inl ⟨rfl, rfl⟩, rfl, by omega⟩, World.ownsRow_nil _ _ _ _, x5, hv, hb⟩
      case round =>
        clear x5 hv hb hlt5
        obtain ⟨k, p, put, a, c, C, hk, rfl, rfl, HI, hown, x5, hv, hb⟩ := hrel
        have hpk := HI.out.2.2
        have hx0 := HX0q.out.below (by rw [← HS_x5.out]; exact hv)
        by_cases hlt : k < n
        · obtain ⟨b, off, y, rfl, hbq, hcq, hy1, hy2, hg, _⟩ := H_hv.out.at (k := k) (by rw [← HNN.out]; exact hlt)
          have hbs : b < sa_x5 := by rw [HS_x5.out]; exact hbq
          have hn14 := HL14.out
          have hkI : (k : Int) < n := by omega
          have hk0 : (0 : Int) ≤ (k : Int) := by omega
          have HGY := hid hg.out
          clear hg hbq
          have hcW := (hv.cell (p := ⟨b, off + k, none⟩) hbs).trans hcq
          have c00 := hx0.cell 0 rfl; have c01 := hx0.cell 1 rfl; have c02 := hx0.cell 2 rfl; have c03 := hx0.cell 3 rfl; have c04 := hx0.cell 4 rfl; have c05 := hx0.cell 5 rfl; have c06 := hx0.cell 6 rfl; have c07 := hx0.cell 7 rfl
          cases put with
          | true =>
            go_upto_region 11 with fail
            clear c00 c01 c02 c03 c04 c05 c06 c07 hcW hx0
            have hx0 := HX0q.out.below (by rw [← HS_x5.out]; exact hv)
            have hcV := (hv.cell (p := ⟨b, off + k, none⟩) hbs).trans hcq
            have hlt5 := x5.lt
            have S0 : Below (sa_x5 + 1) wr wr.drew := (Below.refl _ wr).drew
            have hownD := own_below2 hown (Below.refl wr.heap.size wr).drew
            have hvD := hv.drew
            have hbD := hb.drew
            have hszD : sa_x5 + 1 ≤ wr.drew.heap.size := hlt5
            refine wp_region_head 9 (fun w' => Below (sa_x5 + 1) wr w') (by kernel_rfl) rfl ?_
            generalize wr.drew = Y0 at *
            refine HeadAt.take (i := 0) (.pointer (some ⟨sa_x5, 7, none⟩)) rfl (by kernel_rfl) (.inl ⟨rfl, fun _ _ => by simp [go_sem]⟩) S0 ?_
            (try simp only [Act.put, List.getElem_toArray, List.getElem_cons_succ, List.getElem_cons_zero, List.setIfInBounds_toArray, List.set_cons_succ, List.set_cons_zero])
            refine HeadAt.take (i := 1) (.slice a (p) c) rfl (by kernel_rfl) (.inl ⟨rfl, fun w' z => ?_⟩) S0 ?_
            · (have z0 := (show Bx _ sa_x5 _ 24 from (z.block _ (Nat.lt_succ_self _)).trans x5).cell 7 rfl; simp [go_sem, z0])
            (try simp only [Act.put, List.getElem_toArray, List.getElem_cons_succ, List.getElem_cons_zero, List.setIfInBounds_toArray, List.set_cons_succ, List.set_cons_zero])
            refine HeadAt.take (i := 2) (.pointer (some ⟨w.heap.size, 7, none⟩)) rfl (by kernel_rfl) (.inl ⟨rfl, fun _ _ => by simp [go_sem]⟩) S0 ?_
            (try simp only [Act.put, List.getElem_toArray, List.getElem_cons_succ, List.getElem_cons_zero, List.setIfInBounds_toArray, List.set_cons_succ, List.set_cons_zero])
            refine HeadAt.take (i := 3) (.slice (some ⟨b, off, none⟩) n cT) rfl (by kernel_rfl) (.inl ⟨rfl, fun w' z => ?_⟩) S0 ?_
            · (have z0 := (show Bx _ w.heap.size _ 24 from (z.block _ (show w.heap.size < sa_x5 + 1 by have := HX05.out; omega)).trans hx0).cell 7 rfl; simp [go_sem, z0])
            (try simp only [Act.put, List.getElem_toArray, List.getElem_cons_succ, List.getElem_cons_zero, List.setIfInBounds_toArray, List.set_cons_succ, List.set_cons_zero])
            refine HeadAt.take (i := 4) (.int .i64 (k : Int)) rfl (by kernel_rfl) (.inl ⟨rfl, fun _ _ => by simp [go_sem]⟩) S0 ?_
            (try simp only [Act.put, List.getElem_toArray, List.getElem_cons_succ, List.getElem_cons_zero, List.setIfInBounds_toArray, List.set_cons_succ, List.set_cons_zero])
            refine HeadAt.take (i := 5) (.pointer (some ⟨b, off + k, none⟩)) rfl (by kernel_rfl) (.inl ⟨rfl, fun w' z => ?_⟩) S0 ?_
            · (simp [go_sem, hkI, hk0])
            (try simp only [Act.put, List.getElem_toArray, List.getElem_cons_succ, List.getElem_cons_zero, List.setIfInBounds_toArray, List.set_cons_succ, List.set_cons_zero])
            refine HeadAt.take (i := 6) (.int .i64 y) rfl (by kernel_rfl) (.inl ⟨rfl, fun w' z => ?_⟩) S0 ?_
            · (have z1 := z.cell (p := ⟨b, off + k, none⟩) (show b < sa_x5 + 1 by omega); rw [hcV] at z1; simp [go_sem, z1])
            (try simp only [Act.put, List.getElem_toArray, List.getElem_cons_succ, List.getElem_cons_zero, List.setIfInBounds_toArray, List.set_cons_succ, List.set_cons_zero])
            skip
            refine HeadAt.one (i := 7) rfl (by kernel_rfl) ?_
            generalize hK : Upto _ _ = K0
            (try simp only [Act.put, List.getElem_toArray, List.getElem_cons_succ, List.getElem_cons_zero, List.setIfInBounds_toArray, List.set_cons_succ, List.set_cons_zero])
            have hb1 := below_one (w := Y0) (.cells #[.int .i64 y] 3)
            have HH := hid hb1
            clear hb1
            go_wp2_with fail
            replace S0 : Below (sa_x5 + 1) wr (Y0.alloc (.cells #[.int .i64 y] 3)) := S0.trans (HH.out.mono hszD)
            subst hK
            refine ⟨S0, ?_⟩
            (try simp only [Act.put, List.getElem_toArray, List.getElem_cons_succ, List.getElem_cons_zero, List.setIfInBounds_toArray, List.set_cons_succ, List.set_cons_zero])
            refine HeadAt.one (i := 8) rfl (by kernel_rfl) ?_
            generalize hK : Upto _ _ = K0
            (try simp only [Act.put, List.getElem_toArray, List.getElem_cons_succ, List.getElem_cons_zero, List.setIfInBounds_toArray, List.set_cons_succ, List.set_cons_zero])
            go_wp2_with (at_builtin; go_loud (refine wpList_append_own_at _ rfl _ _ 22 rfl (sa_x5 + 1) 3 j0 (.int .i64 0) 1 8 under22 hj0 jz0 jz1 jz2 rfl (by decide) (.slice a (p) c) (p) _ rfl (hownD.alloc _) ⟨Y0.heap.size, 0, none⟩ 1 1 [.int .i64 y] rfl rfl (cell_one_new _ _ _) (ints_oneCell .i64 [y]) (by unfold maxLen; omega) (by omega) (by simp; omega) ?_); intro v2 W2 hrow2 hg3 _ hat)
            obtain ⟨a8, c8, rfl⟩ := own_slice2 hrow2
            go_wp2_with fail
            replace S0 : Below (sa_x5 + 1) wr W2 := S0.grown hg3 (by simp; omega) (own_ge hownD)
            have hvW := (hvD.trans (HH.out.mono (by omega))).grown hg3 (by simp; omega) (fun q hq => by have := own_ge hownD q hq; omega)
            have hbW := (hbD.trans (HH.out.mono (by have := HX05.out; omega))).grown hg3 (by simp; have := HX05.out; omega) (fun q hq => by have := own_ge hownD q hq; have := HX05.out; omega)
            have hrow3 : W2.ownsRow (sa_x5 + 1) 3 1 (.slice a8 (p + 1) c8) (p + 1) ((C ++ [y]).map (Value.int .i64)) := by simpa using hrow2
            subst hK
            refine ⟨S0, ?_⟩
            clear hat hownD hrow2 hg3 hvD hbD hszD HH
            (try simp only [Act.put, List.getElem_toArray, List.getElem_cons_succ, List.getElem_cons_zero, List.setIfInBounds_toArray, List.set_cons_succ, List.set_cons_zero])
            have x5w : Bx W2 sa_x5 _ 24 := (S0.block _ (Nat.lt_succ_self _)).trans x5
            have e7 := x5w.cell 7 rfl
            have f7 := x5w.free 7
            have hx5n : Bx (W2.setCell ⟨sa_x5, 7, none⟩ (.slice a8 (p + 1) c8)) sa_x5 #[.int .i64 X.l, .int .i64 X.n, .int .i64 X.pi, .int .i64 X.sl, .int .i64 X.ga, .int .i64 X.pa, .int .i64 X.sp, .slice a8 (p + 1) c8] 24 := x5w.set 7 _
            have hrn := own_setne hrow3 ⟨sa_x5, 7, none⟩ (.slice a8 (p + 1) c8) (Nat.lt_succ_self _)
            have hvn := hvW.setCell (p := ⟨sa_x5, 7, none⟩) (Nat.le_refl _) (.slice a8 (p + 1) c8)
            have hbn := hbW.setCell (p := ⟨sa_x5, 7, none⟩) (show w.heap.size ≤ sa_x5 by have := HX05.out; omega) (.slice a8 (p + 1) c8)
            have HN := hid (And.intro hrn (And.intro hx5n (And.intro hvn hbn)))
            clear hrn hx5n hvn hbn hvW hbW hrow3 x5w hown x5 hv hb
            refine HeadAt.done (by kernel_rfl) ?_
            (try simp only [Act.put, List.drop_succ_cons, List.drop_zero, List.getElem_toArray, List.getElem_cons_succ, List.getElem_cons_zero])
            go_wp2_with fail
            refine NoPanic.normal ?_
            clear e7 f7 S0
            go_wp2
            go_roundw
            case rel => exact ⟨k + 1, p + 1, true, a8, c8, C ++ [y], by omega, by go_num, rfl, hid ⟨HI.out.1.next HGY.out, by simp; exact HI.out.2.1, by omega⟩, HN.out⟩
            case measure => simp [intOf]; omega
          | false =>
            have hpk2 : p ≤ k := by
              rcases HI.out.1 with ⟨_, e⟩ | ⟨h, _⟩
              · rw [HI.out.2.1, e]; simp; omega
              · cases h
            by_cases hgt : y > t
            · skip
              have d0 := x5.cell 0 rfl; have d1 := x5.cell 1 rfl; have d2 := x5.cell 2 rfl; have d3 := x5.cell 3 rfl; have d4 := x5.cell 4 rfl; have d5 := x5.cell 5 rfl; have d6 := x5.cell 6 rfl; have d7 := x5.cell 7 rfl
              have hlt5 := x5.lt
              go_upto_region 11 with (at_builtin
                                      go_loud (refine wpList_append_own_at _ rfl _ _ 22 rfl (sa_x5 + 1) 3 j0 (.int .i64 0) 1 8 under22 hj0 jz0 jz1 jz2 rfl (by decide) (.slice a p c) p _ rfl (hown.alloc _) ⟨wr.heap.size, 0, none⟩ 1 1 [.int .i64 t] rfl rfl (cell_one_new _ _ _) (ints_oneCell .i64 [t]) (by unfold maxLen; omega) (by omega) (by simp; omega) ?_)
                                      intro v2 W2 hrow2 hg3 _ hat
                                      obtain ⟨a3, c3, rfl⟩ := own_slice2 hrow2
                                      have x5a := x5.below (below_one (w := wr) (.cells #[.int .i64 t] 3))
                                      have x5b : Bx W2 sa_x5 _ 24 := (hg3.block _ x5a.lt (fun e => by have := own_ge2 hown _ e.symm; omega)).trans x5a
                                      have e7 := x5b.cell 7 rfl
                                      have f7 := x5b.free 7)
              have hba := below_one (w := wr) (.cells #[.int .i64 t] 3)
              have hvW := (hv.trans (hba.mono (by omega))).grown hg3 (by simp; omega) (fun q hq => by have := own_ge hown q hq; omega)
              have hbW := (hb.trans (hba.mono (by have := HX05.out; omega))).grown hg3 (by simp; have := HX05.out; omega) (fun q hq => by have := own_ge hown q hq; have := HX05.out; omega)
              have hrow3 : W2.ownsRow (sa_x5 + 1) 3 1 (.slice a3 (p + 1) c3) (p + 1) ((C ++ [t]).map (Value.int .i64)) := by simpa using hrow2
              have hx5n : Bx (W2.setCell ⟨sa_x5, 7, none⟩ (.slice a3 (p + 1) c3)) sa_x5 #[.int .i64 X.l, .int .i64 X.n, .int .i64 X.pi, .int .i64 X.sl, .int .i64 X.ga, .int .i64 X.pa, .int .i64 X.sp, .slice a3 (p + 1) c3] 24 := x5b.set 7 _
              have hrn := own_setne hrow3 ⟨sa_x5, 7, none⟩ (.slice a3 (p + 1) c3) (Nat.lt_succ_self _)
              have hvn := hvW.setCell (p := ⟨sa_x5, 7, none⟩) (Nat.le_refl _) (.slice a3 (p + 1) c3)
              have hbn := hbW.setCell (p := ⟨sa_x5, 7, none⟩) (show w.heap.size ≤ sa_x5 by have := HX05.out; omega) (.slice a3 (p + 1) c3)
              have HM := hid (And.intro hrn (And.intro hx5n (And.intro hvn hbn)))
              clear hrn hx5n hvn hbn hvW hbW hrow3 hba hat hg3 hrow2 x5a x5b e7 f7 hown x5 hv hb hcW hx0 c00 c01 c02 c03 c04 c05 c06 c07 d0 d1 d2 d3 d4 d5 d6 d7 hlt5
              obtain ⟨hown, x5, hv, hb⟩ := HM.out
              clear HM
              generalize World.setCell _ _ _ = V10 at *
              have hx0 := HX0q.out.below (by rw [← HS_x5.out]; exact hv)
              have hcV := (hv.cell (p := ⟨b, off + k, none⟩) hbs).trans hcq
              have hlt5 := x5.lt
              have S0 : Below (sa_x5 + 1) V10 V10.drew := (Below.refl _ V10).drew
              have hownD := own_below2 hown (Below.refl V10.heap.size V10).drew
              have hvD := hv.drew
              have hbD := hb.drew
              have hszD : sa_x5 + 1 ≤ V10.drew.heap.size := hlt5
              refine wp_region_head 9 (fun w' => Below (sa_x5 + 1) V10 w') (by kernel_rfl) rfl ?_
              generalize V10.drew = Y0 at *
              refine HeadAt.take (i := 0) (.pointer (some ⟨sa_x5, 7, none⟩)) rfl (by kernel_rfl) (.inl ⟨rfl, fun _ _ => by simp [go_sem]⟩) S0 ?_
              (try simp only [Act.put, List.getElem_toArray, List.getElem_cons_succ, List.getElem_cons_zero, List.setIfInBounds_toArray, List.set_cons_succ, List.set_cons_zero])
              refine HeadAt.take (i := 1) (.slice a3 (p + 1) c3) rfl (by kernel_rfl) (.inl ⟨rfl, fun w' z => ?_⟩) S0 ?_
              · (have z0 := (show Bx _ sa_x5 _ 24 from (z.block _ (Nat.lt_succ_self _)).trans x5).cell 7 rfl; simp [go_sem, z0])
              (try simp only [Act.put, List.getElem_toArray, List.getElem_cons_succ, List.getElem_cons_zero, List.setIfInBounds_toArray, List.set_cons_succ, List.set_cons_zero])
              refine HeadAt.take (i := 2) (.pointer (some ⟨w.heap.size, 7, none⟩)) rfl (by kernel_rfl) (.inl ⟨rfl, fun _ _ => by simp [go_sem]⟩) S0 ?_
              (try simp only [Act.put, List.getElem_toArray, List.getElem_cons_succ, List.getElem_cons_zero, List.setIfInBounds_toArray, List.set_cons_succ, List.set_cons_zero])
              refine HeadAt.take (i := 3) (.slice (some ⟨b, off, none⟩) n cT) rfl (by kernel_rfl) (.inl ⟨rfl, fun w' z => ?_⟩) S0 ?_
              · (have z0 := (show Bx _ w.heap.size _ 24 from (z.block _ (show w.heap.size < sa_x5 + 1 by have := HX05.out; omega)).trans hx0).cell 7 rfl; simp [go_sem, z0])
              (try simp only [Act.put, List.getElem_toArray, List.getElem_cons_succ, List.getElem_cons_zero, List.setIfInBounds_toArray, List.set_cons_succ, List.set_cons_zero])
              refine HeadAt.take (i := 4) (.int .i64 (k : Int)) rfl (by kernel_rfl) (.inl ⟨rfl, fun _ _ => by simp [go_sem]⟩) S0 ?_
              (try simp only [Act.put, List.getElem_toArray, List.getElem_cons_succ, List.getElem_cons_zero, List.setIfInBounds_toArray, List.set_cons_succ, List.set_cons_zero])
              refine HeadAt.take (i := 5) (.pointer (some ⟨b, off + k, none⟩)) rfl (by kernel_rfl) (.inl ⟨rfl, fun w' z => ?_⟩) S0 ?_
              · (simp [go_sem, hkI, hk0])
              (try simp only [Act.put, List.getElem_toArray, List.getElem_cons_succ, List.getElem_cons_zero, List.setIfInBounds_toArray, List.set_cons_succ, List.set_cons_zero])
              refine HeadAt.take (i := 6) (.int .i64 y) rfl (by kernel_rfl) (.inl ⟨rfl, fun w' z => ?_⟩) S0 ?_
              · (have z1 := z.cell (p := ⟨b, off + k, none⟩) (show b < sa_x5 + 1 by omega); rw [hcV] at z1; simp [go_sem, z1])
              (try simp only [Act.put, List.getElem_toArray, List.getElem_cons_succ, List.getElem_cons_zero, List.setIfInBounds_toArray, List.set_cons_succ, List.set_cons_zero])
              skip
              refine HeadAt.one (i := 7) rfl (by kernel_rfl) ?_
              generalize hK : Upto _ _ = K0
              (try simp only [Act.put, List.getElem_toArray, List.getElem_cons_succ, List.getElem_cons_zero, List.setIfInBounds_toArray, List.set_cons_succ, List.set_cons_zero])
              have hb1 := below_one (w := Y0) (.cells #[.int .i64 y] 3)
              have HH := hid hb1
              clear hb1
              go_wp2_with fail
              replace S0 : Below (sa_x5 + 1) V10 (Y0.alloc (.cells #[.int .i64 y] 3)) := S0.trans (HH.out.mono hszD)
              subst hK
              refine ⟨S0, ?_⟩
              (try simp only [Act.put, List.getElem_toArray, List.getElem_cons_succ, List.getElem_cons_zero, List.setIfInBounds_toArray, List.set_cons_succ, List.set_cons_zero])
              refine HeadAt.one (i := 8) rfl (by kernel_rfl) ?_
              generalize hK : Upto _ _ = K0
              (try simp only [Act.put, List.getElem_toArray, List.getElem_cons_succ, List.getElem_cons_zero, List.setIfInBounds_toArray, List.set_cons_succ, List.set_cons_zero])
              go_wp2_with (at_builtin; go_loud (refine wpList_append_own_at _ rfl _ _ 22 rfl (sa_x5 + 1) 3 j0 (.int .i64 0) 1 8 under22 hj0 jz0 jz1 jz2 rfl (by decide) (.slice a3 (p + 1) c3) (p + 1) _ rfl (hownD.alloc _) ⟨Y0.heap.size, 0, none⟩ 1 1 [.int .i64 y] rfl rfl (cell_one_new _ _ _) (ints_oneCell .i64 [y]) (by unfold maxLen; omega) (by omega) (by simp; omega) ?_); intro v2 W2 hrow2 hg3 _ hat)
              obtain ⟨a8, c8, rfl⟩ := own_slice2 hrow2
              go_wp2_with fail
              replace S0 : Below (sa_x5 + 1) V10 W2 := S0.grown hg3 (by simp; omega) (own_ge hownD)
              have hvW := (hvD.trans (HH.out.mono (by omega))).grown hg3 (by simp; omega) (fun q hq => by have := own_ge hownD q hq; omega)
              have hbW := (hbD.trans (HH.out.mono (by have := HX05.out; omega))).grown hg3 (by simp; have := HX05.out; omega) (fun q hq => by have := own_ge hownD q hq; have := HX05.out; omega)
              have hrow3 : W2.ownsRow (sa_x5 + 1) 3 1 (.slice a8 (p + 1 + 1) c8) (p + 1 + 1) (((C ++ [t]) ++ [y]).map (Value.int .i64)) := by simpa using hrow2
              subst hK
              refine ⟨S0, ?_⟩
              clear hat hownD hrow2 hg3 hvD hbD hszD HH
              (try simp only [Act.put, List.getElem_toArray, List.getElem_cons_succ, List.getElem_cons_zero, List.setIfInBounds_toArray, List.set_cons_succ, List.set_cons_zero])
              have x5w : Bx W2 sa_x5 _ 24 := (S0.block _ (Nat.lt_succ_self _)).trans x5
              have e7 := x5w.cell 7 rfl
              have f7 := x5w.free 7
              have hx5n : Bx (W2.setCell ⟨sa_x5, 7, none⟩ (.slice a8 (p + 1 + 1) c8)) sa_x5 #[.int .i64 X.l, .int .i64 X.n, .int .i64 X.pi, .int .i64 X.sl, .int .i64 X.ga, .int .i64 X.pa, .int .i64 X.sp, .slice a8 (p + 1 + 1) c8] 24 := x5w.set 7 _
              have hrn := own_setne hrow3 ⟨sa_x5, 7, none⟩ (.slice a8 (p + 1 + 1) c8) (Nat.lt_succ_self _)
              have hvn := hvW.setCell (p := ⟨sa_x5, 7, none⟩) (Nat.le_refl _) (.slice a8 (p + 1 + 1) c8)
              have hbn := hbW.setCell (p := ⟨sa_x5, 7, none⟩) (show w.heap.size ≤ sa_x5 by have := HX05.out; omega) (.slice a8 (p + 1 + 1) c8)
              have HN := hid (And.intro hrn (And.intro hx5n (And.intro hvn hbn)))
              clear hrn hx5n hvn hbn hvW hbW hrow3 x5w hown x5 hv hb
              refine HeadAt.done (by kernel_rfl) ?_
              (try simp only [Act.put, List.drop_succ_cons, List.drop_zero, List.getElem_toArray, List.getElem_cons_succ, List.getElem_cons_zero])
              go_wp2_with fail
              refine NoPanic.normal ?_
              clear e7 f7 S0
              go_wp2
              go_roundw
              case rel => exact ⟨k + 1, p + 1 + 1, true, a8, c8, (C ++ [t]) ++ [y], by omega, by go_num, rfl, hid ⟨HI.out.1.put.next HGY.out, by simp; exact HI.out.2.1, by omega⟩, HN.out⟩
              case measure => simp [intOf]; omega
            · skip
              go_upto_region 11 with fail
              clear c00 c01 c02 c03 c04 c05 c06 c07 hcW hx0
              have hx0 := HX0q.out.below (by rw [← HS_x5.out]; exact hv)
              have hcV := (hv.cell (p := ⟨b, off + k, none⟩) hbs).trans hcq
              have hlt5 := x5.lt
              have S0 : Below (sa_x5 + 1) wr wr.drew := (Below.refl _ wr).drew
              have hownD := own_below2 hown (Below.refl wr.heap.size wr).drew
              have hvD := hv.drew
              have hbD := hb.drew
              have hszD : sa_x5 + 1 ≤ wr.drew.heap.size := hlt5
              refine wp_region_head 9 (fun w' => Below (sa_x5 + 1) wr w') (by kernel_rfl) rfl ?_
              generalize wr.drew = Y0 at *
              refine HeadAt.take (i := 0) (.pointer (some ⟨sa_x5, 7, none⟩)) rfl (by kernel_rfl) (.inl ⟨rfl, fun _ _ => by simp [go_sem]⟩) S0 ?_
              (try simp only [Act.put, List.getElem_toArray, List.getElem_cons_succ, List.getElem_cons_zero, List.setIfInBounds_toArray, List.set_cons_succ, List.set_cons_zero])
              refine HeadAt.take (i := 1) (.slice a (p) c) rfl (by kernel_rfl) (.inl ⟨rfl, fun w' z => ?_⟩) S0 ?_
              · (have z0 := (show Bx _ sa_x5 _ 24 from (z.block _ (Nat.lt_succ_self _)).trans x5).cell 7 rfl; simp [go_sem, z0])
              (try simp only [Act.put, List.getElem_toArray, List.getElem_cons_succ, List.getElem_cons_zero, List.setIfInBounds_toArray, List.set_cons_succ, List.set_cons_zero])
              refine HeadAt.take (i := 2) (.pointer (some ⟨w.heap.size, 7, none⟩)) rfl (by kernel_rfl) (.inl ⟨rfl, fun _ _ => by simp [go_sem]⟩) S0 ?_
              (try simp only [Act.put, List.getElem_toArray, List.getElem_cons_succ, List.getElem_cons_zero, List.setIfInBounds_toArray, List.set_cons_succ, List.set_cons_zero])
              refine HeadAt.take (i := 3) (.slice (some ⟨b, off, none⟩) n cT) rfl (by kernel_rfl) (.inl ⟨rfl, fun w' z => ?_⟩) S0 ?_
              · (have z0 := (show Bx _ w.heap.size _ 24 from (z.block _ (show w.heap.size < sa_x5 + 1 by have := HX05.out; omega)).trans hx0).cell 7 rfl; simp [go_sem, z0])
              (try simp only [Act.put, List.getElem_toArray, List.getElem_cons_succ, List.getElem_cons_zero, List.setIfInBounds_toArray, List.set_cons_succ, List.set_cons_zero])
              refine HeadAt.take (i := 4) (.int .i64 (k : Int)) rfl (by kernel_rfl) (.inl ⟨rfl, fun _ _ => by simp [go_sem]⟩) S0 ?_
              (try simp only [Act.put, List.getElem_toArray, List.getElem_cons_succ, List.getElem_cons_zero, List.setIfInBounds_toArray, List.set_cons_succ, List.set_cons_zero])
              refine HeadAt.take (i := 5) (.pointer (some ⟨b, off + k, none⟩)) rfl (by kernel_rfl) (.inl ⟨rfl, fun w' z => ?_⟩) S0 ?_
              · (simp [go_sem, hkI, hk0])
              (try simp only [Act.put, List.getElem_toArray, List.getElem_cons_succ, List.getElem_cons_zero, List.setIfInBounds_toArray, List.set_cons_succ, List.set_cons_zero])
              refine HeadAt.take (i := 6) (.int .i64 y) rfl (by kernel_rfl) (.inl ⟨rfl, fun w' z => ?_⟩) S0 ?_
              · (have z1 := z.cell (p := ⟨b, off + k, none⟩) (show b < sa_x5 + 1 by omega); rw [hcV] at z1; simp [go_sem, z1])
              (try simp only [Act.put, List.getElem_toArray, List.getElem_cons_succ, List.getElem_cons_zero, List.setIfInBounds_toArray, List.set_cons_succ, List.set_cons_zero])
              skip
              refine HeadAt.one (i := 7) rfl (by kernel_rfl) ?_
              generalize hK : Upto _ _ = K0
              (try simp only [Act.put, List.getElem_toArray, List.getElem_cons_succ, List.getElem_cons_zero, List.setIfInBounds_toArray, List.set_cons_succ, List.set_cons_zero])
              have hb1 := below_one (w := Y0) (.cells #[.int .i64 y] 3)
              have HH := hid hb1
              clear hb1
              go_wp2_with fail
              replace S0 : Below (sa_x5 + 1) wr (Y0.alloc (.cells #[.int .i64 y] 3)) := S0.trans (HH.out.mono hszD)
              subst hK
              refine ⟨S0, ?_⟩
              (try simp only [Act.put, List.getElem_toArray, List.getElem_cons_succ, List.getElem_cons_zero, List.setIfInBounds_toArray, List.set_cons_succ, List.set_cons_zero])
              refine HeadAt.one (i := 8) rfl (by kernel_rfl) ?_
              generalize hK : Upto _ _ = K0
              (try simp only [Act.put, List.getElem_toArray, List.getElem_cons_succ, List.getElem_cons_zero, List.setIfInBounds_toArray, List.set_cons_succ, List.set_cons_zero])
              go_wp2_with (at_builtin; go_loud (refine wpList_append_own_at _ rfl _ _ 22 rfl (sa_x5 + 1) 3 j0 (.int .i64 0) 1 8 under22 hj0 jz0 jz1 jz2 rfl (by decide) (.slice a (p) c) (p) _ rfl (hownD.alloc _) ⟨Y0.heap.size, 0, none⟩ 1 1 [.int .i64 y] rfl rfl (cell_one_new _ _ _) (ints_oneCell .i64 [y]) (by unfold maxLen; omega) (by omega) (by simp; omega) ?_); intro v2 W2 hrow2 hg3 _ hat)
              obtain ⟨a8, c8, rfl⟩ := own_slice2 hrow2
              go_wp2_with fail
              replace S0 : Below (sa_x5 + 1) wr W2 := S0.grown hg3 (by simp; omega) (own_ge hownD)
              have hvW := (hvD.trans (HH.out.mono (by omega))).grown hg3 (by simp; omega) (fun q hq => by have := own_ge hownD q hq; omega)
              have hbW := (hbD.trans (HH.out.mono (by have := HX05.out; omega))).grown hg3 (by simp; have := HX05.out; omega) (fun q hq => by have := own_ge hownD q hq; have := HX05.out; omega)
              have hrow3 : W2.ownsRow (sa_x5 + 1) 3 1 (.slice a8 (p + 1) c8) (p + 1) ((C ++ [y]).map (Value.int .i64)) := by simpa using hrow2
              subst hK
              refine ⟨S0, ?_⟩
              clear hat hownD hrow2 hg3 hvD hbD hszD HH
              (try simp only [Act.put, List.getElem_toArray, List.getElem_cons_succ, List.getElem_cons_zero, List.setIfInBounds_toArray, List.set_cons_succ, List.set_cons_zero])
              have x5w : Bx W2 sa_x5 _ 24 := (S0.block _ (Nat.lt_succ_self _)).trans x5
              have e7 := x5w.cell 7 rfl
              have f7 := x5w.free 7
              have hx5n : Bx (W2.setCell ⟨sa_x5, 7, none⟩ (.slice a8 (p + 1) c8)) sa_x5 #[.int .i64 X.l, .int .i64 X.n, .int .i64 X.pi, .int .i64 X.sl, .int .i64 X.ga, .int .i64 X.pa, .int .i64 X.sp, .slice a8 (p + 1) c8] 24 := x5w.set 7 _
              have hrn := own_setne hrow3 ⟨sa_x5, 7, none⟩ (.slice a8 (p + 1) c8) (Nat.lt_succ_self _)
              have hvn := hvW.setCell (p := ⟨sa_x5, 7, none⟩) (Nat.le_refl _) (.slice a8 (p + 1) c8)
              have hbn := hbW.setCell (p := ⟨sa_x5, 7, none⟩) (show w.heap.size ≤ sa_x5 by have := HX05.out; omega) (.slice a8 (p + 1) c8)
              have HN := hid (And.intro hrn (And.intro hx5n (And.intro hvn hbn)))
              clear hrn hx5n hvn hbn hvW hbW hrow3 x5w hown x5 hv hb
              refine HeadAt.done (by kernel_rfl) ?_
              (try simp only [Act.put, List.drop_succ_cons, List.drop_zero, List.getElem_toArray, List.getElem_cons_succ, List.getElem_cons_zero])
              go_wp2_with fail
              refine NoPanic.normal ?_
              clear e7 f7 S0
              go_wp2
              go_roundw
              case rel => exact ⟨k + 1, p + 1, false, a8, c8, C ++ [y], by omega, by go_num, rfl, hid ⟨HI.out.1.next HGY.out, by simp; exact HI.out.2.1, by omega⟩, HN.out⟩
              case measure => simp [intOf]; omega
        · have hkn : k = n := by omega
          have hkI : ¬ (k : Int) < n := by omega
          have HKN := hid hkn
          clear hkn
          have c00 := hx0.cell 0 rfl; have c01 := hx0.cell 1 rfl; have c02 := hx0.cell 2 rfl; have c03 := hx0.cell 3 rfl; have c04 := hx0.cell 4 rfl; have c05 := hx0.cell 5 rfl; have c06 := hx0.cell 6 rfl; have c07 := hx0.cell 7 rfl
          cases put with
          | true =>
            have hpC := HI.out.2.1
            subst hpC
            go_upto_region 14 with fail
            clear c00 c01 c02 c03 c04 c05 c06 c07 hx0
            have HC := hid (show ∃ A B, ts = A ++ B ∧ C = A ++ t :: B from (HKN.out ▸ HI.out.1).done HNN.out)
            have HRC := hid (show ∀ x ∈ C, -9223372036854775808 ≤ x ∧ x ≤ 9223372036854775807 from fun x hx => by
              obtain ⟨A, B, e1, e2⟩ := HC.out
              rw [e2] at hx
              rcases List.mem_append.1 hx with hx | hx
              · exact HRG.out x (by rw [e1]; exact List.mem_append_left _ hx)
              · rcases List.mem_cons.1 hx with rfl | hx
                · exact HT.out
                · exact HRG.out x (by rw [e1]; exact List.mem_append_right _ hx))
            have HCL := hid (show (C).length ≤ 16 by
              obtain ⟨A, B, e1, e2⟩ := HC.out
              have h1 := HL14.out
              have h2 := HNN.out
              rw [e1] at h2
              rw [e2]
              simp at h2 ⊢
              omega)
            have hz := (own_nw hown rfl (by have := HCL.out; omega) HRC.out).1.i
            have hX := H_hv.out.below hv (by rw [HS_x5.out]; exact Nat.le_refl _)
            have x0 := HX0q.out.below (by rw [← HS_x5.out]; exact hv)
            have hr1 := hrdY a c (C) _ hz
            have hf1 := fun V h => hfeY a c (C) V h
            have hRY := HRY.out (C)
            have hlaw := HONE.out HV.out (C) HC.out
            clear hrdY hfeY HRY HONE hown hv HRC HCL HC
            generalize rdyB (X.wt (C)) = rY at *
            generalize vB (X.wt (C)) = vY at *
            generalize fewE (X.wt (C)) = FEY at *
            generalize fewN (X.wt (C)) = FNY at *
            have HLW := hid hlaw
            have HRYY := hid hRY
            clear hlaw hRY
            generalize (C).length = nC at *
            have d0 := x5.cell 0 rfl; have d1 := x5.cell 1 rfl; have d2 := x5.cell 2 rfl; have d3 := x5.cell 3 rfl; have d4 := x5.cell 4 rfl; have d5 := x5.cell 5 rfl; have d6 := x5.cell 6 rfl; have d7 := x5.cell 7 rfl
            go_wp2_with fail
            refine (hr1).mono ?_
            rintro e Vc231 ⟨rfl, hb1⟩
            clear d0 d1 d2 d3 d4 d5 d6 d7
            replace x5 := x5.below hb1
            replace x0 := x0.below hb1
            replace hX := hX.below hb1 (Nat.le_refl _)
            replace hz := hz.below hb1 (Nat.le_refl _)
            replace hb := hb.trans (hb1.mono hb.size)
            clear hb1 hr1
            have d0 := x5.cell 0 rfl; have d1 := x5.cell 1 rfl; have d2 := x5.cell 2 rfl; have d3 := x5.cell 3 rfl; have d4 := x5.cell 4 rfl; have d5 := x5.cell 5 rfl; have d6 := x5.cell 6 rfl; have d7 := x5.cell 7 rfl
            have c0 := x0.cell 0 rfl; have c1 := x0.cell 1 rfl; have c2 := x0.cell 2 rfl; have c3 := x0.cell 3 rfl; have c4 := x0.cell 4 rfl; have c5 := x0.cell 5 rfl; have c6 := x0.cell 6 rfl; have c7 := x0.cell 7 rfl
            cases rY with
            | false =>
              go_wp2_with fail
              refine (hwk _).mono ?_
              rintro e Vw ⟨rfl, hbw9⟩
              clear d0 d1 d2 d3 d4 d5 d6 d7
              clear c0 c1 c2 c3 c4 c5 c6 c7
              replace hb := hb.trans (hbw9.mono hb.size)
              go_wp2
              go_ret
              exact ⟨rfl, hb⟩
            | true =>
              go_wp2_with fail
              refine (hfe _ hX).mono ?_
              rintro e Vc233 ⟨rfl, hb1⟩
              clear d0 d1 d2 d3 d4 d5 d6 d7
              clear c0 c1 c2 c3 c4 c5 c6 c7
              replace x5 := x5.below hb1
              replace x0 := x0.below hb1
              replace hX := hX.below hb1 (Nat.le_refl _)
              replace hz := hz.below hb1 (Nat.le_refl _)
              replace hb := hb.trans (hb1.mono hb.size)
              clear hb1 hfe
              have d0 := x5.cell 0 rfl; have d1 := x5.cell 1 rfl; have d2 := x5.cell 2 rfl; have d3 := x5.cell 3 rfl; have d4 := x5.cell 4 rfl; have d5 := x5.cell 5 rfl; have d6 := x5.cell 6 rfl; have d7 := x5.cell 7 rfl
              have c0 := x0.cell 0 rfl; have c1 := x0.cell 1 rfl; have c2 := x0.cell 2 rfl; have c3 := x0.cell 3 rfl; have c4 := x0.cell 4 rfl; have c5 := x0.cell 5 rfl; have c6 := x0.cell 6 rfl; have c7 := x0.cell 7 rfl
              go_wp2_with fail
              refine (hf1 _ hz).mono ?_
              rintro e Vc234 ⟨rfl, hb1⟩
              clear d0 d1 d2 d3 d4 d5 d6 d7
              clear c0 c1 c2 c3 c4 c5 c6 c7
              replace x5 := x5.below hb1
              replace x0 := x0.below hb1
              replace hX := hX.below hb1 (Nat.le_refl _)
              replace hz := hz.below hb1 (Nat.le_refl _)
              replace hb := hb.trans (hb1.mono hb.size)
              clear hb1 hf1
              have d0 := x5.cell 0 rfl; have d1 := x5.cell 1 rfl; have d2 := x5.cell 2 rfl; have d3 := x5.cell 3 rfl; have d4 := x5.cell 4 rfl; have d5 := x5.cell 5 rfl; have d6 := x5.cell 6 rfl; have d7 := x5.cell 7 rfl
              have c0 := x0.cell 0 rfl; have c1 := x0.cell 1 rfl; have c2 := x0.cell 2 rfl; have c3 := x0.cell 3 rfl; have c4 := x0.cell 4 rfl; have c5 := x0.cell 5 rfl; have c6 := x0.cell 6 rfl; have c7 := x0.cell 7 rfl
              clear c0 c1 c2 c3 c4 c5 c6 c7
              clear d0 d1 d2 d3 d4 d5 d6 d7
              clear x0 x5 hX hz
              obtain ⟨l1, l2, l3⟩ := HLW.out (HRYY.out trivial).1
              have hk0 : knB 0 = true := rfl
              have hk3 : knB 3 = true := rfl
              have hkE := fun V => isKnown_any FE V
              have hkM := fun V => isKnown_any FEY V
              have q1 : ¬ (FN : Int) < 0 := by omega
              have q2 : ¬ (FNY : Int) < 0 := by omega
              have q3 : ¬ (FN : Int) > 3 := by omega
              have HL3 := hid l3
              clear l3 HLW HRYY
              rcases l1 with ⟨e1, e2⟩ | ⟨e1, e2⟩
              · subst e1
                rw [hk0] at hkE
                by_cases h3 : FN = 3
                · have b1 : ((FN : Int) == 3) = true := by simp [h3]
                  clear h3 e2
                  rcases l2 with ⟨e3, e4⟩ | ⟨e3, e4⟩
                  · subst e3
                    rw [hk0] at hkM
                    clear e4 HL3
                    go_wp2_with fail
                    refine (hkE _).mono ?_
                    rintro e Vc235 ⟨rfl, rfl⟩
                    clear hkE
                    go_wp2_with fail
                    refine (hkM _).mono ?_
                    rintro e Vc236 ⟨rfl, rfl⟩
                    clear hkM
                    go_wp2_with fail
                    refine (hwk _).mono ?_
                    rintro e Vw ⟨rfl, hbw9⟩
                    replace hb := hb.trans (hbw9.mono hb.size)
                    go_wp2
                    go_ret
                    exact ⟨rfl, hb⟩
                  · subst e3
                    rw [hk3] at hkM
                    clear e4 HL3
                    go_wp2_with fail
                    refine (hkE _).mono ?_
                    rintro e Vc238 ⟨rfl, rfl⟩
                    clear hkE
                    go_wp2_with fail
                    refine (hkM _).mono ?_
                    rintro e Vc239 ⟨rfl, rfl⟩
                    clear hkM
                    go_wp2_with fail
                    refine (hwk _).mono ?_
                    rintro e Vw ⟨rfl, hbw9⟩
                    replace hb := hb.trans (hbw9.mono hb.size)
                    go_wp2
                    go_ret
                    exact ⟨rfl, hb⟩
                · obtain ⟨m1, m2⟩ := HL3.out rfl h3
                  have b1 : ((FN : Int) == 3) = false := by rw [beq_eq_false_iff_ne]; omega
                  have b2 : IntKind.i64.wrap ((FN : Int) + 1) = (FN : Int) + 1 := IntWalk.i64_in _ (by omega)
                  have b3 : (FNY : Int) ≤ (FN : Int) + 1 := by omega
                  subst m1
                  rw [hk0] at hkM
                  clear h3 e2 m2 l2 HL3
                  go_wp2_with fail
                  refine (hkE _).mono ?_
                  rintro e Vc241 ⟨rfl, rfl⟩
                  clear hkE
                  go_wp2_with fail
                  refine (hkM _).mono ?_
                  rintro e Vc242 ⟨rfl, rfl⟩
                  clear hkM
                  go_wp2_with fail
                  refine (hwk _).mono ?_
                  rintro e Vw ⟨rfl, hbw9⟩
                  replace hb := hb.trans (hbw9.mono hb.size)
                  go_wp2
                  go_ret
                  exact ⟨rfl, hb⟩
              · subst e1
                rw [hk3] at hkE
                clear e2 HL3
                rcases l2 with ⟨e3, e4⟩ | ⟨e3, e4⟩
                · subst e3
                  rw [hk0] at hkM
                  clear e4
                  go_wp2_with fail
                  refine (hkE _).mono ?_
                  rintro e Vc244 ⟨rfl, rfl⟩
                  clear hkE
                  go_wp2_with fail
                  refine (hkM _).mono ?_
                  rintro e Vc245 ⟨rfl, rfl⟩
                  clear hkM
                  go_wp2_with fail
                  refine (hwk _).mono ?_
                  rintro e Vw ⟨rfl, hbw9⟩
                  replace hb := hb.trans (hbw9.mono hb.size)
                  go_wp2
                  go_ret
                  exact ⟨rfl, hb⟩
                · subst e3
                  rw [hk3] at hkM
                  clear e4
                  go_wp2_with fail
                  refine (hkE _).mono ?_
                  rintro e Vc247 ⟨rfl, rfl⟩
                  clear hkE
                  go_wp2_with fail
                  refine (hkM _).mono ?_
                  rintro e Vc248 ⟨rfl, rfl⟩
                  clear hkM
                  go_wp2_with fail
                  refine (hwk _).mono ?_
                  rintro e Vw ⟨rfl, hbw9⟩
                  replace hb := hb.trans (hbw9.mono hb.size)
                  go_wp2
                  go_ret
                  exact ⟨rfl, hb⟩
          | false =>
            have hpk2 : p ≤ k := by
              rcases HI.out.1 with ⟨_, e⟩ | ⟨h, _⟩
              · rw [HI.out.2.1, e]; simp; omega
              · cases h
            have hn14 := HL14.out
            have d0 := x5.cell 0 rfl; have d1 := x5.cell 1 rfl; have d2 := x5.cell 2 rfl; have d3 := x5.cell 3 rfl; have d4 := x5.cell 4 rfl; have d5 := x5.cell 5 rfl; have d6 := x5.cell 6 rfl; have d7 := x5.cell 7 rfl
            have hlt5 := x5.lt
            go_upto_region 14 with (at_builtin
                                    go_loud (refine wpList_append_own_at _ rfl _ _ 22 rfl (sa_x5 + 1) 3 j0 (.int .i64 0) 1 8 under22 hj0 jz0 jz1 jz2 rfl (by decide) (.slice a p c) p _ rfl (hown.alloc _) ⟨wr.heap.size, 0, none⟩ 1 1 [.int .i64 t] rfl rfl (cell_one_new _ _ _) (ints_oneCell .i64 [t]) (by unfold maxLen; omega) (by omega) (by simp; omega) ?_)
                                    intro v2 W2 hrow2 hg3 _ hat
                                    obtain ⟨a3, c3, rfl⟩ := own_slice2 hrow2
                                    have x5a := x5.below (below_one (w := wr) (.cells #[.int .i64 t] 3))
                                    have x5b : Bx W2 sa_x5 _ 24 := (hg3.block _ x5a.lt (fun e => by have := own_ge2 hown _ e.symm; omega)).trans x5a
                                    have e7 := x5b.cell 7 rfl
                                    have f7 := x5b.free 7)
            have hba := below_one (w := wr) (.cells #[.int .i64 t] 3)
            have hvW := (hv.trans (hba.mono (by omega))).grown hg3 (by simp; omega) (fun q hq => by have := own_ge hown q hq; omega)
            have hbW := (hb.trans (hba.mono (by have := HX05.out; omega))).grown hg3 (by simp; have := HX05.out; omega) (fun q hq => by have := own_ge hown q hq; have := HX05.out; omega)
            have hrow3 : W2.ownsRow (sa_x5 + 1) 3 1 (.slice a3 (p + 1) c3) (p + 1) ((C ++ [t]).map (Value.int .i64)) := by simpa using hrow2
            have hx5n : Bx (W2.setCell ⟨sa_x5, 7, none⟩ (.slice a3 (p + 1) c3)) sa_x5 #[.int .i64 X.l, .int .i64 X.n, .int .i64 X.pi, .int .i64 X.sl, .int .i64 X.ga, .int .i64 X.pa, .int .i64 X.sp, .slice a3 (p + 1) c3] 24 := x5b.set 7 _
            have hrn := own_setne hrow3 ⟨sa_x5, 7, none⟩ (.slice a3 (p + 1) c3) (Nat.lt_succ_self _)
            have hvn := hvW.setCell (p := ⟨sa_x5, 7, none⟩) (Nat.le_refl _) (.slice a3 (p + 1) c3)
            have hbn := hbW.setCell (p := ⟨sa_x5, 7, none⟩) (show w.heap.size ≤ sa_x5 by have := HX05.out; omega) (.slice a3 (p + 1) c3)
            have HM := hid (And.intro hrn (And.intro hx5n (And.intro hvn hbn)))
            clear hrn hx5n hvn hbn hvW hbW hrow3 hba hat hg3 hrow2 x5a x5b e7 f7 hown x5 hv hb hx0 c00 c01 c02 c03 c04 c05 c06 c07 d0 d1 d2 d3 d4 d5 d6 d7 hlt5
            obtain ⟨hown, x5, hv, hb⟩ := HM.out
            clear HM
            generalize World.setCell _ _ _ = V10 at *
            have hpl : p + 1 = (C ++ [t]).length := by rw [List.length_append, HI.out.2.1]; rfl
            rw [hpl] at hown x5 ⊢
            have HI2 := hid (HI.out.1.put)
            clear hpl hpk hpk2
            generalize hCC : C ++ [t] = CC at *
            clear hCC
            have HC := hid (show ∃ A B, ts = A ++ B ∧ CC = A ++ t :: B from (HKN.out ▸ HI2.out).done HNN.out)
            have HRC := hid (show ∀ x ∈ CC, -9223372036854775808 ≤ x ∧ x ≤ 9223372036854775807 from fun x hx => by
              obtain ⟨A, B, e1, e2⟩ := HC.out
              rw [e2] at hx
              rcases List.mem_append.1 hx with hx | hx
              · exact HRG.out x (by rw [e1]; exact List.mem_append_left _ hx)
              · rcases List.mem_cons.1 hx with rfl | hx
                · exact HT.out
                · exact HRG.out x (by rw [e1]; exact List.mem_append_right _ hx))
            have HCL := hid (show (CC).length ≤ 16 by
              obtain ⟨A, B, e1, e2⟩ := HC.out
              have h1 := HL14.out
              have h2 := HNN.out
              rw [e1] at h2
              rw [e2]
              simp at h2 ⊢
              omega)
            have hz := (own_nw hown rfl (by have := HCL.out; omega) HRC.out).1.i
            have hX := H_hv.out.below hv (by rw [HS_x5.out]; exact Nat.le_refl _)
            have x0 := HX0q.out.below (by rw [← HS_x5.out]; exact hv)
            have hr1 := hrdY a3 c3 (CC) _ hz
            have hf1 := fun V h => hfeY a3 c3 (CC) V h
            have hRY := HRY.out (CC)
            have hlaw := HONE.out HV.out (CC) HC.out
            clear hrdY hfeY HRY HONE hown hv HRC HCL HC
            generalize rdyB (X.wt (CC)) = rY at *
            generalize vB (X.wt (CC)) = vY at *
            generalize fewE (X.wt (CC)) = FEY at *
            generalize fewN (X.wt (CC)) = FNY at *
            have HLW := hid hlaw
            have HRYY := hid hRY
            clear hlaw hRY
            generalize (CC).length = nC at *
            have d0 := x5.cell 0 rfl; have d1 := x5.cell 1 rfl; have d2 := x5.cell 2 rfl; have d3 := x5.cell 3 rfl; have d4 := x5.cell 4 rfl; have d5 := x5.cell 5 rfl; have d6 := x5.cell 6 rfl; have d7 := x5.cell 7 rfl
            go_wp2_with fail
            refine (hr1).mono ?_
            rintro e Vc231 ⟨rfl, hb1⟩
            clear d0 d1 d2 d3 d4 d5 d6 d7
            replace x5 := x5.below hb1
            replace x0 := x0.below hb1
            replace hX := hX.below hb1 (Nat.le_refl _)
            replace hz := hz.below hb1 (Nat.le_refl _)
            replace hb := hb.trans (hb1.mono hb.size)
            clear hb1 hr1
            have d0 := x5.cell 0 rfl; have d1 := x5.cell 1 rfl; have d2 := x5.cell 2 rfl; have d3 := x5.cell 3 rfl; have d4 := x5.cell 4 rfl; have d5 := x5.cell 5 rfl; have d6 := x5.cell 6 rfl; have d7 := x5.cell 7 rfl
            have c0 := x0.cell 0 rfl; have c1 := x0.cell 1 rfl; have c2 := x0.cell 2 rfl; have c3 := x0.cell 3 rfl; have c4 := x0.cell 4 rfl; have c5 := x0.cell 5 rfl; have c6 := x0.cell 6 rfl; have c7 := x0.cell 7 rfl
            cases rY with
            | false =>
              go_wp2_with fail
              refine (hwk _).mono ?_
              rintro e Vw ⟨rfl, hbw9⟩
              clear d0 d1 d2 d3 d4 d5 d6 d7
              clear c0 c1 c2 c3 c4 c5 c6 c7
              replace hb := hb.trans (hbw9.mono hb.size)
              go_wp2
              go_ret
              exact ⟨rfl, hb⟩
            | true =>
              go_wp2_with fail
              refine (hfe _ hX).mono ?_
              rintro e Vc233 ⟨rfl, hb1⟩
              clear d0 d1 d2 d3 d4 d5 d6 d7
              clear c0 c1 c2 c3 c4 c5 c6 c7
              replace x5 := x5.below hb1
              replace x0 := x0.below hb1
              replace hX := hX.below hb1 (Nat.le_refl _)
              replace hz := hz.below hb1 (Nat.le_refl _)
              replace hb := hb.trans (hb1.mono hb.size)
              clear hb1 hfe
              have d0 := x5.cell 0 rfl; have d1 := x5.cell 1 rfl; have d2 := x5.cell 2 rfl; have d3 := x5.cell 3 rfl; have d4 := x5.cell 4 rfl; have d5 := x5.cell 5 rfl; have d6 := x5.cell 6 rfl; have d7 := x5.cell 7 rfl
              have c0 := x0.cell 0 rfl; have c1 := x0.cell 1 rfl; have c2 := x0.cell 2 rfl; have c3 := x0.cell 3 rfl; have c4 := x0.cell 4 rfl; have c5 := x0.cell 5 rfl; have c6 := x0.cell 6 rfl; have c7 := x0.cell 7 rfl
              go_wp2_with fail
              refine (hf1 _ hz).mono ?_
              rintro e Vc234 ⟨rfl, hb1⟩
              clear d0 d1 d2 d3 d4 d5 d6 d7
              clear c0 c1 c2 c3 c4 c5 c6 c7
              replace x5 := x5.below hb1
              replace x0 := x0.below hb1
              replace hX := hX.below hb1 (Nat.le_refl _)
              replace hz := hz.below hb1 (Nat.le_refl _)
              replace hb := hb.trans (hb1.mono hb.size)
              clear hb1 hf1
              have d0 := x5.cell 0 rfl; have d1 := x5.cell 1 rfl; have d2 := x5.cell 2 rfl; have d3 := x5.cell 3 rfl; have d4 := x5.cell 4 rfl; have d5 := x5.cell 5 rfl; have d6 := x5.cell 6 rfl; have d7 := x5.cell 7 rfl
              have c0 := x0.cell 0 rfl; have c1 := x0.cell 1 rfl; have c2 := x0.cell 2 rfl; have c3 := x0.cell 3 rfl; have c4 := x0.cell 4 rfl; have c5 := x0.cell 5 rfl; have c6 := x0.cell 6 rfl; have c7 := x0.cell 7 rfl
              clear c0 c1 c2 c3 c4 c5 c6 c7
              clear d0 d1 d2 d3 d4 d5 d6 d7
              clear x0 x5 hX hz
              obtain ⟨l1, l2, l3⟩ := HLW.out (HRYY.out trivial).1
              have hk0 : knB 0 = true := rfl
              have hk3 : knB 3 = true := rfl
              have hkE := fun V => isKnown_any FE V
              have hkM := fun V => isKnown_any FEY V
              have q1 : ¬ (FN : Int) < 0 := by omega
              have q2 : ¬ (FNY : Int) < 0 := by omega
              have q3 : ¬ (FN : Int) > 3 := by omega
              have HL3 := hid l3
              clear l3 HLW HRYY
              rcases l1 with ⟨e1, e2⟩ | ⟨e1, e2⟩
              · subst e1
                rw [hk0] at hkE
                by_cases h3 : FN = 3
                · have b1 : ((FN : Int) == 3) = true := by simp [h3]
                  clear h3 e2
                  rcases l2 with ⟨e3, e4⟩ | ⟨e3, e4⟩
                  · subst e3
                    rw [hk0] at hkM
                    clear e4 HL3
                    go_wp2_with fail
                    refine (hkE _).mono ?_
                    rintro e Vc235 ⟨rfl, rfl⟩
                    clear hkE
                    go_wp2_with fail
                    refine (hkM _).mono ?_
                    rintro e Vc236 ⟨rfl, rfl⟩
                    clear hkM
                    go_wp2_with fail
                    refine (hwk _).mono ?_
                    rintro e Vw ⟨rfl, hbw9⟩
                    replace hb := hb.trans (hbw9.mono hb.size)
                    go_wp2
                    go_ret
                    exact ⟨rfl, hb⟩
                  · subst e3
                    rw [hk3] at hkM
                    clear e4 HL3
                    go_wp2_with fail
                    refine (hkE _).mono ?_
                    rintro e Vc238 ⟨rfl, rfl⟩
                    clear hkE
                    go_wp2_with fail
                    refine (hkM _).mono ?_
                    rintro e Vc239 ⟨rfl, rfl⟩
                    clear hkM
                    go_wp2_with fail
                    refine (hwk _).mono ?_
                    rintro e Vw ⟨rfl, hbw9⟩
                    replace hb := hb.trans (hbw9.mono hb.size)
                    go_wp2
                    go_ret
                    exact ⟨rfl, hb⟩
                · obtain ⟨m1, m2⟩ := HL3.out rfl h3
                  have b1 : ((FN : Int) == 3) = false := by rw [beq_eq_false_iff_ne]; omega
                  have b2 : IntKind.i64.wrap ((FN : Int) + 1) = (FN : Int) + 1 := IntWalk.i64_in _ (by omega)
                  have b3 : (FNY : Int) ≤ (FN : Int) + 1 := by omega
                  subst m1
                  rw [hk0] at hkM
                  clear h3 e2 m2 l2 HL3
                  go_wp2_with fail
                  refine (hkE _).mono ?_
                  rintro e Vc241 ⟨rfl, rfl⟩
                  clear hkE
                  go_wp2_with fail
                  refine (hkM _).mono ?_
                  rintro e Vc242 ⟨rfl, rfl⟩
                  clear hkM
                  go_wp2_with fail
                  refine (hwk _).mono ?_
                  rintro e Vw ⟨rfl, hbw9⟩
                  replace hb := hb.trans (hbw9.mono hb.size)
                  go_wp2
                  go_ret
                  exact ⟨rfl, hb⟩
              · subst e1
                rw [hk3] at hkE
                clear e2 HL3
                rcases l2 with ⟨e3, e4⟩ | ⟨e3, e4⟩
                · subst e3
                  rw [hk0] at hkM
                  clear e4
                  go_wp2_with fail
                  refine (hkE _).mono ?_
                  rintro e Vc244 ⟨rfl, rfl⟩
                  clear hkE
                  go_wp2_with fail
                  refine (hkM _).mono ?_
                  rintro e Vc245 ⟨rfl, rfl⟩
                  clear hkM
                  go_wp2_with fail
                  refine (hwk _).mono ?_
                  rintro e Vw ⟨rfl, hbw9⟩
                  replace hb := hb.trans (hbw9.mono hb.size)
                  go_wp2
                  go_ret
                  exact ⟨rfl, hb⟩
                · subst e3
                  rw [hk3] at hkM
                  clear e4
                  go_wp2_with fail
                  refine (hkE _).mono ?_
                  rintro e Vc247 ⟨rfl, rfl⟩
                  clear hkE
                  go_wp2_with fail
                  refine (hkM _).mono ?_
                  rintro e Vc248 ⟨rfl, rfl⟩
                  clear hkM
                  go_wp2_with fail
                  refine (hwk _).mono ?_
                  rintro e Vw ⟨rfl, hbw9⟩
                  replace hb := hb.trans (hbw9.mono hb.size)
                  go_wp2
                  go_ret
                  exact ⟨rfl, hb⟩
end Go.Proofs.Yteianfbdhakhpaa
