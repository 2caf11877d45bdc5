import Derived.Test.YtmkmnedojgigoaaT1
namespace Go.Proofs.Ytmkmnedojgigoaa
open Go.RowKit

def kdB (C : List Int) (K : Int) : Bool := decide (0 ≤ K) && decide (K < (C.length : Int))
def ntB (R : Nat) (N : List Int) (X : Int) : Bool := decide (X < 1) || (decide ((R : Int) < X) || (inB N X || decide (12 ≤ (N.length : Int))))

theorem own_form {w : World} {base size : Nat} {e : TypeId} {v : Value} {n : Nat} {xs : List Value} (h : w.ownsRow base e size v n xs) (hn : 0 < n) : ∃ g cap, v = .slice (some ⟨g, 0, none⟩) n cap ∧ base ≤ g := by
  rcases h.2 with ⟨_, h0⟩ | ⟨g, cap, cur, h', hb, _⟩
  · omega
  · exact ⟨g, cap, h', hb⟩

theorem new_one (w : World) (x : Int) : Cls (w.alloc (.cells #[.int .i64 x] 3)) (some ⟨w.heap.size, 0, none⟩) [.int .i64 x] := fun j u hj =>
  ⟨w.heap.size, 0, rfl, (Bx.new w #[.int .i64 x] 3).lt, by rw [Nat.zero_add]; exact (Bx.new w #[.int .i64 x] 3).cell j (by simpa using hj)⟩
theorem below_new (w : World) (x : Int) : Below w.heap.size w (w.alloc (.cells #[.int .i64 x] 3)) := below_one (w := w) (.cells #[.int .i64 x] 3)

set_option maxRecDepth 100000 in
set_option maxHeartbeats 8000000 in
theorem more_ok (R : Nat) (an ac : Option Addr) (cn cc : Nat) (N C : List Int) (K X : Int) (p : Option Addr) (cp : Nat) (xs : List Int) (w : World) (hN : Ints w an N) (hC : Ints w ac C) (hX : Ints w p xs) (hw : isWhl (R : Int) N C = true) (hv : Vw R N C) (ho : okP C xs = true) (h6 : xs.sum ≤ 6) :
    Calls Try.prog 11 #[.agg #[.int .i64 (R : Int), .slice an N.length cn, .slice ac C.length cc], .slice p xs.length cp, .agg #[.int .i64 K, .int .i64 X]] w (WorksP w) := by
  obtain ⟨j0, hj, jz0, jz1, jz2⟩ := info_parts info3
  have hN0 := hN; have hC0 := hC; have hX0 := hX
  have c4 := hv.c4
  have r1 := hv.r1
  have r2 := hv.r2
  have n12 := hv.n12
  obtain ⟨o1, o2, o3⟩ := okP_mem ho
  have hxl : xs.length ≤ 4 := by omega
  have HO1 := hid o1
  clear o1
  have hrich : decide (6 < xs.sum) = false := by simp; omega
  have g6 : decide ((40 : Int) < (xs.length : Int)) = false := by simp; omega
  obtain ⟨M, hM⟩ : ∃ M, M = bst btm R N C (ps0 xs) := ⟨_, rfl⟩
  have mo : ∀ (a' : Option Addr) (ca' : Nat) (W : World), Ints W an N → Ints W ac C → Ints W a' xs → Calls Try.prog 28 #[.agg #[.int .i64 (R : Int), .slice an N.length cn, .slice ac C.length cc], .slice a' xs.length ca'] W fun e w' => e = .returned (.tuple #[.int .i64 M, .int .i64 0]) ∧ Below W.heap.size W w' := fun a' ca' W h1 h2 h3 => by
    rw [hM]; exact most_ok R an ac cn cc N C a' ca' xs W h1 h2 h3 hv ho
  have HM := hid hM
  clear hM
  obtain ⟨W, hW, hb, hs, x0, x5⟩ := boxes2 w #[.int .i64 (R : Int), .slice an N.length cn, .slice ac C.length cc] 24 #[.int .i64 K, .int .i64 X] 59
  clear hs hN hC hX
  have c0 := x0.cell 0 rfl; have c1 := x0.cell 1 rfl; have c2 := x0.cell 2 rfl
  go_enter Try.func11, Try.ntmps11
  go_wp2_with fail
  refine (isWheel_any _ _ _ _ _ _ _ _ (hN0.below hb (Nat.le_refl _)) (hC0.below hb (Nat.le_refl _))).mono ?_
  rintro e W2 ⟨rfl, hb1⟩
  rw [hw]
  clear hW
  replace x5 := x5.below hb1; (try clear c0 c1 c2); replace x0 := x0.below hb1; have c0 := x0.cell 0 rfl; have c1 := x0.cell 1 rfl; have c2 := x0.cell 2 rfl; replace hb := hb.trans (hb1.mono hb.size); clear hb1
  go_wp2_with fail
  refine (isPurse_any _ _ _ _ _ _ _ p cp xs _ (hC0.below hb (Nat.le_refl _)) (hX0.below hb (Nat.le_refl _)) (by omega)).mono ?_
  rintro e W3 ⟨rfl, hb1⟩
  rw [ho]
  replace x5 := x5.below hb1; (try clear c0 c1 c2); replace x0 := x0.below hb1; have c0 := x0.cell 0 rfl; have c1 := x0.cell 1 rfl; have c2 := x0.cell 2 rfl; replace hb := hb.trans (hb1.mono hb.size); clear hb1
  go_wp2_with fail
  refine (rich_ok _ _ _ _ _ _ _ p cp xs _ (hN0.below hb (Nat.le_refl _)) (hC0.below hb (Nat.le_refl _)) (hX0.below hb (Nat.le_refl _)) hv ho).mono ?_
  rintro e W4 ⟨rfl, hb1⟩
  rw [hrich]
  replace x0 := x0.below hb1; replace x5 := x5.below hb1; replace hb := hb.trans (hb1.mono hb.size); clear hb1
  clear c0 c1 c2
  go_wp2_with fail
  replace x0 := x0.drew; replace x5 := x5.drew; replace hb := hb.drew
  refine wp_region_head 8 (fun w' => Bx w' w.heap.size #[.int .i64 (R : Int), .slice an N.length cn, .slice ac C.length cc] 24) (by kernel_rfl) rfl ?_
  generalize World.drew _ = Y0 at *
  refine HeadAt.take (i := 0) (.agg #[.int .i64 (R : Int), .slice an N.length cn, .slice ac C.length cc]) rfl (by kernel_rfl) (.inl ⟨rfl, fun w' z => ?_⟩) x0 ?_
  · (have z0 := z.cell 0 rfl; have z1 := z.cell 1 rfl; have z2 := z.cell 2 rfl; simp [go_sem, z0, z1, z2])
  refine HeadAt.take (i := 1) (.slice p xs.length cp) rfl (by kernel_rfl) (.inl ⟨rfl, fun _ _ => by simp [go_sem]⟩) x0 ?_
  refine HeadAt.one (i := 2) rfl (by kernel_rfl) ?_
  generalize hK : Upto _ _ = K0
  (try simp only [Act.put, List.getElem_toArray, List.getElem_cons_succ, List.getElem_cons_zero, List.setIfInBounds_toArray, List.set_cons_succ, List.set_cons_zero])
  go_wp2_with fail
  refine (joined1_any _ _ xs _ (hX0.below hb (Nat.le_refl _)) (by omega)).mono ?_
  rintro e Y1 ⟨hb1, a1, ca1, rfl, hi, -⟩
  replace x0 := x0.below hb1; replace x5 := x5.below hb1; replace hb := hb.trans (hb1.mono hb.size); clear hb1
  go_wp2_with fail
  subst hK
  refine ⟨x0, ?_⟩
  refine HeadAt.one (i := 3) rfl (by kernel_rfl) ?_
  generalize hK : Upto _ _ = K0
  (try simp only [List.getElem_toArray, List.getElem_cons_succ, List.getElem_cons_zero])
  go_wp2_with fail
  refine (mo _ _ _ (hN0.below hb (Nat.le_refl _)) (hC0.below hb (Nat.le_refl _)) hi).mono ?_
  rintro e Y2 ⟨rfl, hb1⟩
  replace x0 := x0.below hb1; replace x5 := x5.below hb1; replace hb := hb.trans (hb1.mono hb.size); clear hb1
  clear hi mo
  go_wp2_with fail
  subst hK
  refine ⟨x0, ?_⟩
  refine HeadAt.take (i := 4) (.tuple #[.int .i64 M, .int .i64 0]) rfl (by kernel_rfl) (.inl ⟨rfl, fun _ _ => by simp [go_sem]⟩) x0 ?_
  refine HeadAt.take (i := 5) (.int .i64 M) rfl (by kernel_rfl) (.inl ⟨rfl, fun _ _ => by simp [go_sem]⟩) x0 ?_
  refine HeadAt.take (i := 6) (.int .i64 0) rfl (by kernel_rfl) (.inl ⟨rfl, fun _ _ => by simp [go_sem]⟩) x0 ?_
  refine HeadAt.take (i := 7) (.int .i64 M) rfl (by kernel_rfl) (.inl ⟨rfl, fun _ _ => by simp [go_sem]⟩) x0 ?_
  refine HeadAt.done (by kernel_rfl) ?_
  (try simp only [Act.put, List.drop_succ_cons, List.drop_zero, List.getElem_toArray, List.getElem_cons_succ, List.getElem_cons_zero])
  go_wp2_with fail
  refine NoPanic.normal ?_
  go_upto_region 6 with fail
  go_cut [59] (fun s59 wx => s59 = .bool (kdB C K) ∧ Bx wx w.heap.size #[.int .i64 (R : Int), .slice an N.length cn, .slice ac C.length cc] 24 ∧ Bx wx (w.heap.size + 1) #[.int .i64 K, .int .i64 X] 59 ∧ Below w.heap.size w wx)
  case first =>
    have c0 := x0.cell 0 rfl; have c1 := x0.cell 1 rfl; have c2 := x0.cell 2 rfl
    have d0 := x5.cell 0 rfl; have d1 := x5.cell 1 rfl
    by_cases k1 : 0 ≤ K
    · by_cases k2 : K < (C.length : Int)
      · have k1B : decide (0 ≤ K) = true := by simp [k1]
        have k2B : decide (K < (C.length : Int)) = true := by simp [k2]
        go_wp2_with fail
        go_meet
        exact ⟨by simp [kdB, k1B, k2B], x0, x5, hb⟩
      · have k1B : decide (0 ≤ K) = true := by simp [k1]
        have k2B : decide (K < (C.length : Int)) = false := by simp [k2]
        go_wp2_with fail
        go_meet
        exact ⟨by simp [kdB, k1B, k2B], x0, x5, hb⟩
    · have k1B : decide (0 ≤ K) = false := by simp [k1]
      go_wp2_with fail
      go_meet
      exact ⟨by simp [kdB, k1B], x0, x5, hb⟩
  case rest =>
    clear x0 x5 hb
    obtain ⟨rfl, x0, x5, hb⟩ := hcut
    go_upto_if 59 with fail
    go_cut [9, 10, 11] (fun _ _ _ wx => Bx wx w.heap.size #[.int .i64 (R : Int), .slice an N.length cn, .slice ac C.length cc] 24 ∧ Bx wx (w.heap.size + 1) #[.int .i64 K, .int .i64 X] 59 ∧ Below w.heap.size w wx)
    case first =>
      cases hkB : kdB C K
      · go_wp2_with fail
        go_meet
        exact ⟨x0, x5, hb⟩
      · have hk2 : 0 ≤ K ∧ K < (C.length : Int) := by simpa [kdB] using hkB
        obtain ⟨k, rfl⟩ := Int.eq_ofNat_of_zero_le hk2.1
        have hkx : k < xs.length := by have := HO1.out; omega
        clear hkB hk2
        have c0 := x0.cell 0 rfl; have c1 := x0.cell 1 rfl; have c2 := x0.cell 2 rfl
        have d0 := x5.cell 0 rfl; have d1 := x5.cell 1 rfl
        go_wp2_with fail
        refine (joinedO_any _ _ xs _ (hX0.below hb (Nat.le_refl _)) (by omega)).mono ?_
        rintro e Y3 ⟨hb1, a9, c9, rfl, hown⟩
        obtain ⟨g, cap, hge, hgb⟩ := own_form hown (by omega)
        simp only [Value.slice.injEq, true_and] at hge
        obtain ⟨rfl, rfl⟩ := hge
        have l0 := x0.lt; have l5 := x5.lt
        (try clear c0 c1 c2); replace x0 := x0.below hb1; have c0 := x0.cell 0 rfl; have c1 := x0.cell 1 rfl; have c2 := x0.cell 2 rfl; (try clear d0 d1); replace x5 := x5.below hb1; have d0 := x5.cell 0 rfl; have d1 := x5.cell 1 rfl; replace hb := hb.trans (hb1.mono hb.size); clear hb1
        obtain ⟨x, hx⟩ : ∃ x, xs[k]? = some x := ⟨xs[k], List.getElem?_eq_getElem hkx⟩
        have hx2 := o2 x (List.mem_of_getElem? hx)
        have hcl := World.ownsRow.cellAt hown k (by omega)
        rw [List.getElem?_map, hx, Option.map_some] at hcl
        have hfr := World.ownsRow.frozenAt hown k
        obtain ⟨hown2, hgr⟩ := World.ownsRow.stored hown k (.int .i64 (x + 1))
        have hlen : (xs.set k (x + 1)).length = xs.length := List.length_set
        have hZ : ∃ Z, Y3.setCell ⟨g, k, none⟩ (.int .i64 (x + 1)) = Z ∧ Ints Z (some ⟨g, 0, none⟩) (xs.set k (x + 1)) ∧ Below w.heap.size w Z ∧ Bx Z w.heap.size #[.int .i64 (R : Int), .slice an N.length cn, .slice ac C.length cc] 24 ∧ Bx Z (w.heap.size + 1) #[.int .i64 k, .int .i64 X] 59 := by
          refine ⟨_, rfl, ?_, Below.store hb (p := ⟨g, k, none⟩) (by show w.heap.size ≤ g; omega) _, x0.other (a := ⟨g, k, none⟩) (by show w.heap.size ≠ g; omega) _, x5.other (a := ⟨g, k, none⟩) (by show w.heap.size + 1 ≠ g; omega) _⟩
          obtain ⟨a', c', e', hI⟩ := Ints.of_own (xs := xs.set k (x + 1)) (by rw [hlen, List.map_set]; exact hown2) (by rw [hlen]; omega) (fun y hy => by
            rcases List.mem_or_eq_of_mem_set hy with h | h
            · have := o2 y h; omega
            · omega)
          simp only [Value.slice.injEq] at e'
          rw [e'.1]
          exact hI
        obtain ⟨Z, hZe, hIZ, hbZ, x0Z, x5Z⟩ := hZ
        have hmc : okP C (xs.set k (x + 1)) = true → M ≤ bst btm R N C (ps0 (xs.set k (x + 1))) := fun h => by rw [HM.out]; exact more_coin hv ho hx h
        clear hown hown2 hgr hx
        generalize xs.set k (x + 1) = ys at *
        have ipu : ∀ W : World, Ints W ac C → Ints W (some ⟨g, 0, none⟩) ys → Calls Try.prog 51 #[.agg #[.int .i64 (R : Int), .slice an N.length cn, .slice ac C.length cc], .slice (some ⟨g, 0, none⟩) xs.length c9] W fun e w' => e = .returned (.bool (okP C ys)) ∧ Below W.heap.size W w' := fun W h1 h2 => by
          have := isPurse_any (R : Int) an ac cn cc N C (some ⟨g, 0, none⟩) c9 ys W h1 h2 (by omega)
          rw [hlen] at this; exact this
        have ric : okP C ys = true → ∀ W : World, Ints W an N → Ints W ac C → Ints W (some ⟨g, 0, none⟩) ys → Calls Try.prog 27 #[.agg #[.int .i64 (R : Int), .slice an N.length cn, .slice ac C.length cc], .slice (some ⟨g, 0, none⟩) xs.length c9] W fun e w' => e = .returned (.bool (decide (6 < ys.sum))) ∧ Below W.heap.size W w' := fun h W h1 h2 h3 => by
          have := rich_ok R an ac cn cc N C (some ⟨g, 0, none⟩) c9 ys W h1 h2 h3 hv h
          rw [hlen] at this; exact this
        have mos : okP C ys = true → ∀ W : World, Ints W an N → Ints W ac C → Ints W (some ⟨g, 0, none⟩) ys → Calls Try.prog 28 #[.agg #[.int .i64 (R : Int), .slice an N.length cn, .slice ac C.length cc], .slice (some ⟨g, 0, none⟩) xs.length c9] W fun e w' => e = .returned (.tuple #[.int .i64 (bst btm R N C (ps0 ys)), .int .i64 0]) ∧ Below W.heap.size W w' := fun h W h1 h2 h3 => by
          have := most_ok R an ac cn cc N C (some ⟨g, 0, none⟩) c9 ys W h1 h2 h3 hv h
          rw [hlen] at this; exact this
        have HL := hid hlen
        clear hlen
        obtain ⟨hx0, hx12⟩ := hx2
        have hkI : (k : Int) < (xs.length : Int) := by omega
        have hk0 : (0 : Int) ≤ (k : Int) := by omega
        replace x0 := x0Z; replace x5 := x5Z
        have cz0 := x0.cell 0 rfl; have cz1 := x0.cell 1 rfl; have cz2 := x0.cell 2 rfl
        clear hb
        have hb := hbZ
        clear hbZ x0Z x5Z
        go_wp2_with fail
        refine (ipu _ (hC0.below hb (Nat.le_refl _)) hIZ).mono ?_
        rintro e Y4 ⟨rfl, hb1⟩
        clear hZe cz0 cz1 cz2 c0 c1 c2 d0 d1 hcl hfr
        replace hIZ := hIZ.below hb1 (Nat.le_refl _); replace x5 := x5.below hb1; (try clear c0 c1 c2); replace x0 := x0.below hb1; have c0 := x0.cell 0 rfl; have c1 := x0.cell 1 rfl; have c2 := x0.cell 2 rfl; replace hb := hb.trans (hb1.mono hb.size); clear hb1
        cases hoy : okP C ys
        · clear c0 c1 c2
          go_wp2_with fail
          go_meet
          exact ⟨x0, x5, hb⟩
        · go_wp2_with fail
          refine (ric hoy _ (hN0.below hb (Nat.le_refl _)) (hC0.below hb (Nat.le_refl _)) hIZ).mono ?_
          rintro e Y5 ⟨rfl, hb1⟩
          replace hIZ := hIZ.below hb1 (Nat.le_refl _); replace x5 := x5.below hb1; (try clear c0 c1 c2); replace x0 := x0.below hb1; have c0 := x0.cell 0 rfl; have c1 := x0.cell 1 rfl; have c2 := x0.cell 2 rfl; replace hb := hb.trans (hb1.mono hb.size); clear hb1
          cases h6y : decide (6 < ys.sum)
          · go_wp2_with fail
            refine (mos hoy _ (hN0.below hb (Nat.le_refl _)) (hC0.below hb (Nat.le_refl _)) hIZ).mono ?_
            rintro e Y6 ⟨rfl, hb1⟩
            clear c0 c1 c2
            replace x0 := x0.below hb1; replace x5 := x5.below hb1; replace hb := hb.trans (hb1.mono hb.size); clear hb1
            have hMl := hmc hoy
            generalize bst btm R N C (ps0 ys) = M2 at *
            have hMB : decide ((M2 : Int) < (M : Int)) = false := by simp; omega
            go_wp2_with fail
            go_meet
            exact ⟨x0, x5, hb⟩
          · clear c0 c1 c2
            go_wp2_with fail
            go_meet
            exact ⟨x0, x5, hb⟩
    case rest =>
      clear x0 x5 hb
      obtain ⟨x0, x5, hb⟩ := hcut
      go_upto_region 13 with fail
      go_cut [113] (fun s113 wx => s113 = .bool (ntB R N X) ∧ Bx wx w.heap.size #[.int .i64 (R : Int), .slice an N.length cn, .slice ac C.length cc] 24 ∧ Bx wx (w.heap.size + 1) #[.int .i64 K, .int .i64 X] 59 ∧ Below w.heap.size w wx)
      case first =>
        have c0 := x0.cell 0 rfl; have c1 := x0.cell 1 rfl; have c2 := x0.cell 2 rfl
        have d0 := x5.cell 0 rfl; have d1 := x5.cell 1 rfl
        have hlI : (N.length : Int) ≤ 12 := by omega
        by_cases k1 : X < 1
        · have k1B : decide (X < 1) = true := by simp [k1]
          go_wp2_with fail
          go_meet
          exact ⟨by simp [ntB, k1B], x0, x5, hb⟩
        · have k1B : decide (X < 1) = false := by simp [k1]
          by_cases k2 : (R : Int) < X
          · have k2B : decide ((R : Int) < X) = true := by simp [k2]
            go_wp2_with fail
            go_meet
            exact ⟨by simp [ntB, k1B, k2B], x0, x5, hb⟩
          · have k2B : decide ((R : Int) < X) = false := by simp [k2]
            have hIn := hN0.below hb (Nat.le_refl _)
            cases k3 : inB N X
            · by_cases k4 : 12 ≤ (N.length : Int)
              · have k4B : decide (12 ≤ (N.length : Int)) = true := by simp [k4]
                clear k4
                go_wp2_with (go_at_call 52; refine (in_any _ _ _ _ _ hIn).mono ?_; rintro e w' ⟨rfl, rfl⟩; rw [k3])
                go_meet
                exact ⟨by simp [ntB, k1B, k2B, k3, k4B], x0, x5, hb⟩
              · have k4B : decide (12 ≤ (N.length : Int)) = false := by simp [k4]
                clear k4
                go_wp2_with (go_at_call 52; refine (in_any _ _ _ _ _ hIn).mono ?_; rintro e w' ⟨rfl, rfl⟩; rw [k3])
                go_meet
                exact ⟨by simp [ntB, k1B, k2B, k3, k4B], x0, x5, hb⟩
            · go_wp2_with (go_at_call 52; refine (in_any _ _ _ _ _ hIn).mono ?_; rintro e w' ⟨rfl, rfl⟩; rw [k3])
              go_meet
              exact ⟨by simp [ntB, k1B, k2B, k3], x0, x5, hb⟩
      case rest =>
        clear x0 x5 hb
        obtain ⟨rfl, x0, x5, hb⟩ := hcut
        cases hnB : ntB R N X
        · simp only [ntB, Bool.or_eq_false_iff, decide_eq_false_iff_not] at hnB
          obtain ⟨n1, n2, n3, n4⟩ := hnB
          have hx1 : 1 ≤ X := by omega
          have hx2 : X ≤ R := by omega
          have hnl : N.length < 12 := by omega
          obtain ⟨hv', hMM⟩ := more_notch hv ho n3 hx1 hx2 hnl
          have hch := more_cheap hv n3 hx1 hx2 hnl 3
          clear n1 n2 n4
          clear hMM
          obtain ⟨-, hMM⟩ := more_notch hv ho n3 hx1 hx2 hnl
          rw [← HM.out] at hMM
          have HMM := hid hMM
          have HCH := hid hch
          clear hMM hch
          have c0 := x0.cell 0 rfl; have c1 := x0.cell 1 rfl; have c2 := x0.cell 2 rfl
          have d0 := x5.cell 0 rfl; have d1 := x5.cell 1 rfl
          go_wp2_with fail
          refine (copy_any _ _ _ _ _ _ _ _ (hN0.below hb (Nat.le_refl _)) (hC0.below hb (Nat.le_refl _)) (by omega) (by omega)).mono ?_
          rintro e Y3 ⟨hb1, a1, a2, e1, e2, rfl, hN1, hC1⟩
          clear c0 c1 c2 d0 d1
          replace x0 := x0.below hb1; replace x5 := x5.below hb1; replace hb := hb.trans (hb1.mono hb.size); clear hb1
          clear hN1
          have lz0 := x0.lt; have lz5 := x5.lt
          have y12 := Bx.new Y3 #[.int .i64 (R : Int), .slice none 0 0, .slice a2 C.length e2] 24
          have hbs := below_one (w := Y3) (.cells #[.int .i64 (R : Int), .slice none 0 0, .slice a2 C.length e2] 24)
          go_wp2_with fail
          go_loopw [13] (fun s13 wr => ∃ (n : Nat) (v : Value), n ≤ R ∧ s13 = .int .i64 ((n : Int) + 1) ∧ Bx wr Y3.heap.size #[.int .i64 (R : Int), v, .slice a2 C.length e2] 24 ∧ wr.ownsRow (Y3.heap.size + 1) 3 1 v (mkN N X n).length ((mkN N X n).map (Value.int .i64)) ∧ Below Y3.heap.size Y3 wr) (fun s13 _ => R + 1 - (intOf s13).toNat)
          case atStart => exact ⟨0, .slice none 0 0, Nat.zero_le _, rfl, y12, World.ownsRow_nil _ _ _ _, hbs⟩
          case round =>
            clear y12 hbs
            obtain ⟨n, v, hn, rfl, y12, hown, hbg⟩ := hrel
            obtain ⟨av, cv, rfl⟩ := own_slice hown
            have hbw := hb.trans (hbg.mono hb.size)
            have z0 := x0.below hbg
            have z5 := x5.below hbg
            have hIn := hN0.below hbw (Nat.le_refl _)
            have hml := mkN_le N X n
            have ly := y12.lt
            by_cases hlt : n < R
            · have c0 := z0.cell 0 rfl; have c1 := z0.cell 1 rfl; have c2 := z0.cell 2 rfl
              have d0 := z5.cell 0 rfl; have d1 := z5.cell 1 rfl
              have u0 := y12.cell 0 rfl; have u1 := y12.cell 1 rfl; have u2 := y12.cell 2 rfl
              have hltI : (n : Int) + 1 ≤ (R : Int) := by omega
              have hb1 := below_new wr ((n : Int) + 1)
              have hown1 := own_below hown hb1
              have hnew := new_one wr ((n : Int) + 1)
              have y12a := y12.below hb1
              obtain ⟨t1, e1⟩ : ∃ t, ((n : Int) + 1 == X) = t := ⟨_, rfl⟩
              obtain ⟨t2, e2⟩ : ∃ t, inB N ((n : Int) + 1) = t := ⟨_, rfl⟩
              cases t1
              · cases t2
                · have hm := mkN_no (N := N) (x := X) (n := n) (by simp [e1, e2])
                  have HMk := hid hm
                  clear hm hb1 hown1 hnew y12a
                  go_wp2_with (go_at_call 52; refine (in_any _ _ _ _ _ hIn).mono ?_; rintro e w' ⟨rfl, rfl⟩; rw [e2])
                  go_roundw
                  case rel => exact ⟨n + 1, _, by omega, by go_num, y12, by rw [HMk.out]; exact hown, hbg⟩
                  case measure => simp [intOf]; omega
                · have hm := mkN_yes (N := N) (x := X) (n := n) (by simp [e1, e2])
                  have HMk := hid hm
                  clear hm
                  go_wp2_with (first | (go_at_call 52; refine (in_any _ _ _ _ _ hIn).mono ?_; rintro e w' ⟨rfl, rfl⟩; rw [e2]) | (at_builtin; refine wpList_app rfl (.tmp 135) (.tmp 137) 22 rfl (Y3.heap.size + 1) 3 j0 (.int .i64 0) 1 8 under22 hj jz0 jz1 jz2 rfl (by decide) _ (mkN N X n).length _ rfl hown1 (some ⟨wr.heap.size, 0, none⟩) 1 1 [.int .i64 ((n : Int) + 1)] rfl rfl hnew (ints_one [(n : Int) + 1]) (by unfold maxLen; omega) (by omega) (by simp; omega) ?_; intro v1 Y4 hown2 hgr; obtain ⟨av1, cv1, rfl⟩ := own_slice hown2; have hown3 := hown2; have hge2 := own_ge hown1; have y2 := y12a.gb hgr (fun k hk => by have := hge2 k hk; omega); have q0 := y2.cell 0 rfl; have q1 := y2.cell 1 rfl; have q2 := y2.cell 2 rfl; have f1 := y2.free 1))
                  have hbg2 : Below Y3.heap.size Y3 Y4 := (hbg.trans (hb1.mono hbg.size)).grown hgr (by have := hbg.size; simp; omega) (fun k hk => by have := hge2 k hk; omega)
                  go_roundw
                  case rel => exact ⟨n + 1, _, by omega, by go_num, y2.put3_1 _, by rw [HMk.out, List.length_append, List.map_append]; exact ownsRow_setCell_below hown3 (by show Y3.heap.size < Y3.heap.size + 1; omega) _, Below.store hbg2 (p := ⟨Y3.heap.size, 1, none⟩) (Nat.le_refl _) _⟩
                  case measure => simp [intOf]; omega
              · have hm := mkN_yes (N := N) (x := X) (n := n) (by simp [e1])
                have HMk := hid hm
                clear hm
                go_wp2_with (at_builtin; refine wpList_app rfl (.tmp 135) (.tmp 137) 22 rfl (Y3.heap.size + 1) 3 j0 (.int .i64 0) 1 8 under22 hj jz0 jz1 jz2 rfl (by decide) _ (mkN N X n).length _ rfl hown1 (some ⟨wr.heap.size, 0, none⟩) 1 1 [.int .i64 ((n : Int) + 1)] rfl rfl hnew (ints_one [(n : Int) + 1]) (by unfold maxLen; omega) (by omega) (by simp; omega) ?_; intro v1 Y4 hown2 hgr; obtain ⟨av1, cv1, rfl⟩ := own_slice hown2; have hown3 := hown2; have hge2 := own_ge hown1; have y2 := y12a.gb hgr (fun k hk => by have := hge2 k hk; omega); have q0 := y2.cell 0 rfl; have q1 := y2.cell 1 rfl; have q2 := y2.cell 2 rfl; have f1 := y2.free 1)
                have hbg2 : Below Y3.heap.size Y3 Y4 := (hbg.trans (hb1.mono hbg.size)).grown hgr (by have := hbg.size; simp; omega) (fun k hk => by have := hge2 k hk; omega)
                go_roundw
                case rel => exact ⟨n + 1, _, by omega, by go_num, y2.put3_1 _, by rw [HMk.out, List.length_append, List.map_append]; exact ownsRow_setCell_below hown3 (by show Y3.heap.size < Y3.heap.size + 1; omega) _, Below.store hbg2 (p := ⟨Y3.heap.size, 1, none⟩) (Nat.le_refl _) _⟩
                case measure => simp [intOf]; omega
            · have he : R = n := by omega
              subst he
              obtain ⟨av2, cv2, e9, hIN⟩ := Ints.of_own hown (by omega) (fun y hy => by have := ((mkN_iff N X y R).1 hy).1; omega)
              simp only [Value.slice.injEq] at e9
              obtain ⟨rfl, -, rfl⟩ := e9
              have hC2 := hC1.below hbg (Nat.le_refl _)
              have moN : ∀ (a' : Option Addr) (ca' : Nat) (W : World), Ints W av (mkN N X R) → Ints W a2 C → Ints W a' xs → Calls Try.prog 28 #[.agg #[.int .i64 (R : Int), .slice av (mkN N X R).length cv, .slice a2 C.length e2], .slice a' xs.length ca'] W fun e w' => e = .returned (.tuple #[.int .i64 (bst btm R (mkN N X R) C (ps0 xs)), .int .i64 0]) ∧ Below W.heap.size W w' := fun a' ca' W h1 h2 h3 =>
                most_ok R av a2 cv e2 (mkN N X R) C a' ca' xs W h1 h2 h3 hv' ho
              have ch1 : ∀ W : World, Ints W an N → Ints W ac C → Calls Try.prog 37 #[.agg #[.int .i64 (R : Int), .slice an N.length cn, .slice ac C.length cc], .int .i64 3] W fun e w' => e = .returned (.tuple #[.int .i64 (chV R N C 3), .int .i64 (chE N C)]) ∧ Below W.heap.size W w' := fun W h1 h2 =>
                cheap_val R an ac cn cc N C 3 W h1 h2 hv (by omega) (by omega)
              have ch2 : ∀ W : World, Ints W av (mkN N X R) → Ints W a2 C → Calls Try.prog 37 #[.agg #[.int .i64 (R : Int), .slice av (mkN N X R).length cv, .slice a2 C.length e2], .int .i64 3] W fun e w' => e = .returned (.tuple #[.int .i64 (chV R (mkN N X R) C 3), .int .i64 (chE (mkN N X R) C)]) ∧ Below W.heap.size W w' := fun W h1 h2 =>
                cheap_val R av a2 cv e2 (mkN N X R) C 3 W h1 h2 hv' (by omega) (by omega)
              have hMM := HMM.out
              have hch := HCH.out
              clear HMM HCH
              have hMI : (M : Int) ≤ (bst btm R (mkN N X R) C (ps0 xs) : Nat) := by omega
              clear hMM hown hml hlt hv' hbg n3
              generalize bst btm R (mkN N X R) C (ps0 xs) = M2 at *
              generalize chV R (mkN N X R) C 3 = V2 at *
              generalize chE (mkN N X R) C = E2 at *
              generalize chV R N C 3 = V1 at *
              generalize chE N C = E1 at *
              generalize mkN N X R = N' at *
              have c0 := z0.cell 0 rfl; have c1 := z0.cell 1 rfl; have c2 := z0.cell 2 rfl
              go_wp2_with fail
              clear c0 c1 c2
              replace y12 := y12.drew; replace z0 := z0.drew; replace hbw := hbw.drew
              replace hIN := hIN.drew; replace hC2 := hC2.drew
              refine wp_region_head 8 (fun w' => Bx w' Y3.heap.size #[.int .i64 (R : Int), .slice av N'.length cv, .slice a2 C.length e2] 24) (by kernel_rfl) rfl ?_
              generalize World.drew _ = Z0 at *
              refine HeadAt.take (i := 0) (.agg #[.int .i64 (R : Int), .slice av N'.length cv, .slice a2 C.length e2]) rfl (by kernel_rfl) (.inl ⟨rfl, fun w' z => ?_⟩) y12 ?_
              · (have z0 := z.cell 0 rfl; have z1 := z.cell 1 rfl; have z2 := z.cell 2 rfl; simp [go_sem, z0, z1, z2])
              refine HeadAt.take (i := 1) (.slice p xs.length cp) rfl (by kernel_rfl) (.inl ⟨rfl, fun _ _ => by simp [go_sem]⟩) y12 ?_
              refine HeadAt.one (i := 2) rfl (by kernel_rfl) ?_
              generalize hK : Upto _ _ = K0
              (try simp only [Act.put, List.getElem_toArray, List.getElem_cons_succ, List.getElem_cons_zero, List.setIfInBounds_toArray, List.set_cons_succ, List.set_cons_zero])
              go_wp2_with fail
              refine (joined1_any _ _ xs _ (hX0.below hbw (Nat.le_refl _)) (by omega)).mono ?_
              rintro e Z1 ⟨hb1, a6, ca6, rfl, hi, -⟩
              replace hIN := hIN.below hb1 (Nat.le_refl _); replace hC2 := hC2.below hb1 (Nat.le_refl _); replace y12 := y12.below hb1; replace z0 := z0.below hb1; replace hbw := hbw.trans (hb1.mono hbw.size); clear hb1
              go_wp2_with fail
              subst hK
              refine ⟨y12, ?_⟩
              refine HeadAt.one (i := 3) rfl (by kernel_rfl) ?_
              generalize hK : Upto _ _ = K0
              (try simp only [List.getElem_toArray, List.getElem_cons_succ, List.getElem_cons_zero])
              go_wp2_with fail
              refine (moN _ _ _ hIN hC2 hi).mono ?_
              rintro e Z2 ⟨rfl, hb1⟩
              replace hIN := hIN.below hb1 (Nat.le_refl _); replace hC2 := hC2.below hb1 (Nat.le_refl _); replace y12 := y12.below hb1; replace z0 := z0.below hb1; replace hbw := hbw.trans (hb1.mono hbw.size); clear hb1
              clear hi moN
              go_wp2_with fail
              subst hK
              refine ⟨y12, ?_⟩
              refine HeadAt.take (i := 4) (.tuple #[.int .i64 M2, .int .i64 0]) rfl (by kernel_rfl) (.inl ⟨rfl, fun _ _ => by simp [go_sem]⟩) y12 ?_
              refine HeadAt.take (i := 5) (.int .i64 M2) rfl (by kernel_rfl) (.inl ⟨rfl, fun _ _ => by simp [go_sem]⟩) y12 ?_
              refine HeadAt.take (i := 6) (.int .i64 0) rfl (by kernel_rfl) (.inl ⟨rfl, fun _ _ => by simp [go_sem]⟩) y12 ?_
              refine HeadAt.take (i := 7) (.int .i64 M2) rfl (by kernel_rfl) (.inl ⟨rfl, fun _ _ => by simp [go_sem]⟩) y12 ?_
              refine HeadAt.done (by kernel_rfl) ?_
              (try simp only [Act.put, List.drop_succ_cons, List.drop_zero, List.getElem_toArray, List.getElem_cons_succ, List.getElem_cons_zero])
              have c0 := z0.cell 0 rfl; have c1 := z0.cell 1 rfl; have c2 := z0.cell 2 rfl
              go_wp2_with fail
              refine NoPanic.normal ?_
              go_wp2_with fail
              refine (ch1 _ (hN0.below hbw (Nat.le_refl _)) (hC0.below hbw (Nat.le_refl _))).mono ?_
              rintro e Z3 ⟨rfl, hb1⟩
              clear c0 c1 c2
              replace hIN := hIN.below hb1 (Nat.le_refl _); replace hC2 := hC2.below hb1 (Nat.le_refl _); replace z0 := z0.below hb1; (try clear u0 u1 u2); replace y12 := y12.below hb1; have u0 := y12.cell 0 rfl; have u1 := y12.cell 1 rfl; have u2 := y12.cell 2 rfl; replace hbw := hbw.trans (hb1.mono hbw.size); clear hb1
              go_wp2_with fail
              refine (ch2 _ hIN hC2).mono ?_
              rintro e Z4 ⟨rfl, hb1⟩
              replace hbw := hbw.trans (hb1.mono hbw.size)
              clear hb1 hIN hC2 y12 z0 u0 u1 u2 ch1 ch2
              rcases hch with ⟨rfl, rfl⟩ | ⟨rfl, rfl⟩ | ⟨rfl, rfl, hVV⟩
              · go_wp2_with fail
                refine (isKnown_3 _).mono ?_
                rintro e w' ⟨rfl, rfl⟩
                go_wp2_with fail
                refine (isKnown_3 _).mono ?_
                rintro e w' ⟨rfl, rfl⟩
                go_wp2_with fail
                refine (works_any _).mono ?_
                rintro e V3 ⟨rfl, hb1⟩
                replace hbw := hbw.trans (hb1.mono hbw.size)
                clear hb1
                go_wp2
                go_ret
                exact ⟨rfl, hbw⟩
              · go_wp2_with fail
                refine (isKnown_3 _).mono ?_
                rintro e w' ⟨rfl, rfl⟩
                go_wp2_with fail
                refine (isKnown_0 _).mono ?_
                rintro e w' ⟨rfl, rfl⟩
                go_wp2_with fail
                refine (works_any _).mono ?_
                rintro e V3 ⟨rfl, hb1⟩
                replace hbw := hbw.trans (hb1.mono hbw.size)
                clear hb1
                go_wp2
                go_ret
                exact ⟨rfl, hbw⟩
              · go_wp2_with fail
                refine (isKnown_0 _).mono ?_
                rintro e w' ⟨rfl, rfl⟩
                go_wp2_with fail
                refine (isKnown_0 _).mono ?_
                rintro e w' ⟨rfl, rfl⟩
                go_wp2_with fail
                refine (works_any _).mono ?_
                rintro e V3 ⟨rfl, hb1⟩
                replace hbw := hbw.trans (hb1.mono hbw.size)
                clear hb1
                go_wp2
                go_ret
                exact ⟨rfl, hbw⟩
        · go_wp2_with fail
          refine (works_any _).mono ?_
          rintro e V3 ⟨rfl, hb1⟩
          replace hb := hb.trans (hb1.mono hb.size)
          clear hb1 x0 x5
          go_wp2
          go_ret
          exact ⟨rfl, hb⟩
end Go.Proofs.Ytmkmnedojgigoaa
