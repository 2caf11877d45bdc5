import Derived.Test.YtmkmnedojgigoaaO2
namespace Go.Proofs.Ytmkmnedojgigoaa
open Go.RowKit

theorem couldR_post {L : List Int} {w W : World} {e : Ending} (h : CouldPost L w e W) : (L = [] ∧ e = .returned (.tuple #[.slice none 0 0, .int .i64 3]) ∧ Below w.heap.size w W) ∨ (L ≠ [] ∧ RowPost2 L w e W) := by
  by_cases hz : L = []
  · exact .inl ⟨hz, h.1 hz⟩
  · exact .inr ⟨hz, h.2 hz⟩

set_option maxRecDepth 100000 in
set_option maxHeartbeats 1000000 in
theorem rNow_bad (r : Int) (an ac : Option Addr) (cn cc : Nat) (N C : List Int) (a : Option Addr) (ca : Nat) (xs : List (Int × Int)) (w : World) (hN : Ints w an N) (hC : Ints w ac C) (hv : validB r N C = false) :
    Calls Try.prog 42 #[.agg #[.int .i64 r, .slice an N.length cn, .slice ac C.length cc], .slice a xs.length ca] w fun e w' => e = .returned (.tuple #[.slice none 0 0, .int .i64 10]) ∧ Below w.heap.size w w' := by
  obtain ⟨W, hW, hb, hs, x0⟩ := boxes1 w #[.int .i64 r, .slice an N.length cn, .slice ac C.length cc] 24
  clear hs
  replace hN := hN.below hb (Nat.le_refl _); replace hC := hC.below hb (Nat.le_refl _)
  have c0 := x0.cell 0 rfl; have c1 := x0.cell 1 rfl; have c2 := x0.cell 2 rfl
  go_enter Try.func42, Try.ntmps42
  go_wp2_with fail
  refine (rCould_bad _ _ _ _ _ _ _ a ca xs _ hN hC hv).mono ?_
  rintro e W1 ⟨rfl, hb1⟩
  replace hb := hb.trans (hb1.mono hb.size); clear hb1
  clear x0 c0 c1 c2 hW
  go_wp2
  go_ret2
  exact ⟨rfl, hb⟩

set_option maxRecDepth 100000 in
set_option maxHeartbeats 1000000 in
theorem rNow_arg (R : Nat) (an ac : Option Addr) (cn cc : Nat) (N C : List Int) (a : Option Addr) (ca : Nat) (xs : List (Int × Int)) (w : World) (hN : Ints w an N) (hC : Ints w ac C) (hX : Prs w a xs) (hv : Vw R N C) (ho : seenOk C xs = false) :
    Calls Try.prog 42 #[.agg #[.int .i64 (R : Int), .slice an N.length cn, .slice ac C.length cc], .slice a xs.length ca] w fun e w' => e = .returned (.tuple #[.slice none 0 0, .int .i64 1]) ∧ Below w.heap.size w w' := by
  obtain ⟨W, hW, hb, hs, x0⟩ := boxes1 w #[.int .i64 (R : Int), .slice an N.length cn, .slice ac C.length cc] 24
  clear hs
  replace hN := hN.below hb (Nat.le_refl _); replace hC := hC.below hb (Nat.le_refl _); replace hX := hX.below hb (Nat.le_refl _)
  have c0 := x0.cell 0 rfl; have c1 := x0.cell 1 rfl; have c2 := x0.cell 2 rfl
  go_enter Try.func42, Try.ntmps42
  go_wp2_with fail
  refine (rCould_arg _ _ _ _ _ _ _ a ca xs _ hN hC hX hv ho).mono ?_
  rintro e W1 ⟨rfl, hb1⟩
  replace hb := hb.trans (hb1.mono hb.size); clear hb1
  clear x0 c0 c1 c2 hW
  go_wp2
  go_ret2
  exact ⟨rfl, hb⟩

set_option maxRecDepth 100000 in
set_option maxHeartbeats 1000000 in
theorem rNow_none (R : Nat) (an ac : Option Addr) (cn cc : Nat) (N C : List Int) (a : Option Addr) (ca : Nat) (xs : List (Int × Int)) (w : World) (hN : Ints w an N) (hC : Ints w ac C) (hX : Prs w a xs) (hv : Vw R N C) (ho : seenOk C xs = true) (hz : bef R N C xs R = []) :
    Calls Try.prog 42 #[.agg #[.int .i64 (R : Int), .slice an N.length cn, .slice ac C.length cc], .slice a xs.length ca] w fun e w' => e = .returned (.tuple #[.slice none 0 0, .int .i64 3]) ∧ Below w.heap.size w w' := by
  obtain ⟨W, hW, hb, hs, x0⟩ := boxes1 w #[.int .i64 (R : Int), .slice an N.length cn, .slice ac C.length cc] 24
  clear hs
  replace hN := hN.below hb (Nat.le_refl _); replace hC := hC.below hb (Nat.le_refl _); replace hX := hX.below hb (Nat.le_refl _)
  have c0 := x0.cell 0 rfl; have c1 := x0.cell 1 rfl; have c2 := x0.cell 2 rfl
  go_enter Try.func42, Try.ntmps42
  go_wp2_with fail
  refine (rCould_ok _ _ _ _ _ _ _ a ca xs _ hN hC hX hv ho).mono ?_
  rintro e W1 hp
  obtain ⟨rfl, hb1⟩ := hp.1 hz
  clear hz hp
  replace hb := hb.trans (hb1.mono hb.size); clear hb1
  clear x0 c0 c1 c2 hW
  go_wp2
  go_ret2
  exact ⟨rfl, hb⟩

theorem bhd_app (R c : Nat) (xs ys : List Int) : bhd R c (xs ++ ys) = bhd R c xs ++ bhd R c ys := by simp [bhd]

set_option maxRecDepth 100000 in
set_option maxHeartbeats 1000000 in
theorem rNow_ok (R : Nat) (an ac : Option Addr) (cn cc : Nat) (N C : List Int) (a : Option Addr) (ca : Nat) (xs : List (Int × Int)) (w : World) (hN : Ints w an N) (hC : Ints w ac C) (hX : Prs w a xs) (hv : Vw R N C) (ho : seenOk C xs = true) (hz : bef R N C xs R ≠ []) :
    Calls Try.prog 42 #[.agg #[.int .i64 (R : Int), .slice an N.length cn, .slice ac C.length cc], .slice a xs.length ca] w (RowPost2 (nowL (bhd R (totS C xs) (bef R N C xs R)) R) w) := by
  obtain ⟨j0, hj, jz0, jz1, jz2⟩ := info_parts info3
  have r1 := hv.r1
  have r2 := hv.r2
  have hsn := ho
  rw [seenOk, Bool.and_eq_true, decide_eq_true_eq] at hsn
  have hN0 := hN; have hC0 := hC; have hX0 := hX
  obtain ⟨W, hW, hb, hs, x0⟩ := boxes1 w #[.int .i64 (R : Int), .slice an N.length cn, .slice ac C.length cc] 24
  clear hs hN hC hX
  have c0 := x0.cell 0 rfl; have c1 := x0.cell 1 rfl; have c2 := x0.cell 2 rfl
  go_enter Try.func42, Try.ntmps42
  go_wp2_with fail
  refine (rCould_ok _ _ _ _ _ _ _ a ca xs _ (hN0.below hb (Nat.le_refl _)) (hC0.below hb (Nat.le_refl _)) (hX0.below hb (Nat.le_refl _)) hv ho).mono ?_
  rintro e W1 hp
  obtain ⟨hb1, aB, cB, rfl, hB, -⟩ := hp.2 hz
  clear hz hp hW c0 c1 c2 ho
  replace x0 := x0.below hb1; replace hb := hb.trans (hb1.mono hb.size); clear hb1
  have hbl := bef_len R N C xs R
  have hbi : ∀ x ∈ bef R N C xs R, ∃ q : Nat, q < R ∧ x = q ∧ gaveB R N C q xs = true := fun x hx => (bef_iff R N C xs x R).1 hx
  obtain ⟨B, hBe⟩ : ∃ B, B = bef R N C xs R := ⟨_, rfl⟩
  rw [← hBe] at hB hbl hbi
  have HB := hid hBe
  obtain ⟨T, hT⟩ : ∃ T, T = totS C xs := ⟨_, rfl⟩
  have HT := hid hT
  have gi : ∀ (q : Nat) (W : World), q < R → gaveB R N C q xs = true → Ints W an N → Ints W ac C → Prs W a xs → Calls Try.prog 87 #[.agg #[.int .i64 (R : Int), .slice an N.length cn, .slice ac C.length cc], .int .i64 q, .slice a xs.length ca] W fun e w' => e = .returned (.int .i64 ((q + T) % R : Nat)) ∧ Below W.heap.size W w' := fun q W hq hg h1 h2 h3 => by
    have := givesR_any R an ac cn cc N C q a ca xs W h1 h2 h3 hv hq hsn.1 (by omega)
    rw [giv, if_pos hg, ← hT] at this
    exact this
  have hlen1 : (bef R N C xs R).length = B.length := by rw [hBe]
  rw [← hBe]
  clear hBe hT
  have lz := x0.lt
  go_wp2_with fail
  go_loopw [8, 9] (fun s8 s9 wr => ∃ (k : Nat), k ≤ B.length ∧ s9 = .int .i64 k ∧ wr.ownsRow W1.heap.size 3 1 s8 k ((bhd R T (B.take k)).map (Value.int .i64)) ∧ Below W1.heap.size W1 wr) (fun _ s9 _ => B.length - (intOf s9).toNat)
  case atStart => exact ⟨0, Nat.zero_le _, rfl, World.ownsRow_nil _ _ _ _, Below.refl _ _⟩
  case round =>
    obtain ⟨k, hk, rfl, hown, hb2⟩ := hrel
    have hb3 := hb.trans (hb2.mono hb.size)
    have y0 := x0.below hb2
    have hB2 := hB.below hb2 (Nat.le_refl _)
    by_cases hlt : k < B.length
    · obtain ⟨b, off, x, rfl, hbs, hc, _, _, hx, hd⟩ := hB2.at hlt
      obtain ⟨q, hq, hxq, hg⟩ := hbi x (List.mem_of_getElem? hx.out)
      subst hxq
      obtain ⟨q', hq'⟩ : ∃ q', q' = (q + T) % R := ⟨_, rfl⟩
      have hql : q' < R := by rw [hq']; exact Nat.mod_lt _ r1
      have gq : ∀ W : World, Below w.heap.size w W → Calls Try.prog 87 #[.agg #[.int .i64 (R : Int), .slice an N.length cn, .slice ac C.length cc], .int .i64 q, .slice a xs.length ca] W fun e w' => e = .returned (.int .i64 q') ∧ Below W.heap.size W w' := fun W hW => by
        rw [hq']
        exact gi q W hq hg (hN0.below hW (Nat.le_refl _)) (hC0.below hW (Nat.le_refl _)) (hX0.below hW (Nat.le_refl _))
      have hs : bhd R T (B.take (k + 1)) = bhd R T (B.take k) ++ [(q' : Int)] := by
        rw [List.take_add_one, hx.out, Option.toList_some, bhd_app]
        simp [bhd, hq']
      have HS := hid hs
      have hBq : (.int .i64 (B.getD k 0) : Value) = .int .i64 q := by simp [List.getD, hx.out]
      have hBq := congrArg some hBq
      have HBq := hid hBq
      clear hs hq' hx hd hBq
      have hkI : (k : Int) < (B.length : Int) := by omega
      have hk0 : (0 : Int) ≤ (k : Int) := by omega
      obtain ⟨a8, c8, rfl⟩ := own_slice hown
      go_wp2_with fail
      replace y0 := y0.drew; replace hb2 := hb2.drew; replace hb3 := hb3.drew
      have hown := own_below hown (Below.refl _ _).drew
      have hcx := Below.keep (Below.refl _ _).drew hc
      refine wp_region_head 10 (fun w' => Bx w' w.heap.size #[.int .i64 (R : Int), .slice an N.length cn, .slice ac C.length cc] 24 ∧ w'.cell? ⟨b, off + k, none⟩ = some (.int .i64 q)) (by kernel_rfl) rfl ?_
      generalize World.drew _ = Y9 at *
      refine HeadAt.take (i := 0) (.slice a8 k c8) rfl (by kernel_rfl) (.inl ⟨rfl, fun _ _ => by simp [go_sem]⟩) ⟨y0, hcx⟩ ?_
      refine HeadAt.take (i := 1) (.agg #[.int .i64 (R : Int), .slice an N.length cn, .slice ac C.length cc]) rfl (by kernel_rfl) (.inl ⟨rfl, fun w' z => ?_⟩) ⟨y0, hcx⟩ ?_
      · (have y := z.1; have z0 := y.cell 0 rfl; have z1 := y.cell 1 rfl; have z2 := y.cell 2 rfl; simp [go_sem, z0, z1, z2])
      refine HeadAt.take (i := 2) (.slice (some ⟨b, off, none⟩) B.length cB) rfl (by kernel_rfl) (.inl ⟨rfl, fun _ _ => by simp [go_sem]⟩) ⟨y0, hcx⟩ ?_
      refine HeadAt.take (i := 3) (.int .i64 k) rfl (by kernel_rfl) (.inl ⟨rfl, fun _ _ => by simp [go_sem]⟩) ⟨y0, hcx⟩ ?_
      refine HeadAt.take (i := 4) (.pointer (some ⟨b, off + k, none⟩)) rfl (by kernel_rfl) (.inl ⟨rfl, fun w' z => ?_⟩) ⟨y0, hcx⟩ ?_
      · simp [go_sem, hlt]
      refine HeadAt.take (i := 5) (.int .i64 q) rfl (by kernel_rfl) (.inl ⟨rfl, fun w' z => ?_⟩) ⟨y0, hcx⟩ ?_
      · (have y := z.2; simp [go_sem, y])
      refine HeadAt.take (i := 6) (.slice a xs.length ca) rfl (by kernel_rfl) (.inl ⟨rfl, fun _ _ => by simp [go_sem]⟩) ⟨y0, hcx⟩ ?_
      refine HeadAt.one (i := 7) rfl (by kernel_rfl) ?_
      generalize hK : Upto _ _ = K0
      (try simp only [Act.put, List.getElem_toArray, List.getElem_cons_succ, List.getElem_cons_zero, List.setIfInBounds_toArray, List.set_cons_succ, List.set_cons_zero])
      go_wp2_with fail
      refine (gq _ hb3).mono ?_
      rintro e Y0 ⟨rfl, hbt⟩
      replace hown := own_below hown hbt
      replace hb2 := hb2.trans (hbt.mono hb2.size)
      replace hcx := Below.keep hbt hcx
      replace y0 := y0.below hbt
      clear gq hB2 hb3 hbt
      go_wp2_with fail
      subst hK
      refine ⟨⟨y0, hcx⟩, ?_⟩
      have lz := hb2.size
      have hb1 := below_one (w := Y0) (.cells #[.int .i64 (q' : Int)] 3)
      have hown1 := own_below hown hb1
      have hnew := Cls.of_bx (Bx.new Y0 #[.int .i64 (q' : Int)] 3)
      replace hcx := Below.keep hb1 hcx
      replace y0 := y0.below hb1
      refine HeadAt.one (i := 8) rfl (by kernel_rfl) ?_
      generalize hK : Upto _ _ = K0
      (try simp only [List.getElem_toArray, List.getElem_cons_succ, List.getElem_cons_zero])
      go_wp2_with fail
      subst hK
      refine ⟨⟨y0, hcx⟩, ?_⟩
      refine HeadAt.one (i := 9) rfl (by kernel_rfl) ?_
      generalize hK : Upto _ _ = K0
      (try simp only [List.getElem_toArray, List.getElem_cons_succ, List.getElem_cons_zero])
      go_wp2_with (at_builtin; refine wpList_app rfl (.tmp 27) (.tmp 35) 22 rfl W1.heap.size 3 j0 (.int .i64 0) 1 8 under22 hj jz0 jz1 jz2 rfl (by decide) _ k _ rfl hown1 (some ⟨Y0.heap.size, 0, none⟩) 1 1 [.int .i64 (q' : Int)] rfl rfl hnew (ints_one [(q' : Int)]) (by unfold maxLen; omega) (by omega) (by simp; omega) ?_; intro v1 Y2 hown2 hgr)
      subst hK
      have hge2 := own_ge hown1
      replace hb2 : Below W1.heap.size W1 Y2 := (hb2.trans (hb1.mono hb2.size)).grown hgr (by simp; omega) (fun k hk => hge2 k hk)
      replace y0 := x0.below hb2
      have hcx2 : Y2.cell? ⟨b, off + k, none⟩ = some (.int .i64 q) := by
        obtain ⟨b2, off2, hae, hbl2, hc2⟩ := hB.2.2 k hlt
        cases hae
        rw [hb2.cell (p := ⟨b, off + k, none⟩) (by show b < W1.heap.size; exact hbl2), hc2]
        exact HBq.out
      refine ⟨⟨y0, hcx2⟩, ?_⟩
      clear hcx hown hown1 hgr hb1 hnew
      refine HeadAt.done (by kernel_rfl) ?_
      (try simp only [List.drop_succ_cons, List.drop_zero])
      go_wp2_with fail
      refine NoPanic.normal ?_
      go_wp2_with fail
      obtain ⟨a9, c9, rfl⟩ := own_slice hown2
      go_roundw
      case rel => exact ⟨k + 1, by omega, by go_num, by rw [HS.out, List.map_append]; exact hown2, hb2⟩
      case measure => simp [intOf]; omega
    · have he : k = B.length := by omega
      subst he
      rw [List.take_length] at hown
      obtain ⟨D, hD⟩ : ∃ D, D = bhd R T B := ⟨_, rfl⟩
      have hDl : D.length = B.length := by rw [hD, bhd_len]
      rw [← hD, ← hDl] at hown
      have hDm : ∀ x ∈ D, 0 ≤ x ∧ x < R := fun x hx => bhd_mem r1 x (by rw [← hD]; exact hx)
      obtain ⟨a8, c8, rfl, hI⟩ := Ints.of_own hown (by omega) (fun x hx => by have := hDm x hx; omega)
      have HD := hid hD
      clear hD hown hB2 hB hbi gi hDl hlen1
      have hbase : w.heap.size + 1 ≤ wr.heap.size := by have := hb2.size; omega
      replace x0 := x0.below hb2
      clear y0 hb2 hb
      obtain ⟨wo, rfl⟩ : ∃ wo : World, wo = wr := ⟨_, rfl⟩
      go_wp2_with fail
      go_loopw [10, 11] (fun s10 s11 wr => ∃ (n : Nat), n ≤ R ∧ s11 = .int .i64 n ∧ wr.ownsRow wo.heap.size 3 1 s10 (nowL D n).length ((nowL D n).map (Value.int .i64)) ∧ Below wo.heap.size wo wr) (fun _ s11 _ => R - (intOf s11).toNat)
      case atStart => exact ⟨0, Nat.zero_le _, rfl, World.ownsRow_nil _ _ _ _, Below.refl _ _⟩
      case round =>
        obtain ⟨n, hn, rfl, hown, hb2⟩ := hrel
        have hnl := nowL_len D n
        obtain ⟨a10, c10, rfl⟩ := own_slice hown
        have y0 := x0.below hb2
        have hI2 := hI.below hb2 (Nat.le_refl _)
        by_cases hlt2 : n < R
        · have c0 := y0.cell 0 rfl; have c1 := y0.cell 1 rfl; have c2 := y0.cell 2 rfl
          cases hg : inB D (n : Int)
          · have hs : nowL D (n + 1) = nowL D n := by simp [nowL, hg]
            have HS := hid hs; clear hs
            go_wp2_with fail
            refine (in_any _ _ _ _ _ hI2).mono ?_
            rintro e w' ⟨rfl, rfl⟩
            rw [hg]
            go_wp2_with fail
            go_roundw
            case rel => exact ⟨n + 1, by omega, by go_num, by rw [HS.out]; exact hown, hb2⟩
            case measure => simp [intOf]; omega
          · have hs : nowL D (n + 1) = nowL D n ++ [(n : Int)] := by simp [nowL, hg]
            have HS := hid hs; clear hs
            go_wp2_with fail
            refine (in_any _ _ _ _ _ hI2).mono ?_
            rintro e w' ⟨rfl, rfl⟩
            rw [hg]
            have lz2 := hb2.size
            have hb1 := below_one (w := wr) (.cells #[.int .i64 (n : Int)] 3)
            have hown1 := own_below hown hb1
            have hnew := Cls.of_bx (Bx.new wr #[.int .i64 (n : Int)] 3)
            go_wp2_with (at_builtin; refine wpList_app rfl (.tmp 46) (.tmp 48) 22 rfl wo.heap.size 3 j0 (.int .i64 0) 1 8 under22 hj jz0 jz1 jz2 rfl (by decide) _ (nowL D n).length _ rfl hown1 (some ⟨wr.heap.size, 0, none⟩) 1 1 [.int .i64 (n : Int)] rfl rfl hnew (ints_one [(n : Int)]) (by unfold maxLen; omega) (by omega) (by simp; omega) ?_; intro v1 Y2 hown2 hgr)
            have hge2 := own_ge hown1
            replace hb2 : Below wo.heap.size wo Y2 := (hb2.trans (hb1.mono hb2.size)).grown hgr (by simp; omega) (fun k hk => hge2 k hk)
            obtain ⟨a9, c9, rfl⟩ := own_slice hown2
            go_roundw
            case rel => exact ⟨n + 1, by omega, by go_num, by rw [HS.out, List.length_append, List.map_append]; exact hown2, hb2⟩
            case measure => simp [intOf]; omega
        · have he : n = R := by omega
          subst he
          obtain ⟨a9, c9, e9, hI3⟩ := Ints.of_own hown (by omega) (fun x hx => by
            obtain ⟨⟨q, h1, h2⟩, _⟩ := (nowL_iff D x n).1 hx
            omega)
          simp only [Value.slice.injEq] at e9
          obtain ⟨rfl, -, rfl⟩ := e9
          have hnew := own_new hown
          replace hb3 := hb3.trans (hb2.mono hb3.size)
          have c0 := y0.cell 0 rfl; have c1 := y0.cell 1 rfl; have c2 := y0.cell 2 rfl
          go_wp2
          go_ret2
          unfold RowPost2
          rw [← HB.out, ← HT.out, ← HD.out]
          exact ⟨hb3, a10, c10, rfl, hI3, fun x hx => by have := hnew x hx; omega⟩

/-- What Could and Now answer. -/
def SeenPost (e : Int) (L : List Int) (w : World) (en : Ending) (w' : World) : Prop :=
  Below w.heap.size w w' ∧ ∃ (a : Option Addr) (ca : Nat), en = .returned (.tuple #[.slice a L.length ca, .int .i64 e]) ∧ Ints w' a L
theorem seenPost_nil {e : Int} {w w' : World} {en : Ending} (h : en = .returned (.tuple #[.slice none 0 0, .int .i64 e]) ∧ Below w.heap.size w w') : SeenPost e [] w en w' :=
  ⟨h.2, none, 0, h.1, ints_nil _⟩
theorem seenPost_row {L : List Int} {w w' : World} {en : Ending} (h : RowPost2 L w en w') : SeenPost 0 L w en w' := by
  obtain ⟨h1, a, ca, h2, h3, _⟩ := h
  exact ⟨h1, a, ca, h2, h3⟩
def cldE (r : Int) (N C : List Int) (xs : List (Int × Int)) : Int := if validB r N C then (if seenOk C xs then (if bef r.toNat N C xs r.toNat = [] then 3 else 0) else 1) else 10
def cldL (r : Int) (N C : List Int) (xs : List (Int × Int)) : List Int := if validB r N C && seenOk C xs then bef r.toNat N C xs r.toNat else []
def nowV (r : Int) (N C : List Int) (xs : List (Int × Int)) : List Int := if validB r N C && seenOk C xs then srt (bhd r.toNat (totS C xs) (bef r.toNat N C xs r.toNat)) else []

theorem could_any (r : Int) (an ac : Option Addr) (cn cc : Nat) (N C : List Int) (a : Option Addr) (ca : Nat) (xs : List (Int × Int)) (w : World) (hN : Ints w an N) (hC : Ints w ac C) (hX : Prs w a xs) :
    Calls Try.prog 39 #[.agg #[.int .i64 r, .slice an N.length cn, .slice ac C.length cc], .slice a xs.length ca] w (SeenPost (cldE r N C xs) (cldL r N C xs) w) := by
  cases hv : validB r N C
  · simp only [cldE, cldL, hv, Bool.false_and]
    exact (Could_bad r an ac cn cc N C a ca xs w hN hC hv).mono fun _ _ h => seenPost_nil h
  · obtain ⟨R, rfl, hw⟩ := Vw.of_valid hv
    cases ho : seenOk C xs
    · simp only [cldE, cldL, hv, ho, Bool.and_false]
      exact (Could_arg R an ac cn cc N C a ca xs w hN hC hX hw (seenOk_iff ▸ ho)).mono fun _ _ h => seenPost_nil h
    · by_cases hz : bef R N C xs R = []
      · simp only [cldE, cldL, hv, ho, Bool.and_true, if_true, Int.toNat_natCast, hz]
        exact (Could_none R an ac cn cc N C a ca xs w hN hC hX hw (seenOk_iff ▸ ho) hz).mono fun _ _ h => seenPost_nil h
      · simp only [cldE, cldL, hv, ho, Bool.and_true, if_true, Int.toNat_natCast, if_neg hz]
        exact (Could_ok R an ac cn cc N C a ca xs w hN hC hX hw (seenOk_iff ▸ ho) hz).mono fun _ _ h => seenPost_row h
theorem rcould_any (r : Int) (an ac : Option Addr) (cn cc : Nat) (N C : List Int) (a : Option Addr) (ca : Nat) (xs : List (Int × Int)) (w : World) (hN : Ints w an N) (hC : Ints w ac C) (hX : Prs w a xs) :
    Calls Try.prog 40 #[.agg #[.int .i64 r, .slice an N.length cn, .slice ac C.length cc], .slice a xs.length ca] w (SeenPost (cldE r N C xs) (cldL r N C xs) w) := by
  cases hv : validB r N C
  · simp only [cldE, cldL, hv, Bool.false_and]
    exact (rCould_bad r an ac cn cc N C a ca xs w hN hC hv).mono fun _ _ h => seenPost_nil h
  · obtain ⟨R, rfl, hw⟩ := Vw.of_valid hv
    cases ho : seenOk C xs
    · simp only [cldE, cldL, hv, ho, Bool.and_false]
      exact (rCould_arg R an ac cn cc N C a ca xs w hN hC hX hw ho).mono fun _ _ h => seenPost_nil h
    · refine (rCould_ok R an ac cn cc N C a ca xs w hN hC hX hw ho).mono fun _ _ h => ?_
      simp only [cldE, cldL, hv, ho, Bool.and_true, if_true, Int.toNat_natCast]
      by_cases hz : bef R N C xs R = []
      · simp only [hz, if_true]
        exact seenPost_nil (h.1 hz)
      · simp only [if_neg hz]
        exact seenPost_row (h.2 hz)
theorem now_any (r : Int) (an ac : Option Addr) (cn cc : Nat) (N C : List Int) (a : Option Addr) (ca : Nat) (xs : List (Int × Int)) (w : World) (hN : Ints w an N) (hC : Ints w ac C) (hX : Prs w a xs) :
    Calls Try.prog 41 #[.agg #[.int .i64 r, .slice an N.length cn, .slice ac C.length cc], .slice a xs.length ca] w (SeenPost (cldE r N C xs) (nowV r N C xs) w) := by
  cases hv : validB r N C
  · simp only [cldE, nowV, hv, Bool.false_and]
    exact (Now_bad r an ac cn cc N C a ca xs w hN hC hv).mono fun _ _ h => seenPost_nil h
  · obtain ⟨R, rfl, hw⟩ := Vw.of_valid hv
    cases ho : seenOk C xs
    · simp only [cldE, nowV, hv, ho, Bool.and_false]
      exact (Now_arg R an ac cn cc N C a ca xs w hN hC hX hw (seenOk_iff ▸ ho)).mono fun _ _ h => seenPost_nil h
    · by_cases hz : bef R N C xs R = []
      · simp only [cldE, nowV, hv, ho, Bool.and_true, if_true, Int.toNat_natCast, hz]
        exact (Now_none R an ac cn cc N C a ca xs w hN hC hX hw (seenOk_iff ▸ ho) hz).mono fun _ _ h => by simpa [bhd, srt] using seenPost_nil h
      · simp only [cldE, nowV, hv, ho, Bool.and_true, if_true, Int.toNat_natCast, if_neg hz]
        exact (Now_ok R an ac cn cc N C a ca xs w hN hC hX hw (seenOk_iff ▸ ho) hz).mono fun _ _ h => seenPost_row h
theorem rnow_any (r : Int) (an ac : Option Addr) (cn cc : Nat) (N C : List Int) (a : Option Addr) (ca : Nat) (xs : List (Int × Int)) (w : World) (hN : Ints w an N) (hC : Ints w ac C) (hX : Prs w a xs) :
    Calls Try.prog 42 #[.agg #[.int .i64 r, .slice an N.length cn, .slice ac C.length cc], .slice a xs.length ca] w (SeenPost (cldE r N C xs) (nowV r N C xs) w) := by
  cases hv : validB r N C
  · simp only [cldE, nowV, hv, Bool.false_and]
    exact (rNow_bad r an ac cn cc N C a ca xs w hN hC hv).mono fun _ _ h => seenPost_nil h
  · obtain ⟨R, rfl, hw⟩ := Vw.of_valid hv
    cases ho : seenOk C xs
    · simp only [cldE, nowV, hv, ho, Bool.and_false]
      exact (rNow_arg R an ac cn cc N C a ca xs w hN hC hX hw ho).mono fun _ _ h => seenPost_nil h
    · by_cases hz : bef R N C xs R = []
      · simp only [cldE, nowV, hv, ho, Bool.and_true, if_true, Int.toNat_natCast, hz]
        exact (rNow_none R an ac cn cc N C a ca xs w hN hC hX hw ho hz).mono fun _ _ h => by simpa [bhd, srt] using seenPost_nil h
      · simp only [cldE, nowV, hv, ho, Bool.and_true, if_true, Int.toNat_natCast, if_neg hz]
        refine (rNow_ok R an ac cn cc N C a ca xs w hN hC hX hw ho hz).mono fun _ _ h => ?_
        rw [nowL_srt (bhd_nodup R N C xs _) (bhd_mem hw.r1)] at h
        exact seenPost_row h
end Go.Proofs.Ytmkmnedojgigoaa
