import Derived.Test.YtmkmnedojgigoaaU2
namespace Go.Proofs.Ytmkmnedojgigoaa
open Go.RowKit

theorem lsf_rng {f o : Nat → Int} {n : Nat} (ho : ∀ k, k ≤ n → 0 ≤ o k) (hf : ∀ k, k ≤ n → 0 ≤ f k) : ∀ m, m ≤ n → 0 ≤ lsf f o n m ∧ lsf f o n m ≤ o n
  | 0, _ => ⟨ho n (Nat.le_refl _), Int.le_refl _⟩
  | 1, _ => ⟨ho n (Nat.le_refl _), Int.le_refl _⟩
  | m + 2, h => by
    have ih := lsf_rng ho hf (m + 1) (by omega)
    have h1 := ho (m + 1) (by omega)
    have h2 := hf (n - (m + 1)) (by omega)
    unfold lsf
    omega

set_option maxRecDepth 100000 in
set_option maxHeartbeats 1000000 in
theorem rcheap_bad (r : Int) (an ac : Option Addr) (cn cc : Nat) (N C : List Int) (m : Int) (w : World) (hN : Ints w an N) (hC : Ints w ac C) (hv : validB r N C = false) :
    Calls Try.prog 38 #[.agg #[.int .i64 r, .slice an N.length cn, .slice ac C.length cc], .int .i64 m] w fun e w' => e = .returned (.tuple #[.int .i64 0, .int .i64 10]) ∧ Below w.heap.size w w' := by
  have hk : chk r N C = 10 := by simp [chk, hv]
  obtain ⟨W, hW, hb, hs, x0⟩ := boxes1 w #[.int .i64 r, .slice an N.length cn, .slice ac C.length cc] 24
  clear hs
  replace hN := hN.below hb (Nat.le_refl _); replace hC := hC.below hb (Nat.le_refl _)
  have c0 := x0.cell 0 rfl; have c1 := x0.cell 1 rfl; have c2 := x0.cell 2 rfl
  go_enter Try.func38, Try.ntmps38
  go_wp2_with fail
  refine (refCheck_any _ _ _ _ _ _ _ _ hN hC).mono ?_
  rintro e W1 ⟨rfl, hb1⟩
  rw [hk]
  replace hb := hb.trans (hb1.mono hb.size); clear hb1
  clear c0 c1 c2 hW
  go_wp2
  go_ret2
  exact ⟨rfl, hb⟩
set_option maxRecDepth 100000 in
set_option maxHeartbeats 1000000 in
theorem rcheap_arg (R : Nat) (an ac : Option Addr) (cn cc : Nat) (N C : List Int) (m : Int) (w : World) (hN : Ints w an N) (hC : Ints w ac C) (hv : Vw R N C) (hm : inR 1 m 20 = false) :
    Calls Try.prog 38 #[.agg #[.int .i64 (R : Int), .slice an N.length cn, .slice ac C.length cc], .int .i64 m] w fun e w' => e = .returned (.tuple #[.int .i64 0, .int .i64 1]) ∧ Below w.heap.size w w' := by
  have hk : chk (R : Int) N C = 0 := by simp [chk, hv.valid]
  obtain ⟨W, hW, hb, hs, x0⟩ := boxes1 w #[.int .i64 (R : Int), .slice an N.length cn, .slice ac C.length cc] 24
  clear hs
  replace hN := hN.below hb (Nat.le_refl _); replace hC := hC.below hb (Nat.le_refl _)
  have c0 := x0.cell 0 rfl; have c1 := x0.cell 1 rfl; have c2 := x0.cell 2 rfl
  go_enter Try.func38, Try.ntmps38
  go_wp2_with fail
  refine (refCheck_any _ _ _ _ _ _ _ _ hN hC).mono ?_
  rintro e W1 ⟨rfl, hb1⟩
  rw [hk]
  replace hb := hb.trans (hb1.mono hb.size); clear hb1
  clear c0 c1 c2 hW
  go_wp2_with (go_at_call 58; refine (within_any _ _ _ _).mono ?_; rintro e w' ⟨rfl, rfl⟩)
  go_ret2
  exact ⟨rfl, hb⟩
set_option maxRecDepth 100000 in
set_option maxHeartbeats 1000000 in
theorem rcheap_none (R : Nat) (an ac : Option Addr) (cn cc : Nat) (N C : List Int) (m : Nat) (w : World) (hN : Ints w an N) (hC : Ints w ac C) (hv : Vw R N C) (hn1 : 1 ≤ m) (hn2 : m ≤ 20) (hz : N = [] ∨ C = []) :
    Calls Try.prog 38 #[.agg #[.int .i64 (R : Int), .slice an N.length cn, .slice ac C.length cc], .int .i64 m] w fun e w' => e = .returned (.tuple #[.int .i64 0, .int .i64 3]) ∧ Below w.heap.size w w' := by
  have hm : inR 1 (m : Int) 20 = true := inR_iff.2 (by omega)
  have hk : chk (R : Int) N C = 0 := by simp [chk, hv.valid]
  obtain ⟨W, hW, hb, hs, x0⟩ := boxes1 w #[.int .i64 (R : Int), .slice an N.length cn, .slice ac C.length cc] 24
  clear hs
  replace hN := hN.below hb (Nat.le_refl _); replace hC := hC.below hb (Nat.le_refl _)
  have c0 := x0.cell 0 rfl; have c1 := x0.cell 1 rfl; have c2 := x0.cell 2 rfl
  go_enter Try.func38, Try.ntmps38
  go_wp2_with fail
  refine (refCheck_any _ _ _ _ _ _ _ _ hN hC).mono ?_
  rintro e W1 ⟨rfl, hb1⟩
  rw [hk]
  clear hW
  replace hN := hN.below hb1 (Nat.le_refl _); replace hC := hC.below hb1 (Nat.le_refl _); (try clear c0 c1 c2); replace x0 := x0.below hb1; have c0 := x0.cell 0 rfl; have c1 := x0.cell 1 rfl; have c2 := x0.cell 2 rfl; replace hb := hb.trans (hb1.mono hb.size); clear hb1
  by_cases hc : C = []
  · have hcB : ((C.length : Int) == 0) = true := by simp [hc]
    clear hz hc
    go_wp2_with (go_at_call 58; refine (within_any _ _ _ _).mono ?_; rintro e w' ⟨rfl, rfl⟩)
    go_ret2
    exact ⟨rfl, hb⟩
  · have hcB : ((C.length : Int) == 0) = false := by simp [hc]
    have hn : N = [] := by rcases hz with h | h; exact h; exact absurd h hc
    have hnB : ((N.length : Int) == 0) = true := by simp [hn]
    clear hz hn hc
    go_wp2_with (go_at_call 58; refine (within_any _ _ _ _).mono ?_; rintro e w' ⟨rfl, rfl⟩)
    go_ret2
    exact ⟨rfl, hb⟩

theorem chp_rng {R : Nat} {N C : List Int} (hv : Vw R N C) (hN : N ≠ []) (hC : C ≠ []) {k : Nat} (hk : k ≤ 20) : 0 ≤ chp R N C k ∧ chp R N C k ≤ 82000 := by
  rcases Nat.eq_zero_or_pos k with rfl | h
  · rw [chp_zero]; omega
  · exact ⟨chp_ge hv hN hC k, (csts_rng hv hN hC (by omega) h (by omega) k).2⟩

/-- The length of a slice. -/
def slLen : Value → Nat
  | .slice _ n _ => n
  | _ => 0
theorem slLen_slice (a : Option Addr) (n c : Nat) : slLen (.slice a n c) = n := rfl
theorem put_one (R : Nat) (an ac : Option Addr) (cn cc : Nat) (N C : List Int) (c : Nat) (w : World) (hN : Ints w an N) (hv : Vw R N C) :
    ∃ G : Nat, fs R N (c + 1) = fs R N c + G ∧ Calls Try.prog 72 #[.agg #[.int .i64 (R : Int), .slice an N.length cn, .slice ac C.length cc], .int .i64 (c % R : Nat), .int .i64 1] w fun e w' => e = .returned (.tuple #[.int .i64 ((c + 1) % R : Nat), .int .i64 G]) ∧ Below w.heap.size w w' := by
  have r1 := hv.r1
  have h := put_any R an ac cn cc N C (c % R) 1 w hN hv (Nat.mod_lt _ r1) (by omega)
  rw [Nat.mod_add_mod, fs_per r1] at h
  exact ⟨gv R N c 1, by have := fs_mono hv (show c ≤ c + 1 by omega); unfold gv; omega, h⟩

set_option maxRecDepth 100000 in
set_option maxHeartbeats 6000000 in
theorem rcheap_ok (R : Nat) (an ac : Option Addr) (cn cc : Nat) (N C : List Int) (m : Nat) (w : World) (hN : Ints w an N) (hC : Ints w ac C) (hv : Vw R N C) (hn1 : 1 ≤ m) (hn2 : m ≤ 20) (hNe : N ≠ []) (hCe : C ≠ []) :
    Calls Try.prog 38 #[.agg #[.int .i64 (R : Int), .slice an N.length cn, .slice ac C.length cc], .int .i64 m] w fun e w' => e = .returned (.tuple #[.int .i64 (chp R N C m), .int .i64 0]) ∧ Below w.heap.size w w' := by
  have hm : inR 1 (m : Int) 20 = true := inR_iff.2 (by omega)
  have hk : chk (R : Int) N C = 0 := by simp [chk, hv.valid]
  obtain ⟨j0, hj, jz0, jz1, jz2⟩ := info_parts info3
  have r1 := hv.r1
  have r2 := hv.r2
  have hco := (hv.coin (List.length_pos_iff.2 hCe)).2
  have HNC := hid (And.intro hNe hCe); clear hNe hCe
  have HCo := hid hco; clear hco
  obtain ⟨W, hW, hb, hs, x0⟩ := boxes1 w #[.int .i64 (R : Int), .slice an N.length cn, .slice ac C.length cc] 24
  clear hs
  have hN0 := hN; have hC0 := hC
  clear hN hC
  have c0 := x0.cell 0 rfl; have c1 := x0.cell 1 rfl; have c2 := x0.cell 2 rfl
  go_enter Try.func38, Try.ntmps38
  go_wp2_with fail
  refine (refCheck_any _ _ _ _ _ _ _ _ (hN0.below hb (Nat.le_refl _)) (hC0.below hb (Nat.le_refl _))).mono ?_
  rintro e W1 ⟨rfl, hb1⟩
  rw [hk]
  clear hW hk
  (try clear c0 c1 c2); replace x0 := x0.below hb1; have c0 := x0.cell 0 rfl; have c1 := x0.cell 1 rfl; have c2 := x0.cell 2 rfl; replace hb := hb.trans (hb1.mono hb.size); clear hb1
  have hcB : ((C.length : Int) == 0) = false := by simp [HNC.out.2]
  have hnB : ((N.length : Int) == 0) = false := by simp [HNC.out.1]
  go_wp2_with (go_at_call 58; refine (within_any _ _ _ _).mono ?_; rintro e w' ⟨rfl, rfl⟩)
  refine (rcan_any _ _ _ _ _ _ _ 4100 _ (hC0.below hb (Nat.le_refl _)) hv (by omega)).mono ?_
  rintro e W2 ⟨hb1, a1, k1, rfl, hS, -⟩
  clear hm hcB hnB
  replace x0 := x0.below hb1; replace hb := hb.trans (hb1.mono hb.size); clear hb1
  (try clear c0 c1 c2)
  obtain ⟨S, hS0⟩ : ∃ x, x = canL C 4100 := ⟨_, rfl⟩
  rw [← hS0] at hS ⊢
  have hSl : S.length = 4101 := by rw [hS0, canL_len]
  have hSat : ∀ i, i ≤ 4100 → S[i]? = some (if (tab C i).getD i false then 1 else 0) := fun i hi => by rw [hS0, canL_at C hi, tab_old C 4100 i hi]
  have HSat := hid hSat
  have HSl := hid hSl
  clear hS0 hSat
  have y : (W2.alloc (.cells #[.int .i64 0] 3)).ownsRow W2.heap.size 3 1 (.slice (some ⟨W2.heap.size, 0, none⟩) 1 1) 1 [.int .i64 0] := World.ownsRow_lit W2 #[.int .i64 0] 1 (Nat.le_refl _) (by unfold maxLen; omega) rfl
  have hb1 := below_one (w := W2) (.cells #[.int .i64 0] 3)
  have hbw := hb.size
  rw [hSl]
  clear hSl
  go_wp2
  generalize hX : W2.alloc _ = W3 at *
  clear hX
  go_loopw [8, 9, 10, 11] (fun v8 v9 v10 v11 wr => ∃ (c : Nat), c ≤ 4099 ∧ v11 = .int .i64 ((c : Int) + 1) ∧ v9 = .int .i64 (c % R : Nat) ∧ v10 = .int .i64 (fs R N c : Nat) ∧ wr.ownsRow W2.heap.size 3 1 v8 (onel R N C m c).length ((onel R N C m c).map (Value.int .i64)) ∧ Below W2.heap.size W2 wr) (fun _ _ _ v11 _ => 4102 - (intOf v11).toNat)
  case atStart => exact ⟨0, Nat.zero_le _, rfl, by rw [Nat.zero_mod]; rfl, by rw [fs_zero hv]; rfl, y, hb1⟩
  case round =>
    clear y hb1
    obtain ⟨c, hc, rfl, rfl, rfl, hown, hb2⟩ := hrel
    have hl := onel_len (R := R) (N := N) (C := C) (P := m) c
    have hx := onel_rng (P := m) hv c
    have hfull := fun h => onel_full (P := m) (c := c) hv HNC.out.1 HNC.out.2 h hn1
    have hnx : onel R N C m (c + 1) = onel R N C m c ++ List.replicate (if (tab C (c + 1)).getD (c + 1) false then min (fs R N (c + 1)) m + 1 - (onel R N C m c).length else 0) ((c + 1 : Nat) : Int) := by
      rw [onel]; split
      · rfl
      · simp
    obtain ⟨l', hl'⟩ : ∃ x, x = onel R N C m (c + 1) := ⟨_, rfl⟩
    obtain ⟨l, hle⟩ : ∃ x, x = onel R N C m c := ⟨_, rfl⟩
    rw [← hl', ← hle] at hnx
    rw [← hle] at hown hl hx hfull
    obtain ⟨q, hq⟩ : ∃ x, x = l.length := ⟨_, rfl⟩
    rw [← hq] at hown hl hfull hnx
    have Hq := hid hq; have Hle := hid hle; have Hl' := hid hl'; have Hnx := hid hnx; have Hx := hid hx; have Hfull := hid hfull
    clear hq hle hl' hnx hx hfull
    have hbA := hb.trans (hb2.mono hb.size)
    have x1 := x0.below hb2
    have c0 := x1.cell 0 rfl; have c1 := x1.cell 1 rfl; have c2 := x1.cell 2 rfl
    have hSA := hS.below hb2 (Nat.le_refl _)
    have g1 : decide ((c : Int) + 1 < 4101) = true := by simp; omega
    by_cases hgo2 : q ≤ m
    · obtain ⟨g, cap, rfl⟩ := Go.Joins.ownsRow_form hown (by omega)
      have hgo1 : c < 4099 := by
        have h1 := HCo.out
        have h2 := Nat.mul_le_mul hn2 r2
        have h3 := Hfull.out
        by_cases h : m * R + cw C 0 ≤ c + 1
        · have := h3 h; omega
        · omega
      obtain ⟨G, hG, hput⟩ := put_one R an ac cn cc N C c wr (hN0.below hbA (Nat.le_refl _)) hv
      have hfl := fs_le hv c
      have hgl := fs_le hv (c + 1)
      rw [hG] at hgl
      obtain ⟨F, hF⟩ : ∃ x, x = fs R N c := ⟨_, rfl⟩
      rw [← hF] at hfl hgl hG ⊢
      obtain ⟨D, hD⟩ : ∃ x, x = (if (tab C (c + 1)).getD (c + 1) false then min (F + G) m + 1 - q else 0) := ⟨_, rfl⟩
      rw [hG, ← hD] at Hnx
      have hDm : q + D ≤ m + 1 := by rw [hD]; split <;> omega
      have HF := hid hF; have HG := hid hG; have HD := hid hD
      clear hF hG hD
      go_wp2_with fail
      refine hput.mono ?_
      rintro e W4 ⟨rfl, hb3⟩
      replace hown := own_below hown hb3
      replace hb2 := hb2.trans (hb3.mono hb2.size)
      clear hput hb3 x1 c0 c1 c2 hSA hbA
      go_wp2
      go_loopw [8] (fun v8 wi => ∃ j : Nat, j ≤ D ∧ wi.ownsRow W2.heap.size 3 1 v8 (q + j) ((l ++ List.replicate j ((c + 1 : Nat) : Int)).map (Value.int .i64)) ∧ Below W2.heap.size W2 wi) (fun v8 _ => m + 1 - slLen v8)
      case atStart => exact ⟨0, Nat.zero_le _, by simpa using hown, hb2⟩
      case round =>
        clear hown hb2
        obtain ⟨j, hj', hown, hb2⟩ := hrel
        obtain ⟨g, cap, rfl⟩ := Go.Joins.ownsRow_form hown (by omega)
        have hSA := hS.below hb2 (Nat.le_refl _)
        obtain ⟨ba, off, x, rfl, hbs, hcs, _, _, hx, _⟩ := hSA.at (k := c + 1) (by have := HSl.out; omega)
        have hx' := hx.out
        rw [HSat.out (c + 1) (by omega)] at hx'
        obtain ⟨p, hp⟩ : ∃ x, x = q + j := ⟨_, rfl⟩
        rw [← hp] at hown ⊢
        have Hp := hid hp
        have hpm : p ≤ m + 1 := by omega
        clear hx hp
        cases hbr : (tab C (c + 1)).getD (c + 1) false
        · rw [hbr] at hx'
          have hx0 : x = 0 := by simpa using hx'.symm
          subst hx0
          clear hx'
          have hjD : j = D := by have := HD.out; rw [hbr] at this; simp at this; omega
          have hpl : p = l'.length := by rw [Hnx.out, List.length_append, List.length_replicate, ← Hq.out, Hp.out, hjD]
          rw [hjD, ← Hnx.out] at hown
          clear hjD
          go_wp2
          go_roundw
          case rel => exact ⟨c + 1, by omega, by go_num, by go_num, by rw [HG.out]; go_num, by rw [← Hl'.out, ← hpl]; exact hown, hb2⟩
          case measure => simp [intOf]; omega
        · rw [hbr] at hx'
          have hx0 : x = 1 := by simpa using hx'.symm
          subst hx0
          clear hx'
          have HB := hid hbr; clear hbr
          have HDm := hid (show D = (if F + G ≤ m then F + G else m) + 1 - q by have := HD.out; rw [HB.out] at this; rw [this, if_pos rfl, Nat.min_def])
          have hsz2 := hb2.size
          by_cases hfm : F + G ≤ m
          · have i1 : (F : Int) + (G : Int) ≤ (m : Int) := by omega
            by_cases hpp : p ≤ F + G
            · have i2 : (p : Int) ≤ (F : Int) + (G : Int) := by omega
              go_wp2_with (first | (at_builtin; go_must (refine wpList_append_own _ rfl _ _ 22 rfl W2.heap.size 3 j0 (.int .i64 0) 1 8 under22 hj jz0 jz1 jz2 rfl (by decide) _ _ _ rfl (hown.alloc _) ⟨wr.heap.size, 0, none⟩ 1 1 [.int .i64 ((c : Int) + 1)] rfl rfl (cell_one_new _ _ _) (ints_oneCell .i64 [(c : Int) + 1]) (by unfold maxLen; omega) (by omega) (by simp; omega) ?_); intro v' w1 hown' hgrow _))
              have hge := own_ge hown
              have hb3 : Below W2.heap.size W2 w1 := (hb2.alloc (by omega) _).grown hgrow (by simp; omega) (fun k hk => by have := hge k hk; omega)
              obtain ⟨g', cap', rfl⟩ := Go.Joins.ownsRow_form hown' (by simp)
              clear hown hgrow hb2 hge hSA hcs
              go_wp2
              go_roundw
              case rel => exact ⟨j + 1, by have h1 := HDm.out; have h2 := Hp.out; (first | rw [if_pos hfm] at h1 | rw [if_neg hfm] at h1); omega, by rw [List.replicate_succ', ← List.append_assoc]; simpa [Hp.out, Nat.add_assoc] using hown', hb3⟩
              case measure => simp [slLen]; omega
            · have i2 : (F : Int) + (G : Int) < (p : Int) := by omega
              have hjD : j = D := by have h1 := HDm.out; have h2 := Hp.out; rw [if_pos hfm] at h1; omega
              have hpl : p = l'.length := by rw [Hnx.out, List.length_append, List.length_replicate, ← Hq.out, Hp.out, hjD]
              rw [hjD, ← Hnx.out] at hown
              clear hjD
              go_wp2
              go_roundw
              case rel => exact ⟨c + 1, by omega, by go_num, by go_num, by rw [HG.out]; go_num, by rw [← Hl'.out, ← hpl]; exact hown, hb2⟩
              case measure => simp [intOf]; omega
          · have i1 : (m : Int) < (F : Int) + (G : Int) := by omega
            by_cases hpp : p ≤ m
            · have i2 : (p : Int) ≤ (m : Int) := by omega
              go_wp2_with (first | (at_builtin; go_must (refine wpList_append_own _ rfl _ _ 22 rfl W2.heap.size 3 j0 (.int .i64 0) 1 8 under22 hj jz0 jz1 jz2 rfl (by decide) _ _ _ rfl (hown.alloc _) ⟨wr.heap.size, 0, none⟩ 1 1 [.int .i64 ((c : Int) + 1)] rfl rfl (cell_one_new _ _ _) (ints_oneCell .i64 [(c : Int) + 1]) (by unfold maxLen; omega) (by omega) (by simp; omega) ?_); intro v' w1 hown' hgrow _))
              have hge := own_ge hown
              have hb3 : Below W2.heap.size W2 w1 := (hb2.alloc (by omega) _).grown hgrow (by simp; omega) (fun k hk => by have := hge k hk; omega)
              obtain ⟨g', cap', rfl⟩ := Go.Joins.ownsRow_form hown' (by simp)
              clear hown hgrow hb2 hge hSA hcs
              go_wp2
              go_roundw
              case rel => exact ⟨j + 1, by have h1 := HDm.out; have h2 := Hp.out; (first | rw [if_pos hfm] at h1 | rw [if_neg hfm] at h1); omega, by rw [List.replicate_succ', ← List.append_assoc]; simpa [Hp.out, Nat.add_assoc] using hown', hb3⟩
              case measure => simp [slLen]; omega
            · have i2 : (m : Int) < (p : Int) := by omega
              have hjD : j = D := by have h1 := HDm.out; have h2 := Hp.out; rw [if_neg hfm] at h1; omega
              have hpl : p = l'.length := by rw [Hnx.out, List.length_append, List.length_replicate, ← Hq.out, Hp.out, hjD]
              rw [hjD, ← Hnx.out] at hown
              clear hjD
              go_wp2
              go_roundw
              case rel => exact ⟨c + 1, by omega, by go_num, by go_num, by rw [HG.out]; go_num, by rw [← Hl'.out, ← hpl]; exact hown, hb2⟩
              case measure => simp [intOf]; omega
    · have hqm : q = m + 1 := by omega
      have i0 : (m : Int) < (q : Int) := by omega
      have Hqm := hid hqm
      obtain ⟨a2, k2, rfl, hO⟩ := Ints.of_own (xs := l) (by rw [← Hq.out]; exact hown) (by rw [← Hq.out]; omega) (fun x hx => by have := Hx.out x hx; omega)
      rw [← Hq.out]
      have y : (wr.alloc (.cells #[.int .i64 0] 3)).ownsRow wr.heap.size 3 1 (.slice (some ⟨wr.heap.size, 0, none⟩) 1 1) 1 [.int .i64 0] := World.ownsRow_lit wr #[.int .i64 0] 1 (Nat.le_refl _) (by unfold maxLen; omega) rfl
      have hb3 := below_one (w := wr) (.cells #[.int .i64 0] 3)
      obtain ⟨o, ho⟩ : ∃ x : Nat → Int, x = fun k => l.getD k 0 := ⟨_, rfl⟩
      obtain ⟨f, hf⟩ : ∃ x : Nat → Int, x = chp R N C := ⟨_, rfl⟩
      have Hls := hid (fun n (h1 : 1 ≤ n) (h2 : n ≤ m) => show lsf f o n n = f n by rw [ho, hf, Hle.out]; exact lsf_eq hv HNC.out.1 HNC.out.2 (by rw [← Hle.out, ← Hq.out]; exact Hqm.out) h1 h2)
      have Hor := hid (fun k (h : k ≤ m) => show l[k]? = some (o k) ∧ 0 ≤ o k ∧ o k ≤ 4100 by
        have hk : k < l.length := by rw [← Hq.out]; omega
        have h1 := Hx.out _ (List.getElem_mem hk)
        rw [ho]
        simp only [List.getD, List.getElem?_eq_getElem hk, Option.getD_some, true_and]
        omega)
      have Hfr := hid (fun k (h : k ≤ m) => show 0 ≤ f k ∧ f k ≤ 82000 by rw [hf]; exact chp_rng hv HNC.out.1 HNC.out.2 (by omega))
      have Hf := hid hf; have Ho := hid ho
      clear hf ho hqm hown hSA Hx Hle Hl' Hnx Hfull hS HSat hl
      obtain ⟨wz, rfl⟩ : ∃ x : World, x = wr := ⟨_, rfl⟩
      obtain ⟨pl, hpl⟩ : ∃ x : Int, x = ((c % R : Nat) : Int) := ⟨_, rfl⟩
      rw [← hpl]
      clear hpl
      go_wp2
      generalize hX : wz.alloc _ = W5 at *
      clear hX x1 c0 c1 c2 g1 hbA
      go_loopw [14, 15] (fun v14 v15 wi => ∃ n, n ≤ m ∧ v15 = .int .i64 ((n : Int) + 1) ∧ wi.ownsRow wz.heap.size 3 1 v14 (n + 1) ((bestl R N C n).map (Value.int .i64)) ∧ Below wz.heap.size wz wi) (fun _ v15 _ => m + 2 - (intOf v15).toNat)
      case atStart => exact ⟨0, Nat.zero_le _, rfl, by rw [bestl_zero]; exact y, hb3⟩
      case round =>
        clear y hb3
        obtain ⟨n, hn, rfl, hown, hb3⟩ := hrel
        obtain ⟨p, hp⟩ : ∃ x, x = n + 1 := ⟨_, rfl⟩
        rw [← hp] at hown
        have hp1 : p ≤ n + 1 := by omega
        have hp2 : n + 1 ≤ p := by omega
        have Hp := hid hp; clear hp
        obtain ⟨g2, cap2, rfl⟩ := Go.Joins.ownsRow_form hown (by omega)
        have hOA := hO.below hb3 (Nat.le_refl _)
        obtain ⟨wy, rfl⟩ : ∃ x : World, x = wr := ⟨_, rfl⟩
        by_cases hlt : n < m
        · rw [show (n : Int) + 1 = (p : Int) by omega]
          obtain ⟨ba, off, x, rfl, hbs, hcs, _, _, hx, _⟩ := hOA.at (k := p) (by rw [← Hq.out]; omega)
          have hox := Hor.out p (by omega)
          have hxe : x = o p := by have := hx.out; rw [hox.1] at this; simpa using this.symm
          have Hxe := hid hxe
          have hxr : 0 ≤ x ∧ x ≤ 4100 := by rw [hxe]; exact hox.2
          clear hxe hox hx
          have i1 : (p : Int) ≤ (m : Int) := by omega
          have i2 : (p : Int) < (q : Int) := by omega
          go_wp2
          go_loopw [16, 17] (fun v16 v17 wj => ∃ k : Nat, 1 ≤ k ∧ k ≤ p ∧ v17 = .int .i64 (k : Int) ∧ v16 = .int .i64 (lsf f o p k) ∧ Qd wy wj) (fun _ v17 _ => p + 1 - (intOf v17).toNat)
          case atStart => exact ⟨1, Nat.le_refl _, by omega, rfl, by rw [Hxe.out]; rfl, Qd.refl _⟩
          case round =>
            obtain ⟨k, hk1, hk, rfl, rfl, hqd⟩ := hrel
            have hb4 := hqd.below wy.heap.size
            replace hown := own_below hown hb4
            replace hOA := hOA.below hb4 (Nat.le_refl _)
            have hlr := lsf_rng (f := f) (o := o) (n := p) (fun k h => (Hor.out k (by omega)).2.1) (fun k h => (Hfr.out k (by omega)).1) k (by omega)
            obtain ⟨z, hz⟩ : ∃ x, x = lsf f o p k := ⟨_, rfl⟩
            rw [← hz] at hlr ⊢
            have hzx : z ≤ x := by rw [Hxe.out]; exact hlr.2
            have hz0 := hlr.1
            have Hz := hid hz
            clear hlr hz
            by_cases hkn : k < p
            · have i3 : (k : Int) < (p : Int) := by omega
              have i4 : (k : Int) < (q : Int) := by omega
              have i5 : (0 : Int) ≤ (k : Int) := by omega
              obtain ⟨bb, ob, x1, e1, hbs1, hcs1, _, _, hx1, _⟩ := hOA.at (k := k) (by rw [← Hq.out]; omega)
              simp only [Option.some.injEq, Addr.mk.injEq, and_true] at e1
              obtain ⟨rfl, rfl⟩ := e1
              have hox := Hor.out k (by omega)
              have hxe : x1 = o k := by have := hx1.out; rw [hox.1] at this; simpa using this.symm
              have hxr1 : 0 ≤ x1 ∧ x1 ≤ 4100 := by rw [hxe]; exact hox.2
              obtain ⟨i, hi⟩ : ∃ i : Nat, i + k = p := ⟨p - k, by omega⟩
              have hin : i ≤ n := by omega
              have hc2 := hown.cellAt i (by omega)
              rw [List.getElem?_map, bestl_at R N C hin, Option.map_some] at hc2
              have hfr := Hfr.out i (by omega)
              have hfe : chp R N C i = f i := by rw [Hf.out]
              rw [hfe] at hc2
              obtain ⟨y1, hy1⟩ : ∃ x, x = f i := ⟨_, rfl⟩
              rw [← hy1] at hc2 hfr
              have hst : lsf f o p (k + 1) = min z (x1 + y1) := by
                obtain ⟨k', rfl⟩ : ∃ k', k = k' + 1 := ⟨k - 1, by omega⟩
                rw [lsf, ← Hz.out, ← hxe, hy1]; congr 3; omega
              have Hst := hid hst
              have hi0 : (i : Int) = (p : Int) - (k : Int) := by omega
              have hip : (i : Int) < (p : Int) := by omega
              have hi1 : (0 : Int) ≤ (i : Int) := by omega
              clear hxe hox hx1 hfe hy1 hst hi hxr
              have f1 : IntKind.i64.wrap (x1 + y1) = x1 + y1 := IntWalk.i64_in _ (by omega)
              have f2 : IntKind.i64.wrap ((p : Int) - (k : Int)) = (i : Int) := by rw [← hi0]; exact IntWalk.i64_in _ (by omega)
              clear hi0
              go_wp2
              go_quiet (fail)
              clear f1 f2
              go_wp2
              go_roundw
              case rel => exact ⟨k + 1, by omega, by omega, by go_num, by rw [Hst.out], hqd.drewN _⟩
              case measure => simp [intOf]; omega
            · have i3 : (p : Int) ≤ (k : Int) := by omega
              have hze : z = f (n + 1) := by rw [Hz.out, show k = p by omega, ← Hp.out]; exact Hls.out p (by omega) (by omega)
              have Hze := hid hze; clear hze
              have hsz2 := (hb3.trans (hb4.mono hb3.size)).size
              replace hb3 := hb3.trans (hb4.mono hb3.size)
              clear hcs hOA
              go_wp2_with (first | (at_builtin; go_must (refine wpList_append_own _ rfl _ _ 22 rfl wz.heap.size 3 j0 (.int .i64 0) 1 8 under22 hj jz0 jz1 jz2 rfl (by decide) _ _ _ rfl (hown.alloc _) ⟨wr.heap.size, 0, none⟩ 1 1 [.int .i64 z] rfl rfl (cell_one_new _ _ _) (ints_oneCell .i64 [z]) (by unfold maxLen; omega) (by omega) (by simp; omega) ?_); intro v' w1 hown' hgrow _))
              have hge := own_ge hown
              have hb5 : Below wz.heap.size wz w1 := (hb3.alloc (by omega) _).grown hgrow (by simp; omega) (fun k hk => by have := hge k hk; omega)
              clear hown hgrow hb3 hge hb4
              go_wp2
              go_roundw
              case rel => exact ⟨n + 1, by omega, by go_num, by rw [bestl_next, List.map_append, ← Hp.out, ← Hf.out, Hp.out, ← Hze.out]; simpa [Hp.out] using hown', hb5⟩
              case measure => simp [intOf]; omega
        · obtain rfl : n = m := by omega
          have hc2 := hown.cellAt n (by omega)
          rw [List.getElem?_map, bestl_at R N C (Nat.le_refl _), Option.map_some] at hc2
          obtain ⟨y1, hy1⟩ : ∃ x, x = chp R N C n := ⟨_, rfl⟩
          rw [← hy1] at hc2
          have Hy1 := hid hy1; clear hy1
          have hnp : (n : Int) < (p : Int) := by omega
          go_wp2
          go_ret2
          exact ⟨by rw [← Hy1.out]; rfl, (hb.trans (hb2.mono hb.size)).trans (hb3.mono (hb.trans (hb2.mono hb.size)).size)⟩
end Go.Proofs.Ytmkmnedojgigoaa
