import Derived.Test.YtmkmnedojgigoaaZ6
import Derived.Test.YtmkmnedojgigoaaZ2
import Derived.Test.YtmkmnedojgigoaaN4
import Derived.Test.YtmkmnedojgigoaaW5
namespace Go.Proofs.Ytmkmnedojgigoaa
open Go.RowKit


set_option maxRecDepth 100000 in
set_option maxHeartbeats 1000000 in
theorem Wst_32_bad (r : Int) (an ac : Option Addr) (cn cc : Nat) (N C : List Int) (a : Option Addr) (ca : Nat) (xs : List Int) (w : World) (hN : Ints w an N) (hC : Ints w ac C) (hX : Ints w a xs) (hv : validB r N C = false) :
    Calls Try.prog 32 #[.agg #[.int .i64 r, .slice an N.length cn, .slice ac C.length cc], .slice a xs.length ca] w fun e w' => e = .returned (.tuple #[.int .i64 0, .int .i64 10]) ∧ Below w.heap.size w w' := by
  obtain ⟨W, hW, hb, hs, x0⟩ := boxes1 w #[.int .i64 r, .slice an N.length cn, .slice ac C.length cc] 24
  clear hs
  replace hN := hN.below hb (Nat.le_refl _); replace hC := hC.below hb (Nat.le_refl _); replace hX := hX.below hb (Nat.le_refl _)
  have c0 := x0.cell 0 rfl; have c1 := x0.cell 1 rfl; have c2 := x0.cell 2 rfl
  go_enter Try.func32, Try.ntmps32
  go_wp2_with fail
  refine (searchOf_bad _ _ _ _ _ _ _ 75 _ _ _ _ hN hC hv).mono ?_
  rintro e W1 ⟨rfl, hb1⟩
  replace hb := hb.trans (hb1.mono hb.size)
  have hz := hb.size
  clear c0 c1 c2 hW x0 hb1 hN hC hX
  unfold noSearch noBag
  go_wp2
  refine bodyPost_ret (v := .tuple #[.int .i64 0, .int .i64 10]) ?_ rfl ⟨rfl, ?_⟩
  · simp [results, Try.results32, go_sem]
  · exact (hb.alloc hz _).alloc (by simp; omega) _

set_option maxRecDepth 100000 in
set_option maxHeartbeats 1000000 in
theorem Wst_32_arg (R : Nat) (an ac : Option Addr) (cn cc : Nat) (N C : List Int) (a : Option Addr) (ca : Nat) (xs : List Int) (w : World) (hN : Ints w an N) (hC : Ints w ac C) (hX : Ints w a xs) (hv : Vw R N C) (ho : okP C xs = false) :
    Calls Try.prog 32 #[.agg #[.int .i64 (R : Int), .slice an N.length cn, .slice ac C.length cc], .slice a xs.length ca] w fun e w' => e = .returned (.tuple #[.int .i64 0, .int .i64 1]) ∧ Below w.heap.size w w' := by
  obtain ⟨W, hW, hb, hs, x0⟩ := boxes1 w #[.int .i64 (R : Int), .slice an N.length cn, .slice ac C.length cc] 24
  clear hs
  replace hN := hN.below hb (Nat.le_refl _); replace hC := hC.below hb (Nat.le_refl _); replace hX := hX.below hb (Nat.le_refl _)
  have c0 := x0.cell 0 rfl; have c1 := x0.cell 1 rfl; have c2 := x0.cell 2 rfl
  go_enter Try.func32, Try.ntmps32
  go_wp2_with fail
  refine (searchOf_arg_75 _ _ _ _ _ _ _ _ _ _ _ hN hC hX hv ho).mono ?_
  rintro e W1 ⟨rfl, hb1⟩
  replace hb := hb.trans (hb1.mono hb.size)
  have hz := hb.size
  clear c0 c1 c2 hW x0 hb1 hN hC hX
  unfold noSearch noBag
  go_wp2
  refine bodyPost_ret (v := .tuple #[.int .i64 0, .int .i64 1]) ?_ rfl ⟨rfl, ?_⟩
  · simp [results, Try.results32, go_sem]
  · exact (hb.alloc hz _).alloc (by simp; omega) _

set_option maxRecDepth 100000 in
set_option maxHeartbeats 1000000 in
theorem Wst_34_bad (r : Int) (an ac : Option Addr) (cn cc : Nat) (N C : List Int) (a : Option Addr) (ca : Nat) (xs : List Int) (w : World) (hN : Ints w an N) (hC : Ints w ac C) (hX : Ints w a xs) (hv : validB r N C = false) :
    Calls Try.prog 34 #[.agg #[.int .i64 r, .slice an N.length cn, .slice ac C.length cc], .slice a xs.length ca] w fun e w' => e = .returned (.tuple #[.slice none 0 0, .int .i64 10]) ∧ Below w.heap.size w w' := by
  obtain ⟨W, hW, hb, hs, x0⟩ := boxes1 w #[.int .i64 r, .slice an N.length cn, .slice ac C.length cc] 24
  clear hs
  replace hN := hN.below hb (Nat.le_refl _); replace hC := hC.below hb (Nat.le_refl _); replace hX := hX.below hb (Nat.le_refl _)
  have c0 := x0.cell 0 rfl; have c1 := x0.cell 1 rfl; have c2 := x0.cell 2 rfl
  go_enter Try.func34, Try.ntmps34
  go_wp2_with fail
  refine (searchOf_bad _ _ _ _ _ _ _ 75 _ _ _ _ hN hC hv).mono ?_
  rintro e W1 ⟨rfl, hb1⟩
  replace hb := hb.trans (hb1.mono hb.size)
  have hz := hb.size
  clear c0 c1 c2 hW x0 hb1 hN hC hX
  unfold noSearch noBag
  go_wp2
  refine bodyPost_ret (v := .tuple #[.slice none 0 0, .int .i64 10]) ?_ rfl ⟨rfl, ?_⟩
  · simp [results, Try.results34, go_sem]
  · exact (hb.alloc hz _).alloc (by simp; omega) _

set_option maxRecDepth 100000 in
set_option maxHeartbeats 1000000 in
theorem Wst_34_arg (R : Nat) (an ac : Option Addr) (cn cc : Nat) (N C : List Int) (a : Option Addr) (ca : Nat) (xs : List Int) (w : World) (hN : Ints w an N) (hC : Ints w ac C) (hX : Ints w a xs) (hv : Vw R N C) (ho : okP C xs = false) :
    Calls Try.prog 34 #[.agg #[.int .i64 (R : Int), .slice an N.length cn, .slice ac C.length cc], .slice a xs.length ca] w fun e w' => e = .returned (.tuple #[.slice none 0 0, .int .i64 1]) ∧ Below w.heap.size w w' := by
  obtain ⟨W, hW, hb, hs, x0⟩ := boxes1 w #[.int .i64 (R : Int), .slice an N.length cn, .slice ac C.length cc] 24
  clear hs
  replace hN := hN.below hb (Nat.le_refl _); replace hC := hC.below hb (Nat.le_refl _); replace hX := hX.below hb (Nat.le_refl _)
  have c0 := x0.cell 0 rfl; have c1 := x0.cell 1 rfl; have c2 := x0.cell 2 rfl
  go_enter Try.func34, Try.ntmps34
  go_wp2_with fail
  refine (searchOf_arg_75 _ _ _ _ _ _ _ _ _ _ _ hN hC hX hv ho).mono ?_
  rintro e W1 ⟨rfl, hb1⟩
  replace hb := hb.trans (hb1.mono hb.size)
  have hz := hb.size
  clear c0 c1 c2 hW x0 hb1 hN hC hX
  unfold noSearch noBag
  go_wp2
  refine bodyPost_ret (v := .tuple #[.slice none 0 0, .int .i64 1]) ?_ rfl ⟨rfl, ?_⟩
  · simp [results, Try.results34, go_sem]
  · exact (hb.alloc hz _).alloc (by simp; omega) _


set_option maxRecDepth 100000 in
set_option maxHeartbeats 1000000 in
theorem rWst_bad (r : Int) (an ac : Option Addr) (cn cc : Nat) (N C : List Int) (a : Option Addr) (ca : Nat) (xs : List Int) (w : World) (hN : Ints w an N) (hC : Ints w ac C) (hv : validB r N C = false) :
    Calls Try.prog 33 #[.agg #[.int .i64 r, .slice an N.length cn, .slice ac C.length cc], .slice a xs.length ca] w fun e w' => e = .returned (.tuple #[.int .i64 0, .int .i64 10]) ∧ Below w.heap.size w w' := by
  have hk : chk r N C = 10 := by simp [chk, hv]
  obtain ⟨W, hW, hb, hs, x0⟩ := boxes1 w #[.int .i64 r, .slice an N.length cn, .slice ac C.length cc] 24
  clear hs
  replace hN := hN.below hb (Nat.le_refl _); replace hC := hC.below hb (Nat.le_refl _)
  have c0 := x0.cell 0 rfl; have c1 := x0.cell 1 rfl; have c2 := x0.cell 2 rfl
  go_enter Try.func33, Try.ntmps33
  go_wp2_with fail
  refine (refCheck_any _ _ _ _ _ _ _ _ hN hC).mono ?_
  rintro e W1 ⟨rfl, hb1⟩
  rw [hk]
  replace hb := hb.trans (hb1.mono hb.size)
  clear c0 c1 c2 hW x0 hb1 hN hC
  go_wp2
  go_ret2
  exact ⟨rfl, hb⟩

set_option maxRecDepth 100000 in
set_option maxHeartbeats 1000000 in
theorem rWst_arg (R : Nat) (an ac : Option Addr) (cn cc : Nat) (N C : List Int) (a : Option Addr) (ca : Nat) (xs : List Int) (w : World) (hN : Ints w an N) (hC : Ints w ac C) (hX : Ints w a xs) (hv : Vw R N C) (hl : xs.length ≤ 40) (ho : okP C xs = false) :
    Calls Try.prog 33 #[.agg #[.int .i64 (R : Int), .slice an N.length cn, .slice ac C.length cc], .slice a xs.length ca] w fun e w' => e = .returned (.tuple #[.int .i64 0, .int .i64 1]) ∧ Below w.heap.size w w' := by
  have hk : chk (R : Int) N C = 0 := by simp [chk, hv.valid]
  obtain ⟨W, hW, hb, hs, x0⟩ := boxes1 w #[.int .i64 (R : Int), .slice an N.length cn, .slice ac C.length cc] 24
  clear hs
  replace hN := hN.below hb (Nat.le_refl _); replace hC := hC.below hb (Nat.le_refl _); replace hX := hX.below hb (Nat.le_refl _)
  have c0 := x0.cell 0 rfl; have c1 := x0.cell 1 rfl; have c2 := x0.cell 2 rfl
  go_enter Try.func33, Try.ntmps33
  go_wp2_with fail
  refine (refCheck_any _ _ _ _ _ _ _ _ hN hC).mono ?_
  rintro e W1 ⟨rfl, hb1⟩
  rw [hk]
  clear hW
  replace hC := hC.below hb1 (Nat.le_refl _); replace hX := hX.below hb1 (Nat.le_refl _); (try clear c0 c1 c2); replace x0 := x0.below hb1; have c0 := x0.cell 0 rfl; have c1 := x0.cell 1 rfl; have c2 := x0.cell 2 rfl; replace hb := hb.trans (hb1.mono hb.size); clear hb1
  go_wp2_with fail
  refine (isPurse_any _ _ _ _ _ _ _ _ _ _ _ hC hX hl).mono ?_
  rintro e W2 ⟨rfl, hb1⟩
  rw [ho]
  replace hb := hb.trans (hb1.mono hb.size)
  clear c0 c1 c2 x0 hb1 hC hX
  go_wp2
  go_ret2
  exact ⟨rfl, hb⟩
theorem foldl_take_next {α β : Type} (f : β → α → β) (l : List α) (i : Nat) (x : α) (h : l[i]? = some x) (b : β) : (l.take (i + 1)).foldl f b = f ((l.take i).foldl f b) x := by
  rw [List.take_add_one, h]; simp

theorem rwst_eq {R : Nat} {N C xs ys : List Int} {A B G M : Nat} (hA : bws C (bagX xs) C.length = A) (hB : bws C (bagX ys) C.length = B) (hG : bst btm R N C (ps0 ys) = G) (hM : bst btm R N C (ps0 xs) = M) (l : Nat) :
    rwst R N C xs l ys = if l < A - B ∧ G = M then A - B else l := by
  subst hA hB hG hM
  rfl

set_option maxRecDepth 100000 in
set_option maxHeartbeats 4000000 in
theorem rWst_ok (R : Nat) (an ac : Option Addr) (cn cc : Nat) (N C : List Int) (a : Option Addr) (ca : Nat) (xs : List Int) (w : World) (hN : Ints w an N) (hC : Ints w ac C) (hX : Ints w a xs) (hv : Vw R N C) (ho : okP C xs = true) :
    Calls Try.prog 33 #[.agg #[.int .i64 (R : Int), .slice an N.length cn, .slice ac C.length cc], .slice a xs.length ca] w fun e w' => e = .returned (.tuple #[.int .i64 (wasteV R N C xs : Nat), .int .i64 0]) ∧ Below w.heap.size w w' := by
  have hk : chk (R : Int) N C = 0 := by simp [chk, hv.valid]
  have r1 := hv.r1
  obtain ⟨o1, o2, o3⟩ := okP_mem ho
  have hx4 : xs.length ≤ 4 := by have := hv.c4; omega
  have hx40 : xs.length ≤ 40 := by omega
  have hN0 := hN; have hC0 := hC; have hX0 := hX
  have al : ∀ (ys : List Int) (a' : Option Addr) (c' : Nat) (W : World), Ints W an N → Ints W ac C → Ints W a' ys → okP C ys = true → Calls Try.prog 77 #[.agg #[.int .i64 (R : Int), .slice an N.length cn, .slice ac C.length cc], .agg #[.int .i64 0, .int .i64 0], .slice a' ys.length c'] W fun e w' => e = .returned (.agg #[.int .i64 (bst btm R N C (ps0 ys) : Nat), .int .i64 (bst btf R N C (ps0 ys) : Nat)]) ∧ Below W.heap.size W w' := fun ys a' c' W h1 h2 h3 h4 => by
    have h12 : (spL ys 0 0).cnt ≤ 12 := okP_bag hv h4
    have := all_rec R an ac cn cc N C hv (mu (spL ys 0 0) + 1) ys 0 0 a' c' W h1 h2 h3 h4 (by omega) (by omega) (by omega)
    rw [cut0] at this
    exact this
  obtain ⟨A, hA⟩ : ∃ A, A = pwS C xs xs.length := ⟨_, rfl⟩
  obtain ⟨M, hM⟩ : ∃ M, M = bst btm R N C (ps0 xs) := ⟨_, rfl⟩
  have hAb : A ≤ 4800 := by have := pwS_le hv ho xs.length (Nat.le_refl _); omega
  have hMb : M ≤ 48000 := by
    have h12 : (ps0 xs).cnt ≤ 12 := okP_bag hv ho
    have := bst_le (bt := btm) hv (mu (ps0 xs) + 1) _ (by omega) (ps0_ok hv ho)
    omega
  have hmem : ∀ ys ∈ partsR xs [], okP C ys = true ∧ pwS C ys ys.length ≤ A ∧ (∀ l, rwst R N C xs l ys = if l < A - pwS C ys ys.length ∧ bst btm R N C (ps0 ys) = M then A - pwS C ys ys.length else l) := fun ys hy => by
    obtain ⟨h1, h2⟩ := parts_okP ho hy
    have hle : pwS C ys ys.length ≤ A := by
      rw [hA, ← bws_pws hv ho, ← bws_pws hv h1]
      exact bws_mono (fun k => get_le (q := bagX ys) (b := bagX xs) (h2 0) (h2 1) (h2 2) (h2 3) k) _
    exact ⟨h1, hle, fun l => rwst_eq (by rw [hA]; exact bws_pws hv ho) (bws_pws hv h1) rfl hM.symm l⟩
  have hall := rwst_all hv ho
  have hlen := partsR_len xs [] o2
  have hp4 : (13 : Nat) ^ xs.length ≤ 13 ^ 4 := Nat.pow_le_pow_right (by omega) hx4
  have hal0 := fun W h1 h2 h3 => al xs a ca W h1 h2 h3 ho
  have hpw0 := fun W h1 h2 h3 => pworth_ok R an ac cn cc N C a ca xs W h1 h2 h3 hv ho
  rw [← hM] at hal0
  obtain ⟨Lx, hLx⟩ : ∃ Lx, Lx = bst btf R N C (ps0 xs) := ⟨_, rfl⟩
  rw [← hLx] at hal0
  clear hLx
  have hF := fun W => (bought_f (M : Int) (Lx : Int) W).1
  rw [← hA] at hpw0
  have hparts : ∀ W : World, Ints W a xs → Calls Try.prog 80 #[.slice a xs.length ca, .slice none 0 0] W (PartsP W.heap.size (partsR xs []) W) := fun W h =>
    parts_rec xs a ca o2 hx4 xs [] none 0 W W.heap.size h ⟨by simp, fun x hx => by simp at hx, fun i hi => by simp at hi⟩ (fun x hx => by simp at hx) (by simp) (by simp) (Nat.le_refl _) (fun ad e => by cases e)
  obtain ⟨PL, hPL⟩ : ∃ PL, PL = partsR xs [] := ⟨_, rfl⟩
  obtain ⟨rwf, hrwE⟩ : ∃ f, f = rwst R N C xs := ⟨_, rfl⟩
  obtain ⟨wv, hwv⟩ : ∃ v, v = wasteV R N C xs := ⟨_, rfl⟩
  rw [← hPL] at hall hparts hlen hmem
  rw [← hrwE] at hall hmem
  rw [← hwv] at hall
  rw [← hwv]
  have hPLb : PL.length ≤ 28561 := Nat.le_trans hlen hp4
  have HALL := hid hall
  have Hmem := hid hmem
  clear hA hM hall hmem hPL hrwE hwv hlen hp4 o1
  obtain ⟨W, hW, hb, hs, x0⟩ := boxes1 w #[.int .i64 (R : Int), .slice an N.length cn, .slice ac C.length cc] 24
  clear hs
  replace hN := hN.below hb (Nat.le_refl _); replace hC := hC.below hb (Nat.le_refl _); replace hX := hX.below hb (Nat.le_refl _)
  have c0 := x0.cell 0 rfl; have c1 := x0.cell 1 rfl; have c2 := x0.cell 2 rfl
  go_enter Try.func33, Try.ntmps33
  go_wp2_with fail
  refine (refCheck_any _ _ _ _ _ _ _ _ hN hC).mono ?_
  rintro e W1 ⟨rfl, hb1⟩
  rw [hk]
  clear hW
  replace hN := hN.below hb1 (Nat.le_refl _); replace hC := hC.below hb1 (Nat.le_refl _); replace hX := hX.below hb1 (Nat.le_refl _); (try clear c0 c1 c2); replace x0 := x0.below hb1; have c0 := x0.cell 0 rfl; have c1 := x0.cell 1 rfl; have c2 := x0.cell 2 rfl; replace hb := hb.trans (hb1.mono hb.size); clear hb1
  go_wp2_with fail
  refine (isPurse_any _ _ _ _ _ _ _ _ _ _ _ hC hX hx40).mono ?_
  rintro e W2 ⟨rfl, hb1⟩
  rw [ho]
  replace hN := hN.below hb1 (Nat.le_refl _); replace hC := hC.below hb1 (Nat.le_refl _); replace hX := hX.below hb1 (Nat.le_refl _); replace x0 := x0.below hb1; replace hb := hb.trans (hb1.mono hb.size); clear hb1
  clear c0 c1 c2
  have d0 := x0.ext 0 rfl; have d1 := x0.ext 1 rfl; have d2 := x0.ext 2 rfl
  go_wp2_with fail
  refine wp_region_ext_lit (by kernel_rfl) (by kernel_rfl) ?_
  repeat (quiet_step (first | (go_at_call 77; exact quiet_ext (hal0 _ (hN.below (Ext.below _) (Nat.le_refl _)) (hC.below (Ext.below _) (Nat.le_refl _)) (hX.below (Ext.below _) (Nat.le_refl _)))) | (go_at_call 54; exact quiet_ext (hpw0 _ (hN.below (Ext.below _) (Nat.le_refl _)) (hC.below (Ext.below _) (Nat.le_refl _)) (hX.below (Ext.below _) (Nat.le_refl _))))))
  refine wpQuiet_nil ?_
  intro _ hw'
  obtain ⟨t, rfl⟩ := hw'
  have hbt := t.below
  clear d0 d1 d2 hal0 hpw0
  generalize t.w = W5 at *
  replace hN := hN.below hbt (Nat.le_refl _); replace hC := hC.below hbt (Nat.le_refl _); replace hX := hX.below hbt (Nat.le_refl _); replace x0 := x0.below hbt; replace hb := hb.trans (hbt.mono hb.size); clear hbt
  go_wp2_with fail
  refine (hparts W5 hX).mono ?_
  rintro e W6 ⟨hb1, al', cl, vs, rfl, hown, hrw⟩
  replace hN := hN.below hb1 (Nat.le_refl _); replace hC := hC.below hb1 (Nat.le_refl _); replace x0 := x0.below hb1; replace hb := hb.trans (hb1.mono hb.size); clear hb1
  clear hparts hX hF
  have hrow : ∀ i ks, PL[i]? = some ks → ∃ g a2 c2, al' = some ⟨g, 0, none⟩ ∧ g < W6.heap.size ∧ W6.cell? ⟨g, i, none⟩ = some (.slice a2 ks.length c2) ∧ Ints W6 a2 ks := fun i ks hi => by
    obtain ⟨x, hx, a2, c2, rfl, h2, -⟩ := hrw.at i ks hi
    have hiL : i < PL.length := by
      rcases Nat.lt_or_ge i PL.length with h | h
      · exact h
      · rw [List.getElem?_eq_none h] at hi; cases hi
    obtain ⟨g, cap, e⟩ := Go.Joins.ownsRow_form hown (by omega)
    simp only [Value.slice.injEq] at e
    obtain ⟨rfl, _, rfl⟩ := e
    exact ⟨g, a2, c2, rfl, (hown.lt g rfl).2, by rw [hown.cellAt i (by omega)]; exact hx, h2⟩
  have HRow := hid hrow
  clear hrow hown hrw
  have hN6 := hN; have hC6 := hC; have hb6 := hb; have x6 := x0
  clear hN hC hN0 hC0 hX0
  go_wp2_with fail
  go_loopw [9, 11] (fun s9 s11 wr => ∃ (i l : Nat), i ≤ PL.length ∧ s11 = .int .i64 i ∧ s9 = .int .i64 l ∧ l ≤ A ∧ (PL.take i).foldl rwf 0 = l ∧ Below W6.heap.size W6 wr) (fun _ s11 _ => PL.length - (intOf s11).toNat)
  case atStart => exact ⟨0, 0, Nat.zero_le _, rfl, rfl, Nat.zero_le _, rfl, Below.refl _ _⟩
  case round =>
    obtain ⟨i, l, hi, rfl, rfl, hl, hfo, hb0⟩ := hrel
    clear hb x0
    have hb := hb6.trans (hb0.mono hb6.size)
    have x0 := x6.below hb0
    have hN := hN6.below hb0 (Nat.le_refl _); have hC := hC6.below hb0 (Nat.le_refl _)
    by_cases hlt : i < PL.length
    · obtain ⟨ks, hks⟩ : ∃ ks, PL[i]? = some ks := ⟨PL[i], by simp [hlt]⟩
      obtain ⟨k1, k2, k3⟩ := Hmem.out ks (List.mem_of_getElem? hks)
      obtain ⟨g, a2, c2, rfl, hg, hcell0, hI0⟩ := HRow.out i ks hks
      have hnx := foldl_take_next rwf PL i ks hks 0
      rw [hfo, k3] at hnx
      have hpw := fun W h1 h2 h3 => pworth_ok R an ac cn cc N C a2 c2 ks W h1 h2 h3 hv k1
      have hal := fun W h1 h2 h3 => al ks a2 c2 W h1 h2 h3 k1
      obtain ⟨B, hB⟩ : ∃ B, B = pwS C ks ks.length := ⟨_, rfl⟩
      obtain ⟨G, hG⟩ : ∃ G, G = bst btm R N C (ps0 ks) := ⟨_, rfl⟩
      obtain ⟨Gl, hGl⟩ : ∃ G, G = bst btf R N C (ps0 ks) := ⟨_, rfl⟩
      rw [← hB] at hpw hnx k2
      rw [← hG] at hnx hal
      rw [← hGl] at hal
      have hGb : G ≤ 48000 := by
        have h12 : (ps0 ks).cnt ≤ 12 := okP_bag hv k1
        have := bst_le (bt := btm) hv (mu (ps0 ks) + 1) _ (by omega) (ps0_ok hv k1)
        omega
      have hF := fun W => (bought_f (G : Int) (Gl : Int) W).1
      obtain ⟨q, hq⟩ : ∃ q, q = ks.length := ⟨_, rfl⟩
      rw [← hq] at hpw hal hcell0
      have hcell := Below.keep hb0 hcell0
      have hgr := Nat.lt_of_lt_of_le hg hb0.size
      have hI := hI0.below hb0 (Nat.le_refl _)
      obtain ⟨D, hD⟩ : ∃ D, D = A - B := ⟨_, rfl⟩
      rw [← hD] at hnx
      have ew : IntKind.i64.wrap ((A : Int) - (B : Int)) = (D : Int) := by rw [show (A : Int) - (B : Int) = (D : Int) by omega]; exact IntWalk.i64_in _ (by omega)
      have hDA : D ≤ A := by omega
      have Hnx := hid hnx; have HB := hid hB; have EW := hid ew; have Hk := hid hks
      have hiI : (i : Int) < (PL.length : Int) := by omega
      have hi0 : (0 : Int) ≤ (i : Int) := by omega
      clear hnx hB hG hGl hq hks k1 k3 hfo hcell0 hI0 ew hD
      go_upto_region 11 with fail
      have d0 := x0.ext 0 rfl; have d1 := x0.ext 1 rfl; have d2 := x0.ext 2 rfl
      have dc := Ext.cell hcell
      refine wp_region_ext_lit (by kernel_rfl) (by kernel_rfl) ?_
      repeat (quiet_step (first | (go_at_call 54; exact quiet_ext (hpw _ (hN.below (Ext.below _) (Nat.le_refl _)) (hC.below (Ext.below _) (Nat.le_refl _)) (hI.below (Ext.below _) (Nat.le_refl _))))))
      refine wpQuiet_nil ?_
      intro _ hw'
      obtain ⟨t, rfl⟩ := hw'
      have hb1 := t.below
      clear d0 d1 d2 dc
      generalize t.w = V1 at *
      replace hb0 := hb0.trans (hb1.mono hb0.size); replace hcell := Below.keep hb1 hcell
      replace hgr := Nat.lt_of_lt_of_le hgr hb1.size
      replace hN := hN.below hb1 (Nat.le_refl _); replace hC := hC.below hb1 (Nat.le_refl _); replace hI := hI.below hb1 (Nat.le_refl _); replace x0 := x0.below hb1; replace hb := hb.trans (hb1.mono hb.size); clear hb1
      rw [EW.out]
      clear hpw
      by_cases hgt : l < D
      · have hgtI : (l : Int) < (D : Int) := by omega
        by_cases hGM : G = M
        · have hfo2 : (PL.take (i + 1)).foldl rwf 0 = D := by rw [Hnx.out, if_pos ⟨hgt, hGM⟩]
          have HF2 := hid hfo2
          clear hfo2
          subst hGM
          go_upto_region 12 with fail
          have d0 := x0.ext 0 rfl; have d1 := x0.ext 1 rfl; have d2 := x0.ext 2 rfl
          have dc := Ext.cell hcell
          refine wp_region_ext_lit (by kernel_rfl) (by kernel_rfl) ?_
          repeat (quiet_step (first | (go_at_call 77; exact quiet_ext (hal _ (hN.below (Ext.below _) (Nat.le_refl _)) (hC.below (Ext.below _) (Nat.le_refl _)) (hI.below (Ext.below _) (Nat.le_refl _))))))
          refine wpQuiet_nil ?_
          intro _ hw'
          obtain ⟨t, rfl⟩ := hw'
          have hb1 := t.below
          clear d0 d1 d2 dc
          generalize t.w = V2 at *
          replace hb0 := hb0.trans (hb1.mono hb0.size)
          clear hb1
          go_wp2_with fail
          go_roundw
          case rel => exact ⟨i + 1, D, by omega, by go_num, rfl, hDA, HF2.out, hb0⟩
          case measure => simp [intOf]; omega
        · have hGI : ((G : Int) == (M : Int)) = false := by simp; omega
          have hfo2 : (PL.take (i + 1)).foldl rwf 0 = l := by rw [Hnx.out, if_neg (fun h => hGM h.2)]
          have HF2 := hid hfo2
          clear hGM hfo2
          go_upto_region 12 with fail
          have d0 := x0.ext 0 rfl; have d1 := x0.ext 1 rfl; have d2 := x0.ext 2 rfl
          have dc := Ext.cell hcell
          refine wp_region_ext_lit (by kernel_rfl) (by kernel_rfl) ?_
          repeat (quiet_step (first | (go_at_call 77; exact quiet_ext (hal _ (hN.below (Ext.below _) (Nat.le_refl _)) (hC.below (Ext.below _) (Nat.le_refl _)) (hI.below (Ext.below _) (Nat.le_refl _))))))
          refine wpQuiet_nil ?_
          intro _ hw'
          obtain ⟨t, rfl⟩ := hw'
          have hb1 := t.below
          clear d0 d1 d2 dc
          generalize t.w = V2 at *
          replace hb0 := hb0.trans (hb1.mono hb0.size)
          clear hb1
          go_wp2_with fail
          go_roundw
          case rel => exact ⟨i + 1, l, by omega, by go_num, rfl, hl, HF2.out, hb0⟩
          case measure => simp [intOf]; omega
      · have hfo2 : (PL.take (i + 1)).foldl rwf 0 = l := by rw [Hnx.out, if_neg (fun h => hgt h.1)]
        have HF2 := hid hfo2
        have hgtI : (D : Int) ≤ (l : Int) := by omega
        have hgtF : (l < D) = False := eq_false hgt
        clear hfo2 hgt hal hF
        go_upto_region 12 with fail
        replace hb0 := hb0.drew
        refine wp_region_head 14 (fun _ => True) (by kernel_rfl) rfl ?_
        generalize World.drew _ = Y0 at *
        refine HeadAt.take (i := 0) (.int .i64 D) rfl (by kernel_rfl) (.inl ⟨rfl, fun _ _ => by simp [go_sem]⟩) trivial ?_
        refine HeadAt.take (i := 1) (.int .i64 l) rfl (by kernel_rfl) (.inl ⟨rfl, fun _ _ => by simp [go_sem]⟩) trivial ?_
        refine HeadAt.take (i := 2) (.bool false) rfl (by kernel_rfl) (.inl ⟨rfl, fun _ _ => by simp [go_sem]; omega⟩) trivial ?_
        refine HeadAt.take (i := 3) (.bool false) rfl (by kernel_rfl) (.inl ⟨rfl, fun _ _ => by simp [go_sem]⟩) trivial ?_
        refine HeadAt.take (i := 4) undef rfl (by kernel_rfl) (.inr ⟨by kernel_rfl, rfl⟩) trivial ?_
        refine HeadAt.take (i := 5) undef rfl (by kernel_rfl) (.inr ⟨by kernel_rfl, rfl⟩) trivial ?_
        refine HeadAt.take (i := 6) undef rfl (by kernel_rfl) (.inr ⟨by kernel_rfl, rfl⟩) trivial ?_
        refine HeadAt.take (i := 7) undef rfl (by kernel_rfl) (.inr ⟨by kernel_rfl, rfl⟩) trivial ?_
        refine HeadAt.take (i := 8) undef rfl (by kernel_rfl) (.inr ⟨by kernel_rfl, rfl⟩) trivial ?_
        refine HeadAt.take (i := 9) undef rfl (by kernel_rfl) (.inr ⟨by kernel_rfl, rfl⟩) trivial ?_
        refine HeadAt.take (i := 10) undef rfl (by kernel_rfl) (.inr ⟨by kernel_rfl, rfl⟩) trivial ?_
        refine HeadAt.take (i := 11) undef rfl (by kernel_rfl) (.inr ⟨by kernel_rfl, rfl⟩) trivial ?_
        refine HeadAt.take (i := 12) undef rfl (by kernel_rfl) (.inr ⟨by kernel_rfl, rfl⟩) trivial ?_
        refine HeadAt.take (i := 13) undef rfl (by kernel_rfl) (.inr ⟨by kernel_rfl, rfl⟩) trivial ?_
        refine HeadAt.done (by kernel_rfl) ?_
        (try simp only [Act.put, List.drop_succ_cons, List.drop_zero, List.getElem_toArray, List.getElem_cons_succ, List.getElem_cons_zero])
        go_wp2_with fail
        refine NoPanic.normal ?_
        go_wp2_with fail
        go_roundw
        case rel => exact ⟨i + 1, l, by omega, by go_num, rfl, hl, HF2.out, hb0⟩
        case measure => simp [intOf]; omega
    · have him : i = PL.length := by omega
      have hfin : l = wv := by rw [← hfo, him, List.take_length]; exact HALL.out
      have hltI : (PL.length : Int) ≤ (i : Int) := by omega
      clear hfo him
      subst hfin
      go_wp2
      refine bodyPost_ret (v := .tuple #[.int .i64 (l : Nat), .int .i64 0]) ?_ rfl ⟨rfl, hb⟩
      simp [results, Try.results33, go_sem]
end Go.Proofs.Ytmkmnedojgigoaa
namespace Go.Proofs.Ytmkmnedojgigoaa
open Go.RowKit

/-- More than six coins, or far too many kinds. -/
def richB (r : Int) (N C xs : List Int) : Bool := decide (40 < xs.length) || (validB r N C && okP C xs && decide (6 < xs.sum))
set_option maxRecDepth 100000 in
set_option maxHeartbeats 1000000 in
theorem rich_long (r : Int) (an ac : Option Addr) (cn cc : Nat) (N C : List Int) (a : Option Addr) (ca : Nat) (xs : List Int) (w : World) (hX : Ints w a xs) (hl : 40 < (xs.length : Int)) :
    Calls Try.prog 27 #[.agg #[.int .i64 r, .slice an N.length cn, .slice ac C.length cc], .slice a xs.length ca] w fun e w' => e = .returned (.bool true) ∧ Below w.heap.size w w' := by
  obtain ⟨W, hW, hb, hs, x0⟩ := boxes1 w #[.int .i64 r, .slice an N.length cn, .slice ac C.length cc] 24
  have hlen := hX.len
  clear hs
  go_enter Try.func27, Try.ntmps27
  go_wp2
  go_ret
  exact ⟨rfl, hb⟩
set_option maxRecDepth 100000 in
set_option maxHeartbeats 1000000 in
theorem rich_bad (r : Int) (an ac : Option Addr) (cn cc : Nat) (N C : List Int) (a : Option Addr) (ca : Nat) (xs : List Int) (w : World) (hN : Ints w an N) (hC : Ints w ac C) (hl : ¬ 40 < (xs.length : Int)) (hv : validB r N C = false) :
    Calls Try.prog 27 #[.agg #[.int .i64 r, .slice an N.length cn, .slice ac C.length cc], .slice a xs.length ca] w fun e w' => e = .returned (.bool false) ∧ Below w.heap.size w w' := by
  have hk : chk r N C = 10 := by simp [chk, hv]
  obtain ⟨W, hW, hb, hs, x0⟩ := boxes1 w #[.int .i64 r, .slice an N.length cn, .slice ac C.length cc] 24
  clear hs
  replace hN := hN.below hb (Nat.le_refl _); replace hC := hC.below hb (Nat.le_refl _)
  have c0 := x0.cell 0 rfl; have c1 := x0.cell 1 rfl; have c2 := x0.cell 2 rfl
  go_enter Try.func27, Try.ntmps27
  go_wp2_with fail
  refine (refCheck_any _ _ _ _ _ _ _ _ hN hC).mono ?_
  rintro e W1 ⟨rfl, hb1⟩
  rw [hk]
  replace hb := hb.trans (hb1.mono hb.size)
  clear c0 c1 c2 hW x0 hb1 hN hC
  go_wp2
  go_ret
  exact ⟨rfl, hb⟩
set_option maxRecDepth 100000 in
set_option maxHeartbeats 1000000 in
theorem rich_arg (R : Nat) (an ac : Option Addr) (cn cc : Nat) (N C : List Int) (a : Option Addr) (ca : Nat) (xs : List Int) (w : World) (hN : Ints w an N) (hC : Ints w ac C) (hX : Ints w a xs) (hl : ¬ 40 < (xs.length : Int)) (hv : Vw R N C) (ho : okP C xs = false) :
    Calls Try.prog 27 #[.agg #[.int .i64 (R : Int), .slice an N.length cn, .slice ac C.length cc], .slice a xs.length ca] w fun e w' => e = .returned (.bool false) ∧ Below w.heap.size w w' := by
  have hk : chk (R : Int) N C = 0 := by simp [chk, hv.valid]
  obtain ⟨W, hW, hb, hs, x0⟩ := boxes1 w #[.int .i64 (R : Int), .slice an N.length cn, .slice ac C.length cc] 24
  clear hs
  replace hN := hN.below hb (Nat.le_refl _); replace hC := hC.below hb (Nat.le_refl _); replace hX := hX.below hb (Nat.le_refl _)
  have c0 := x0.cell 0 rfl; have c1 := x0.cell 1 rfl; have c2 := x0.cell 2 rfl
  go_enter Try.func27, Try.ntmps27
  go_wp2_with fail
  refine (refCheck_any _ _ _ _ _ _ _ _ hN hC).mono ?_
  rintro e W1 ⟨rfl, hb1⟩
  rw [hk]
  clear hW
  replace hC := hC.below hb1 (Nat.le_refl _); replace hX := hX.below hb1 (Nat.le_refl _); (try clear c0 c1 c2); replace x0 := x0.below hb1; have c0 := x0.cell 0 rfl; have c1 := x0.cell 1 rfl; have c2 := x0.cell 2 rfl; replace hb := hb.trans (hb1.mono hb.size); clear hb1
  go_wp2_with fail
  refine (isPurse_any _ _ _ _ _ _ _ _ _ _ _ hC hX (by omega)).mono ?_
  rintro e W2 ⟨rfl, hb1⟩
  rw [ho]
  replace hb := hb.trans (hb1.mono hb.size)
  clear c0 c1 c2 x0 hb1 hC hX
  go_wp2
  go_ret
  exact ⟨rfl, hb⟩
theorem rich_any (r : Int) (an ac : Option Addr) (cn cc : Nat) (N C : List Int) (a : Option Addr) (ca : Nat) (xs : List Int) (w : World) (hN : Ints w an N) (hC : Ints w ac C) (hX : Ints w a xs) :
    Calls Try.prog 27 #[.agg #[.int .i64 r, .slice an N.length cn, .slice ac C.length cc], .slice a xs.length ca] w fun e w' => e = .returned (.bool (richB r N C xs)) ∧ Below w.heap.size w w' := by
  by_cases hl : 40 < (xs.length : Int)
  · rw [show richB r N C xs = true by unfold richB; rw [decide_eq_true (by omega : 40 < xs.length)]; rfl]
    exact rich_long r an ac cn cc N C a ca xs w hX hl
  · have h0 : decide (40 < xs.length) = false := decide_eq_false (by omega)
    cases hv : validB r N C
    · rw [show richB r N C xs = false by unfold richB; rw [h0, hv]; rfl]
      exact rich_bad r an ac cn cc N C a ca xs w hN hC hl hv
    · obtain ⟨R, rfl, hw⟩ := Vw.of_valid hv
      cases ho : okP C xs
      · rw [show richB (R : Int) N C xs = false by unfold richB; rw [h0, hv, ho]; rfl]
        exact rich_arg R an ac cn cc N C a ca xs w hN hC hX hl hw ho
      · rw [show richB (R : Int) N C xs = decide (6 < xs.sum) by unfold richB; rw [h0, hv, ho]; simp]
        exact rich_ok R an ac cn cc N C a ca xs w hN hC hX hw ho

set_option maxRecDepth 100000 in
set_option maxHeartbeats 1000000 in
theorem mst_far (r : Int) (an ac : Option Addr) (cn cc : Nat) (N C : List Int) (a : Option Addr) (ca : Nat) (xs : List Int) (w : World) (hN : Ints w an N) (hC : Ints w ac C) (hX : Ints w a xs) (hf : (farB N C || richB r N C xs) = true) :
    Calls Try.prog 4 #[.agg #[.int .i64 r, .slice an N.length cn, .slice ac C.length cc], .slice a xs.length ca] w (WorksP w) := by
  obtain ⟨W, hW, hb, hs, x0⟩ := boxes1 w #[.int .i64 r, .slice an N.length cn, .slice ac C.length cc] 24
  clear hs
  replace hN := hN.below hb (Nat.le_refl _); replace hC := hC.below hb (Nat.le_refl _); replace hX := hX.below hb (Nat.le_refl _)
  have c0 := x0.cell 0 rfl; have c1 := x0.cell 1 rfl; have c2 := x0.cell 2 rfl
  cases h1 : farB N C
  · have h2 : richB r N C xs = true := by rw [h1] at hf; simpa using hf
    clear hf
    go_enter Try.func4, Try.ntmps4
    go_wp2_with fail
    refine (far_any _ _ _ _ _ _ _ _ hN hC).mono ?_
    rintro e W1 ⟨rfl, hb1⟩
    rw [h1]
    clear hW
    replace hN := hN.below hb1 (Nat.le_refl _); replace hC := hC.below hb1 (Nat.le_refl _); replace hX := hX.below hb1 (Nat.le_refl _); (try clear c0 c1 c2); replace x0 := x0.below hb1; have c0 := x0.cell 0 rfl; have c1 := x0.cell 1 rfl; have c2 := x0.cell 2 rfl; replace hb := hb.trans (hb1.mono hb.size); clear hb1
    go_wp2_with fail
    refine (rich_any _ _ _ _ _ _ _ _ _ _ _ hN hC hX).mono ?_
    rintro e W2 ⟨rfl, hb1⟩
    rw [h2]
    replace hb := hb.trans (hb1.mono hb.size)
    clear c0 c1 c2 x0 hb1 hN hC hX h2 h1
    go_wp2_with fail
    refine (works_any _).mono ?_
    rintro e V3 ⟨rfl, hb1⟩
    replace hb := hb.trans (hb1.mono hb.size)
    clear hb1
    go_wp2
    go_ret
    exact ⟨rfl, hb⟩
  · clear hf
    go_enter Try.func4, Try.ntmps4
    go_wp2_with fail
    refine (far_any _ _ _ _ _ _ _ _ hN hC).mono ?_
    rintro e W1 ⟨rfl, hb1⟩
    rw [h1]
    replace hb := hb.trans (hb1.mono hb.size)
    clear hW c0 c1 c2 x0 hb1 hN hC hX h1
    go_wp2_with fail
    refine (works_any _).mono ?_
    rintro e V3 ⟨rfl, hb1⟩
    replace hb := hb.trans (hb1.mono hb.size)
    clear hb1
    go_wp2
    go_ret
    exact ⟨rfl, hb⟩

/-- A function of a wheel and a purse that answers a number and an error. -/
def Ans (f : Nat) (r : Int) (N C xs : List Int) (m e : Int) : Prop :=
  ∀ (an' ac' a' : Option Addr) (cn' cc' ca' : Nat) (W : World), Ints W an' N → Ints W ac' C → Ints W a' xs → Calls Try.prog f #[.agg #[.int .i64 r, .slice an' N.length cn', .slice ac' C.length cc'], .slice a' xs.length ca'] W fun e' w' => e' = .returned (.tuple #[.int .i64 m, .int .i64 e]) ∧ Below W.heap.size W w'
/-- One that answers a list and an error. -/
def AnsL (f : Nat) (r : Int) (N C xs acts : List Int) (e : Int) : Prop :=
  ∀ (an' ac' a' : Option Addr) (cn' cc' ca' : Nat) (W : World), Ints W an' N → Ints W ac' C → Ints W a' xs → Calls Try.prog f #[.agg #[.int .i64 r, .slice an' N.length cn', .slice ac' C.length cc'], .slice a' xs.length ca'] W fun e' w' => Below W.heap.size W w' ∧ ∃ (b : Option Addr) (cb : Nat), e' = .returned (.tuple #[.slice b acts.length cb, .int .i64 e]) ∧ Ints w' b acts

set_option maxRecDepth 100000 in
set_option maxHeartbeats 1000000 in
theorem mst_core (r : Int) (an ac : Option Addr) (cn cc : Nat) (N C : List Int) (a : Option Addr) (ca : Nat) (xs acts : List Int) (m l v e : Int) (w : World) (hN : Ints w an N) (hC : Ints w ac C) (hX : Ints w a xs) (hf : farB N C = false) (hr : richB r N C xs = false)
    (cM : Ans 28 r N C xs m e) (rM : Ans 29 r N C xs m e) (cL : Ans 30 r N C xs l e) (rL : Ans 31 r N C xs l e) (cW : Ans 32 r N C xs v e) (rW : Ans 33 r N C xs v e) (cO : AnsL 34 r N C xs acts e)
    (ha : acts.length ≤ 24) (hne : e ≠ 0 → acts = [])
    (hw : e = 0 → ∀ (b : Option Addr) (cb : Nat) (W : World), Ints W an N → Ints W ac C → Ints W a xs → Ints W b acts → Calls Try.prog 35 #[.agg #[.int .i64 r, .slice an N.length cn, .slice ac C.length cc], .slice a xs.length ca, .slice b acts.length cb] W fun e' w' => e' = .returned (.bool true) ∧ Below W.heap.size W w')
    (hy : e = 0 → ∀ (b : Option Addr) (cb : Nat) (W : World), Ints W an N → Ints W ac C → Ints W b acts → Calls Try.prog 36 #[.agg #[.int .i64 r, .slice an N.length cn, .slice ac C.length cc], .slice b acts.length cb] W fun e' w' => e' = .returned (.int .i64 m) ∧ Below W.heap.size W w') :
    Calls Try.prog 4 #[.agg #[.int .i64 r, .slice an N.length cn, .slice ac C.length cc], .slice a xs.length ca] w (WorksP w) := by
  obtain ⟨j0, hj, jz0, jz1, jz2⟩ := info_parts info3
  have hnl : N.length ≤ 40 ∧ C.length ≤ 40 := by
    simp only [farB, Bool.or_eq_false_iff, decide_eq_false_iff_not] at hf; omega
  have hxl : xs.length ≤ 40 := by
    unfold richB at hr
    rw [Bool.or_eq_false_iff] at hr
    have := of_decide_eq_false hr.1
    omega
  have hN0 := hN; have hC0 := hC; have hX0 := hX
  obtain ⟨W, hW, hb, hs, x0⟩ := boxes1 w #[.int .i64 r, .slice an N.length cn, .slice ac C.length cc] 24
  clear hs hN hC hX
  have c0 := x0.cell 0 rfl; have c1 := x0.cell 1 rfl; have c2 := x0.cell 2 rfl
  have HM := hid cM; have HM' := hid rM; have HL := hid cL; have HL' := hid rL; have HW := hid cW; have HW' := hid rW; have HO := hid cO; have Hne := hid hne; have Hw := hid hw; have Hy := hid hy
  clear cM rM cL rL cW rW cO hne hw hy
  go_enter Try.func4, Try.ntmps4
  go_wp2_with fail
  refine (far_any _ _ _ _ _ _ _ _ (hN0.below hb (Nat.le_refl _)) (hC0.below hb (Nat.le_refl _))).mono ?_
  rintro e1 W1 ⟨rfl, hb1⟩
  rw [hf]
  clear hW
  (try clear c0 c1 c2); replace x0 := x0.below hb1; have c0 := x0.cell 0 rfl; have c1 := x0.cell 1 rfl; have c2 := x0.cell 2 rfl; replace hb := hb.trans (hb1.mono hb.size); clear hb1
  go_wp2_with fail
  refine (rich_any _ _ _ _ _ _ _ _ _ _ _ (hN0.below hb (Nat.le_refl _)) (hC0.below hb (Nat.le_refl _)) (hX0.below hb (Nat.le_refl _))).mono ?_
  rintro e1 W1 ⟨rfl, hb1⟩
  rw [hr]
  (try clear c0 c1 c2); replace x0 := x0.below hb1; have c0 := x0.cell 0 rfl; have c1 := x0.cell 1 rfl; have c2 := x0.cell 2 rfl; replace hb := hb.trans (hb1.mono hb.size); clear hb1
  go_wp2_with fail
  refine (copy_any _ _ _ _ _ _ _ _ (hN0.below hb (Nat.le_refl _)) (hC0.below hb (Nat.le_refl _)) hnl.1 hnl.2).mono ?_
  rintro e1 W2 ⟨hb1, a1, a2, e1, e2, rfl, hN, hC⟩
  replace x0 := x0.below hb1; replace hb := hb.trans (hb1.mono hb.size); clear hb1
  clear c0 c1 c2 hf hr
  have hA := own_lit0 W2 3 1
  have hb1 := below_one (w := W2) (.cells #[] 3)
  have hcl := ((hX0.below hb (Nat.le_refl _)).below hb1 (Nat.le_refl _)).cls
  go_upto_region 4 with (at_builtin; refine wpList_app rfl (.tmp 29) (.tmp 30) 22 rfl W2.heap.size 3 j0 (.int .i64 0) 1 8 under22 hj jz0 jz1 jz2 rfl (by decide) _ 0 [] rfl hA a xs.length ca _ rfl (by simp) hcl (ints_one xs) (by unfold maxLen; omega) (by omega) (by simp) ?_; intro v1 W3 hown' hg)
  have hbY := hb1.grown hg (by simp) (own_ge hA)
  clear hA hcl hg hb1
  obtain ⟨a3, e3, rfl, hX⟩ := Ints.of_own (w := W3) (xs := xs) (by simpa using hown') hX0.len hX0.2.1
  clear hown'
  replace hN := hN.below hbY (Nat.le_refl _); replace hC := hC.below hbY (Nat.le_refl _); replace x0 := x0.below hbY; replace hb := hb.trans (hbY.mono hb.size); clear hbY
  obtain ⟨W4, hW4, hb1, hs4, x5⟩ := boxes1 W3 #[.int .i64 r, .slice a1 N.length e1, .slice a2 C.length e2] 24
  (try rw [hW4])
  have lg := x0.lt
  replace hN := hN.below hb1 (Nat.le_refl _); replace hC := hC.below hb1 (Nat.le_refl _); replace hX := hX.below hb1 (Nat.le_refl _); replace x0 := x0.below hb1; replace hb := hb.trans (hb1.mono hb.size); clear hb1
  clear hW4 hs4
  generalize W3.heap.size = g at *
  have f0 := x5.cell 0 rfl; have f1 := x5.cell 1 rfl; have f2 := x5.cell 2 rfl
  go_wp2_with fail
  refine (HM.out _ _ _ _ _ _ _ hN hC hX).mono ?_
  rintro e1 W6 ⟨rfl, hb1⟩
  clear f0 f1 f2
  replace hN := hN.below hb1 (Nat.le_refl _); replace hC := hC.below hb1 (Nat.le_refl _); replace hX := hX.below hb1 (Nat.le_refl _); replace x5 := x5.below hb1; (try clear c0 c1 c2); replace x0 := x0.below hb1; have c0 := x0.cell 0 rfl; have c1 := x0.cell 1 rfl; have c2 := x0.cell 2 rfl; replace hb := hb.trans (hb1.mono hb.size); clear hb1
  go_wp2_with fail
  refine (HM'.out _ _ _ _ _ _ _ (hN0.below hb (Nat.le_refl _)) (hC0.below hb (Nat.le_refl _)) (hX0.below hb (Nat.le_refl _))).mono ?_
  rintro e1 W7 ⟨rfl, hb1⟩
  clear c0 c1 c2
  replace hN := hN.below hb1 (Nat.le_refl _); replace hC := hC.below hb1 (Nat.le_refl _); replace hX := hX.below hb1 (Nat.le_refl _); replace x0 := x0.below hb1; (try clear f0 f1 f2); replace x5 := x5.below hb1; have f0 := x5.cell 0 rfl; have f1 := x5.cell 1 rfl; have f2 := x5.cell 2 rfl; replace hb := hb.trans (hb1.mono hb.size); clear hb1
  go_wp2_with fail
  refine (HL.out _ _ _ _ _ _ _ hN hC hX).mono ?_
  rintro e1 W8 ⟨rfl, hb1⟩
  clear f0 f1 f2
  replace hN := hN.below hb1 (Nat.le_refl _); replace hC := hC.below hb1 (Nat.le_refl _); replace hX := hX.below hb1 (Nat.le_refl _); replace x5 := x5.below hb1; (try clear c0 c1 c2); replace x0 := x0.below hb1; have c0 := x0.cell 0 rfl; have c1 := x0.cell 1 rfl; have c2 := x0.cell 2 rfl; replace hb := hb.trans (hb1.mono hb.size); clear hb1
  go_wp2_with fail
  refine (HL'.out _ _ _ _ _ _ _ (hN0.below hb (Nat.le_refl _)) (hC0.below hb (Nat.le_refl _)) (hX0.below hb (Nat.le_refl _))).mono ?_
  rintro e1 W9 ⟨rfl, hb1⟩
  clear c0 c1 c2
  replace hN := hN.below hb1 (Nat.le_refl _); replace hC := hC.below hb1 (Nat.le_refl _); replace hX := hX.below hb1 (Nat.le_refl _); replace x0 := x0.below hb1; (try clear f0 f1 f2); replace x5 := x5.below hb1; have f0 := x5.cell 0 rfl; have f1 := x5.cell 1 rfl; have f2 := x5.cell 2 rfl; replace hb := hb.trans (hb1.mono hb.size); clear hb1
  go_wp2_with fail
  refine (HW.out _ _ _ _ _ _ _ hN hC hX).mono ?_
  rintro e1 W10 ⟨rfl, hb1⟩
  clear f0 f1 f2
  replace hN := hN.below hb1 (Nat.le_refl _); replace hC := hC.below hb1 (Nat.le_refl _); replace hX := hX.below hb1 (Nat.le_refl _); replace x5 := x5.below hb1; (try clear c0 c1 c2); replace x0 := x0.below hb1; have c0 := x0.cell 0 rfl; have c1 := x0.cell 1 rfl; have c2 := x0.cell 2 rfl; replace hb := hb.trans (hb1.mono hb.size); clear hb1
  go_wp2_with fail
  refine (HW'.out _ _ _ _ _ _ _ (hN0.below hb (Nat.le_refl _)) (hC0.below hb (Nat.le_refl _)) (hX0.below hb (Nat.le_refl _))).mono ?_
  rintro e1 W11 ⟨rfl, hb1⟩
  clear c0 c1 c2
  replace hN := hN.below hb1 (Nat.le_refl _); replace hC := hC.below hb1 (Nat.le_refl _); replace hX := hX.below hb1 (Nat.le_refl _); replace x0 := x0.below hb1; (try clear f0 f1 f2); replace x5 := x5.below hb1; have f0 := x5.cell 0 rfl; have f1 := x5.cell 1 rfl; have f2 := x5.cell 2 rfl; replace hb := hb.trans (hb1.mono hb.size); clear hb1
  go_wp2_with fail
  refine (HO.out _ _ _ _ _ _ _ hN hC hX).mono ?_
  rintro e1 W12 ⟨hb1, b, cb, rfl, hB⟩
  replace hN := hN.below hb1 (Nat.le_refl _); replace hC := hC.below hb1 (Nat.le_refl _); replace hX := hX.below hb1 (Nat.le_refl _); (try clear f0 f1 f2); replace x5 := x5.below hb1; have f0 := x5.cell 0 rfl; have f1 := x5.cell 1 rfl; have f2 := x5.cell 2 rfl; (try clear c0 c1 c2); replace x0 := x0.below hb1; have c0 := x0.cell 0 rfl; have c1 := x0.cell 1 rfl; have c2 := x0.cell 2 rfl; replace hb := hb.trans (hb1.mono hb.size); clear hb1
  have hal : ¬ (24 : Int) < (acts.length : Int) := by omega
  go_wp2_with fail
  refine (same_any _ _ _ _ _ _ _ _ _ _ _ _ _ _ _ hN hC (hN0.below hb (Nat.le_refl _)) (hC0.below hb (Nat.le_refl _))).mono ?_
  rintro e1 W13 ⟨rfl, hb1⟩
  rw [(eq_iff3 r r N C N C).2 ⟨rfl, rfl, rfl⟩]
  clear f0 f1 f2
  replace hX := hX.below hb1 (Nat.le_refl _); replace hB := hB.below hb1 (Nat.le_refl _); (try clear c0 c1 c2); replace x0 := x0.below hb1; have c0 := x0.cell 0 rfl; have c1 := x0.cell 1 rfl; have c2 := x0.cell 2 rfl; replace hb := hb.trans (hb1.mono hb.size); clear hb1
  clear hN hC x5
  go_wp2_with fail
  refine (sameInts_any _ _ _ _ _ _ _ hX (hX0.below hb (Nat.le_refl _))).mono ?_
  rintro e1 W14 ⟨rfl, hq⟩
  rw [decide_eq_true (rfl : xs = xs)]
  have hb1 := hq.below W13.heap.size
  clear hX hq
  replace hB := hB.below hb1 (Nat.le_refl _); (try clear c0 c1 c2); replace x0 := x0.below hb1; have c0 := x0.cell 0 rfl; have c1 := x0.cell 1 rfl; have c2 := x0.cell 2 rfl; replace hb := hb.trans (hb1.mono hb.size); clear hb1
  by_cases he : e = 0
  · have hw := Hw.out he; have hy := Hy.out he
    have HWw := hid hw; have HYy := hid hy
    clear hw hy Hw Hy
    subst he
    go_wp2_with fail
    refine (HWw.out _ _ _ (hN0.below hb (Nat.le_refl _)) (hC0.below hb (Nat.le_refl _)) (hX0.below hb (Nat.le_refl _)) hB).mono ?_
    rintro e1 W15 ⟨rfl, hb1⟩
    replace hB := hB.below hb1 (Nat.le_refl _); (try clear c0 c1 c2); replace x0 := x0.below hb1; have c0 := x0.cell 0 rfl; have c1 := x0.cell 1 rfl; have c2 := x0.cell 2 rfl; replace hb := hb.trans (hb1.mono hb.size); clear hb1
    go_wp2_with fail
    refine (HYy.out _ _ _ (hN0.below hb (Nat.le_refl _)) (hC0.below hb (Nat.le_refl _)) hB).mono ?_
    rintro e1 W16 ⟨rfl, hb1⟩
    replace hb := hb.trans (hb1.mono hb.size)
    clear hb1 c0 c1 c2 x0 hB
    go_wp2_with fail
    refine (works_any _).mono ?_
    rintro e1 V3 ⟨rfl, hb1⟩
    replace hb := hb.trans (hb1.mono hb.size)
    clear hb1
    go_wp2
    go_ret
    exact ⟨rfl, hb⟩
  · have hl0 : (acts.length : Int) = 0 := by rw [Hne.out he]; rfl
    clear Hw Hy hB
    go_wp2_with fail
    refine (works_any _).mono ?_
    rintro e1 V3 ⟨rfl, hb1⟩
    replace hb := hb.trans (hb1.mono hb.size)
    clear hb1
    go_wp2
    go_ret
    exact ⟨rfl, hb⟩

theorem mst_any (r : Int) (an ac : Option Addr) (cn cc : Nat) (N C : List Int) (a : Option Addr) (ca : Nat) (xs : List Int) (w : World) (hN : Ints w an N) (hC : Ints w ac C) (hX : Ints w a xs) :
    Calls Try.prog 4 #[.agg #[.int .i64 r, .slice an N.length cn, .slice ac C.length cc], .slice a xs.length ca] w (WorksP w) := by
  cases hf : (farB N C || richB r N C xs)
  rotate_left
  · exact mst_far r an ac cn cc N C a ca xs w hN hC hX hf
  rw [Bool.or_eq_false_iff] at hf
  obtain ⟨hf, hr⟩ := hf
  have hxl : xs.length ≤ 40 := by
    unfold richB at hr
    rw [Bool.or_eq_false_iff] at hr
    have := of_decide_eq_false hr.1
    omega
  cases hv : validB r N C
  · exact mst_core r an ac cn cc N C a ca xs [] 0 0 0 10 w hN hC hX hf hr
      (fun an' ac' a' cn' cc' ca' W h1 h2 h3 => Most_28_bad r an' ac' cn' cc' N C a' ca' xs W h1 h2 h3 hv)
      (fun an' ac' a' cn' cc' ca' W h1 h2 h3 => rMost_29_bad r an' ac' cn' cc' N C a' ca' xs W h1 h2 hv)
      (fun an' ac' a' cn' cc' ca' W h1 h2 h3 => Most_30_bad r an' ac' cn' cc' N C a' ca' xs W h1 h2 h3 hv)
      (fun an' ac' a' cn' cc' ca' W h1 h2 h3 => rMost_31_bad r an' ac' cn' cc' N C a' ca' xs W h1 h2 hv)
      (fun an' ac' a' cn' cc' ca' W h1 h2 h3 => Wst_32_bad r an' ac' cn' cc' N C a' ca' xs W h1 h2 h3 hv)
      (fun an' ac' a' cn' cc' ca' W h1 h2 h3 => rWst_bad r an' ac' cn' cc' N C a' ca' xs W h1 h2 hv)
      (fun an' ac' a' cn' cc' ca' W h1 h2 h3 => (Wst_34_bad r an' ac' cn' cc' N C a' ca' xs W h1 h2 h3 hv).mono fun e w' ⟨h, hb⟩ => ⟨hb, none, 0, h, ⟨by simp, fun x hx => by simp at hx, fun i hi => by simp at hi⟩⟩)
      (by simp) (fun _ => rfl) (fun h => absurd h (by decide)) (fun h => absurd h (by decide))
  · obtain ⟨R, rfl, hw⟩ := Vw.of_valid hv
    cases ho : okP C xs
    · exact mst_core R an ac cn cc N C a ca xs [] 0 0 0 1 w hN hC hX hf hr
        (fun an' ac' a' cn' cc' ca' W h1 h2 h3 => Most_28_arg R an' ac' cn' cc' N C a' ca' xs W h1 h2 h3 hw ho)
        (fun an' ac' a' cn' cc' ca' W h1 h2 h3 => rMost_29_arg R an' ac' cn' cc' N C a' ca' xs W h1 h2 h3 hw hxl ho)
        (fun an' ac' a' cn' cc' ca' W h1 h2 h3 => Most_30_arg R an' ac' cn' cc' N C a' ca' xs W h1 h2 h3 hw ho)
        (fun an' ac' a' cn' cc' ca' W h1 h2 h3 => rMost_31_arg R an' ac' cn' cc' N C a' ca' xs W h1 h2 h3 hw hxl ho)
        (fun an' ac' a' cn' cc' ca' W h1 h2 h3 => Wst_32_arg R an' ac' cn' cc' N C a' ca' xs W h1 h2 h3 hw ho)
        (fun an' ac' a' cn' cc' ca' W h1 h2 h3 => rWst_arg R an' ac' cn' cc' N C a' ca' xs W h1 h2 h3 hw hxl ho)
        (fun an' ac' a' cn' cc' ca' W h1 h2 h3 => (Wst_34_arg R an' ac' cn' cc' N C a' ca' xs W h1 h2 h3 hw ho).mono fun e w' ⟨h, hb⟩ => ⟨hb, none, 0, h, ⟨by simp, fun x hx => by simp at hx, fun i hi => by simp at hi⟩⟩)
        (by simp) (fun _ => rfl) (fun h => absurd h (by decide)) (fun h => absurd h (by decide))
    · obtain ⟨q1, q2, q3, q4, q5⟩ := ord_is hw ho
      exact mst_core R an ac cn cc N C a ca xs (ordL R N C xs) (bst btm R N C (ps0 xs) : Nat) (bst btf R N C (ps0 xs) : Nat) (wasteV R N C xs : Nat) 0 w hN hC hX hf hr
        (fun an' ac' a' cn' cc' ca' W h1 h2 h3 => Most_28_ok R an' ac' cn' cc' N C a' ca' xs W h1 h2 h3 hw ho)
        (fun an' ac' a' cn' cc' ca' W h1 h2 h3 => rMost_29_ok R an' ac' cn' cc' N C a' ca' xs W h1 h2 h3 hw ho)
        (fun an' ac' a' cn' cc' ca' W h1 h2 h3 => Most_30_ok R an' ac' cn' cc' N C a' ca' xs W h1 h2 h3 hw ho)
        (fun an' ac' a' cn' cc' ca' W h1 h2 h3 => rMost_31_ok R an' ac' cn' cc' N C a' ca' xs W h1 h2 h3 hw ho)
        (fun an' ac' a' cn' cc' ca' W h1 h2 h3 => Wasted_ok R an' ac' cn' cc' N C a' ca' xs W h1 h2 h3 hw ho)
        (fun an' ac' a' cn' cc' ca' W h1 h2 h3 => rWst_ok R an' ac' cn' cc' N C a' ca' xs W h1 h2 h3 hw ho)
        (fun an' ac' a' cn' cc' ca' W h1 h2 h3 => Order_ok R an' ac' cn' cc' N C a' ca' xs W h1 h2 h3 hw ho)
        q5 (fun h => absurd rfl h)
        (fun _ b cb W h1 h2 h3 h4 => isWay_ok R an ac cn cc N C a b ca cb xs (ordL R N C xs) W h2 h3 h4 hw q3 (by omega) q4 q1)
        (fun _ b cb W h1 h2 h4 => by
          have := buys_any R an ac cn cc N C b cb (ordL R N C xs) W h1 h2 h4 hw q3 (by omega)
          rw [q2] at this
          exact this)
end Go.Proofs.Ytmkmnedojgigoaa
