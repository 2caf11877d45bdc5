import Derived.Test.YtmkmnedojgigoaaO3
import Derived.Test.YtmkmnedojgigoaaM1
namespace Go.Proofs.Ytmkmnedojgigoaa
open Go.RowKit

def midB (n : Nat) : Bool := decide ((6 : Int) < (n : Int)) && decide ((n : Int) ≤ 20)

set_option maxRecDepth 100000 in
set_option maxHeartbeats 1000000 in
theorem ccould_few (r : Int) (an ac : Option Addr) (cn cc : Nat) (N C : List Int) (a : Option Addr) (ca : Nat) (xs : List (Int × Int)) (w : World) (hN : Ints w an N) (hC : Ints w ac C) (hX : Prs w a xs) (hf : farB N C = false) (hl : xs.length ≤ 40) (hm : xs.length ≤ 6) :
    Calls Try.prog 6 #[.agg #[.int .i64 r, .slice an N.length cn, .slice ac C.length cc], .slice a xs.length ca] w (WorksP w) := by
  obtain ⟨j0, hj, jz0, jz1, jz2⟩ := info_parts info50
  have hnl : N.length ≤ 40 ∧ C.length ≤ 40 := by
    simp only [farB, Bool.or_eq_false_iff, decide_eq_false_iff_not] at hf; omega
  have hN0 := hN; have hC0 := hC; have hX0 := hX
  have d1 : decide ((40 : Int) < (xs.length : Int)) = false := by simp; omega
  have dm : decide ((6 : Int) < (xs.length : Int)) = false := by simp; omega
  obtain ⟨ee, hee⟩ : ∃ t, t = cldE r N C xs := ⟨_, rfl⟩
  obtain ⟨L, hL⟩ : ∃ t, t = cldL r N C xs := ⟨_, rfl⟩
  obtain ⟨M, hM⟩ : ∃ t, t = nowV r N C xs := ⟨_, rfl⟩
  have cu : ∀ (an' ac' a' : Option Addr) (cn' cc' ca' : Nat) (W : World), Ints W an' N → Ints W ac' C → Prs W a' xs → Calls Try.prog 39 #[.agg #[.int .i64 r, .slice an' N.length cn', .slice ac' C.length cc'], .slice a' xs.length ca'] W (SeenPost ee L W) := fun an' ac' a' cn' cc' ca' W h1 h2 h3 => by
    rw [hee, hL]; exact could_any r an' ac' cn' cc' N C a' ca' xs W h1 h2 h3
  have cr : ∀ W : World, Ints W an N → Ints W ac C → Prs W a xs → Calls Try.prog 40 #[.agg #[.int .i64 r, .slice an N.length cn, .slice ac C.length cc], .slice a xs.length ca] W (SeenPost ee L W) := fun W h1 h2 h3 => by
    rw [hee, hL]; exact rcould_any r an ac cn cc N C a ca xs W h1 h2 h3
  have nu : ∀ (an' ac' a' : Option Addr) (cn' cc' ca' : Nat) (W : World), Ints W an' N → Ints W ac' C → Prs W a' xs → Calls Try.prog 41 #[.agg #[.int .i64 r, .slice an' N.length cn', .slice ac' C.length cc'], .slice a' xs.length ca'] W (SeenPost ee M W) := fun an' ac' a' cn' cc' ca' W h1 h2 h3 => by
    rw [hee, hM]; exact now_any r an' ac' cn' cc' N C a' ca' xs W h1 h2 h3
  have nr : ∀ W : World, Ints W an N → Ints W ac C → Prs W a xs → Calls Try.prog 42 #[.agg #[.int .i64 r, .slice an N.length cn, .slice ac C.length cc], .slice a xs.length ca] W (SeenPost ee M W) := fun W h1 h2 h3 => by
    rw [hee, hM]; exact rnow_any r an ac cn cc N C a ca xs W h1 h2 h3
  clear hee hL hM
  obtain ⟨W, hW, hb, hs, x0⟩ := boxes1 w #[.int .i64 r, .slice an N.length cn, .slice ac C.length cc] 24
  clear hs hN hC hX
  have c0 := x0.cell 0 rfl; have c1 := x0.cell 1 rfl; have c2 := x0.cell 2 rfl
  go_enter Try.func6, Try.ntmps6
  go_wp2_with fail
  refine (far_any _ _ _ _ _ _ _ _ (hN0.below hb (Nat.le_refl _)) (hC0.below hb (Nat.le_refl _))).mono ?_
  rintro e W1 ⟨rfl, hb1⟩
  rw [hf]
  clear hW
  (try clear c0 c1 c2); replace x0 := x0.below hb1; have c0 := x0.cell 0 rfl; have c1 := x0.cell 1 rfl; have c2 := x0.cell 2 rfl; replace hb := hb.trans (hb1.mono hb.size); clear hb1
  go_wp2_with fail
  refine (copy_any _ _ _ _ _ _ _ _ (hN0.below hb (Nat.le_refl _)) (hC0.below hb (Nat.le_refl _)) hnl.1 hnl.2).mono ?_
  rintro e W2 ⟨hb1, a1, a2, e1, e2, rfl, hN, hC⟩
  replace x0 := x0.below hb1; replace hb := hb.trans (hb1.mono hb.size); clear hb1
  clear c0 c1 c2 hf d1 dm
  have hA := own_lit0 W2 50 2
  have hb1 := below_one (w := W2) (.cells #[] 50)
  have hcl := ((hX0.below hb (Nat.le_refl _)).below hb1 (Nat.le_refl _)).cls
  go_wp2_with (at_builtin; refine wpList_app rfl (.tmp 36) (.tmp 37) 47 rfl W2.heap.size 50 j0 (.agg #[.int .i64 0, .int .i64 0]) 2 16 under47 hj jz0 jz1 jz2 rfl (by decide) _ 0 [] rfl hA a xs.length ca _ rfl (pcells_len xs) hcl (pcells_one xs) (by unfold maxLen; omega) (by omega) (by simp) ?_; intro v1 W3 hown' hg)
  have hbY := hb1.grown hg (by simp) (own_ge2 hA)
  clear hA hcl hg hb1
  obtain ⟨a3, e3, rfl, hX⟩ := Prs.of_own (w := W3) (xs := xs) (by simpa using hown') hX0.1 hX0.2.1
  clear hown'
  replace hN := hN.below hbY (Nat.le_refl _); replace hC := hC.below hbY (Nat.le_refl _); replace x0 := x0.below hbY; replace hb := hb.trans (hbY.mono hb.size); clear hbY
  obtain ⟨W4, hW4, hb1, hs4, x7⟩ := boxes1 W3 #[.int .i64 r, .slice a1 N.length e1, .slice a2 C.length e2] 24
  rw [hW4]
  have lg := x0.lt
  replace hN := hN.below hb1 (Nat.le_refl _); replace hC := hC.below hb1 (Nat.le_refl _); replace hX := hX.below hb1 (Nat.le_refl _); replace x0 := x0.below hb1; replace hb := hb.trans (hb1.mono hb.size); clear hb1
  clear hW4 hs4
  generalize W3.heap.size = g at *
  refine (cu _ _ _ _ _ _ _ hN hC hX).mono ?_
  rintro e W5 ⟨hb1, b1, f1, rfl, hB1⟩
  replace hN := hN.below hb1 (Nat.le_refl _); replace hC := hC.below hb1 (Nat.le_refl _); replace hX := hX.below hb1 (Nat.le_refl _); replace x7 := x7.below hb1; (try clear c0 c1 c2); replace x0 := x0.below hb1; have c0 := x0.cell 0 rfl; have c1 := x0.cell 1 rfl; have c2 := x0.cell 2 rfl; replace hb := hb.trans (hb1.mono hb.size); clear hb1
  go_wp2_with fail
  refine (cr _ (hN0.below hb (Nat.le_refl _)) (hC0.below hb (Nat.le_refl _)) (hX0.below hb (Nat.le_refl _))).mono ?_
  rintro e W6 ⟨hb1, b2, f2, rfl, hB2⟩
  replace hN := hN.below hb1 (Nat.le_refl _); replace hC := hC.below hb1 (Nat.le_refl _); replace hX := hX.below hb1 (Nat.le_refl _); replace hB1 := hB1.below hb1 (Nat.le_refl _); replace x0 := x0.below hb1; (try clear d0 d1 d2); replace x7 := x7.below hb1; have d0 := x7.cell 0 rfl; have d1 := x7.cell 1 rfl; have d2 := x7.cell 2 rfl; replace hb := hb.trans (hb1.mono hb.size); clear hb1
  clear c0 c1 c2
  go_wp2_with fail
  refine (nu _ _ _ _ _ _ _ hN hC hX).mono ?_
  rintro e W7 ⟨hb1, b3, f3, rfl, hB3⟩
  replace hN := hN.below hb1 (Nat.le_refl _); replace hC := hC.below hb1 (Nat.le_refl _); replace hX := hX.below hb1 (Nat.le_refl _); replace hB1 := hB1.below hb1 (Nat.le_refl _); replace hB2 := hB2.below hb1 (Nat.le_refl _); replace x7 := x7.below hb1; (try clear c0 c1 c2); replace x0 := x0.below hb1; have c0 := x0.cell 0 rfl; have c1 := x0.cell 1 rfl; have c2 := x0.cell 2 rfl; replace hb := hb.trans (hb1.mono hb.size); clear hb1
  clear d0 d1 d2
  go_wp2_with fail
  refine (nr _ (hN0.below hb (Nat.le_refl _)) (hC0.below hb (Nat.le_refl _)) (hX0.below hb (Nat.le_refl _))).mono ?_
  rintro e W8 ⟨hb1, b4, f4, rfl, hB4⟩
  replace hN := hN.below hb1 (Nat.le_refl _); replace hC := hC.below hb1 (Nat.le_refl _); replace hX := hX.below hb1 (Nat.le_refl _); replace hB1 := hB1.below hb1 (Nat.le_refl _); replace hB2 := hB2.below hb1 (Nat.le_refl _); replace hB3 := hB3.below hb1 (Nat.le_refl _); replace x7 := x7.below hb1; replace x0 := x0.below hb1; replace hb := hb.trans (hb1.mono hb.size); clear hb1
  clear c0 c1 c2 cu cr nu nr
  go_wp2_with fail
  refine (sameInts_any _ _ _ _ _ _ _ hB1 hB2).mono ?_
  rintro e W9 ⟨rfl, hq⟩
  rw [decide_eq_true (rfl : L = L)]
  have hb1 := hq.below W8.heap.size
  replace hN := hN.below hb1 (Nat.le_refl _); replace hC := hC.below hb1 (Nat.le_refl _); replace hX := hX.below hb1 (Nat.le_refl _); replace hB3 := hB3.below hb1 (Nat.le_refl _); replace hB4 := hB4.below hb1 (Nat.le_refl _); replace x7 := x7.below hb1; replace x0 := x0.below hb1; replace hb := hb.trans (hb1.mono hb.size); clear hb1
  clear hq hB1 hB2
  go_wp2_with fail
  refine (sameInts_any _ _ _ _ _ _ _ hB3 hB4).mono ?_
  rintro e W10 ⟨rfl, hq⟩
  rw [decide_eq_true (rfl : M = M)]
  have hb1 := hq.below W9.heap.size
  replace hN := hN.below hb1 (Nat.le_refl _); replace hC := hC.below hb1 (Nat.le_refl _); replace hX := hX.below hb1 (Nat.le_refl _); (try clear d0 d1 d2); replace x7 := x7.below hb1; have d0 := x7.cell 0 rfl; have d1 := x7.cell 1 rfl; have d2 := x7.cell 2 rfl; (try clear c0 c1 c2); replace x0 := x0.below hb1; have c0 := x0.cell 0 rfl; have c1 := x0.cell 1 rfl; have c2 := x0.cell 2 rfl; replace hb := hb.trans (hb1.mono hb.size); clear hb1
  clear hq hB3 hB4
  go_wp2_with fail
  refine (same_any _ _ _ _ _ _ _ _ _ _ _ _ _ _ _ hN hC (hN0.below hb (Nat.le_refl _)) (hC0.below hb (Nat.le_refl _))).mono ?_
  rintro e W11 ⟨rfl, hb1⟩
  rw [(eq_iff3 r r N C N C).2 ⟨rfl, rfl, rfl⟩]
  replace hX := hX.below hb1 (Nat.le_refl _); replace hb := hb.trans (hb1.mono hb.size); clear hb1
  clear hN hC x0 x7 c0 c1 c2 d0 d1 d2
  go_wp2_with fail
  have hX2 := hX0.below hb (Nat.le_refl _)
  have hlI : (xs.length : Int) ≤ 40 := by omega
  go_loopw [15] (fun s15 wr => ∃ k : Nat, k ≤ xs.length ∧ s15 = .int .i64 k ∧ Qd W11 wr) (fun s15 _ => xs.length - (intOf s15).toNat)
  case atStart => exact ⟨0, Nat.zero_le _, rfl, Qd.refl _⟩
  case round =>
    obtain ⟨k, hk, rfl, hq⟩ := hrel
    replace hX := hX.below (hq.below W11.heap.size) (Nat.le_refl _)
    replace hX2 := hX2.below (hq.below W11.heap.size) (Nat.le_refl _)
    by_cases hlt : k < xs.length
    · obtain ⟨b, off, x, y, rfl, hbs, hc, hc', _, _, hx, hd⟩ := hX.at hlt
      obtain ⟨b', off', x', y', rfl, hbs', hd0, hd1, _, _, hx', _⟩ := hX2.at hlt
      have hxx := hx.out
      rw [hx'.out] at hxx
      simp only [Option.some.injEq, Prod.mk.injEq] at hxx
      obtain ⟨rfl, rfl⟩ := hxx
      clear hx hx' hd
      have hkI : (k : Int) < (xs.length : Int) := by omega
      have hk0 : (0 : Int) ≤ (k : Int) := by omega
      go_wp2
      go_quiet (fail)
      go_wp2
      go_roundw
      case rel => exact ⟨k + 1, by omega, by go_num, hq.drewN _⟩
      case measure => simp [intOf]; omega
    · replace hb := hb.trans ((hq.below _).mono hb.size)
      go_wp2_with fail
      refine (works_any _).mono ?_
      rintro e V3 ⟨rfl, hb1⟩
      replace hb := hb.trans (hb1.mono hb.size)
      clear hb1
      go_wp2
      go_ret
      exact ⟨rfl, hb⟩
set_option maxRecDepth 100000 in
set_option maxHeartbeats 1000000 in
theorem ccould_many (r : Int) (an ac : Option Addr) (cn cc : Nat) (N C : List Int) (a : Option Addr) (ca : Nat) (xs : List (Int × Int)) (w : World) (hN : Ints w an N) (hC : Ints w ac C) (hX : Prs w a xs) (hf : farB N C = false) (hl : xs.length ≤ 40) (hm : 20 < xs.length) :
    Calls Try.prog 6 #[.agg #[.int .i64 r, .slice an N.length cn, .slice ac C.length cc], .slice a xs.length ca] w (WorksP w) := by
  obtain ⟨j0, hj, jz0, jz1, jz2⟩ := info_parts info50
  have hnl : N.length ≤ 40 ∧ C.length ≤ 40 := by
    simp only [farB, Bool.or_eq_false_iff, decide_eq_false_iff_not] at hf; omega
  have hN0 := hN; have hC0 := hC; have hX0 := hX
  have d1 : decide ((40 : Int) < (xs.length : Int)) = false := by simp; omega
  have dm : decide ((6 : Int) < (xs.length : Int)) = true := by simp; omega
  have dn : decide ((xs.length : Int) ≤ 20) = false := by simp; omega
  obtain ⟨ee, hee⟩ : ∃ t, t = cldE r N C xs := ⟨_, rfl⟩
  obtain ⟨L, hL⟩ : ∃ t, t = cldL r N C xs := ⟨_, rfl⟩
  obtain ⟨M, hM⟩ : ∃ t, t = nowV r N C xs := ⟨_, rfl⟩
  have cu : ∀ (an' ac' a' : Option Addr) (cn' cc' ca' : Nat) (W : World), Ints W an' N → Ints W ac' C → Prs W a' xs → Calls Try.prog 39 #[.agg #[.int .i64 r, .slice an' N.length cn', .slice ac' C.length cc'], .slice a' xs.length ca'] W (SeenPost ee L W) := fun an' ac' a' cn' cc' ca' W h1 h2 h3 => by
    rw [hee, hL]; exact could_any r an' ac' cn' cc' N C a' ca' xs W h1 h2 h3
  have cr : ∀ W : World, Ints W an N → Ints W ac C → Prs W a xs → Calls Try.prog 40 #[.agg #[.int .i64 r, .slice an N.length cn, .slice ac C.length cc], .slice a xs.length ca] W (SeenPost ee L W) := fun W h1 h2 h3 => by
    rw [hee, hL]; exact rcould_any r an ac cn cc N C a ca xs W h1 h2 h3
  have nu : ∀ (an' ac' a' : Option Addr) (cn' cc' ca' : Nat) (W : World), Ints W an' N → Ints W ac' C → Prs W a' xs → Calls Try.prog 41 #[.agg #[.int .i64 r, .slice an' N.length cn', .slice ac' C.length cc'], .slice a' xs.length ca'] W (SeenPost ee M W) := fun an' ac' a' cn' cc' ca' W h1 h2 h3 => by
    rw [hee, hM]; exact now_any r an' ac' cn' cc' N C a' ca' xs W h1 h2 h3
  have nr : ∀ W : World, Ints W an N → Ints W ac C → Prs W a xs → Calls Try.prog 42 #[.agg #[.int .i64 r, .slice an N.length cn, .slice ac C.length cc], .slice a xs.length ca] W (SeenPost ee M W) := fun W h1 h2 h3 => by
    rw [hee, hM]; exact rnow_any r an ac cn cc N C a ca xs W h1 h2 h3
  clear hee hL hM
  obtain ⟨W, hW, hb, hs, x0⟩ := boxes1 w #[.int .i64 r, .slice an N.length cn, .slice ac C.length cc] 24
  clear hs hN hC hX
  have c0 := x0.cell 0 rfl; have c1 := x0.cell 1 rfl; have c2 := x0.cell 2 rfl
  go_enter Try.func6, Try.ntmps6
  go_wp2_with fail
  refine (far_any _ _ _ _ _ _ _ _ (hN0.below hb (Nat.le_refl _)) (hC0.below hb (Nat.le_refl _))).mono ?_
  rintro e W1 ⟨rfl, hb1⟩
  rw [hf]
  clear hW
  (try clear c0 c1 c2); replace x0 := x0.below hb1; have c0 := x0.cell 0 rfl; have c1 := x0.cell 1 rfl; have c2 := x0.cell 2 rfl; replace hb := hb.trans (hb1.mono hb.size); clear hb1
  go_wp2_with fail
  refine (copy_any _ _ _ _ _ _ _ _ (hN0.below hb (Nat.le_refl _)) (hC0.below hb (Nat.le_refl _)) hnl.1 hnl.2).mono ?_
  rintro e W2 ⟨hb1, a1, a2, e1, e2, rfl, hN, hC⟩
  replace x0 := x0.below hb1; replace hb := hb.trans (hb1.mono hb.size); clear hb1
  clear c0 c1 c2 hf d1 dm dn
  have hA := own_lit0 W2 50 2
  have hb1 := below_one (w := W2) (.cells #[] 50)
  have hcl := ((hX0.below hb (Nat.le_refl _)).below hb1 (Nat.le_refl _)).cls
  go_wp2_with (at_builtin; refine wpList_app rfl (.tmp 36) (.tmp 37) 47 rfl W2.heap.size 50 j0 (.agg #[.int .i64 0, .int .i64 0]) 2 16 under47 hj jz0 jz1 jz2 rfl (by decide) _ 0 [] rfl hA a xs.length ca _ rfl (pcells_len xs) hcl (pcells_one xs) (by unfold maxLen; omega) (by omega) (by simp) ?_; intro v1 W3 hown' hg)
  have hbY := hb1.grown hg (by simp) (own_ge2 hA)
  clear hA hcl hg hb1
  obtain ⟨a3, e3, rfl, hX⟩ := Prs.of_own (w := W3) (xs := xs) (by simpa using hown') hX0.1 hX0.2.1
  clear hown'
  replace hN := hN.below hbY (Nat.le_refl _); replace hC := hC.below hbY (Nat.le_refl _); replace x0 := x0.below hbY; replace hb := hb.trans (hbY.mono hb.size); clear hbY
  obtain ⟨W4, hW4, hb1, hs4, x7⟩ := boxes1 W3 #[.int .i64 r, .slice a1 N.length e1, .slice a2 C.length e2] 24
  rw [hW4]
  have lg := x0.lt
  replace hN := hN.below hb1 (Nat.le_refl _); replace hC := hC.below hb1 (Nat.le_refl _); replace hX := hX.below hb1 (Nat.le_refl _); replace x0 := x0.below hb1; replace hb := hb.trans (hb1.mono hb.size); clear hb1
  clear hW4 hs4
  generalize W3.heap.size = g at *
  refine (cu _ _ _ _ _ _ _ hN hC hX).mono ?_
  rintro e W5 ⟨hb1, b1, f1, rfl, hB1⟩
  replace hN := hN.below hb1 (Nat.le_refl _); replace hC := hC.below hb1 (Nat.le_refl _); replace hX := hX.below hb1 (Nat.le_refl _); replace x7 := x7.below hb1; (try clear c0 c1 c2); replace x0 := x0.below hb1; have c0 := x0.cell 0 rfl; have c1 := x0.cell 1 rfl; have c2 := x0.cell 2 rfl; replace hb := hb.trans (hb1.mono hb.size); clear hb1
  go_wp2_with fail
  refine (cr _ (hN0.below hb (Nat.le_refl _)) (hC0.below hb (Nat.le_refl _)) (hX0.below hb (Nat.le_refl _))).mono ?_
  rintro e W6 ⟨hb1, b2, f2, rfl, hB2⟩
  replace hN := hN.below hb1 (Nat.le_refl _); replace hC := hC.below hb1 (Nat.le_refl _); replace hX := hX.below hb1 (Nat.le_refl _); replace hB1 := hB1.below hb1 (Nat.le_refl _); replace x0 := x0.below hb1; (try clear d0 d1 d2); replace x7 := x7.below hb1; have d0 := x7.cell 0 rfl; have d1 := x7.cell 1 rfl; have d2 := x7.cell 2 rfl; replace hb := hb.trans (hb1.mono hb.size); clear hb1
  clear c0 c1 c2
  go_wp2_with fail
  refine (nu _ _ _ _ _ _ _ hN hC hX).mono ?_
  rintro e W7 ⟨hb1, b3, f3, rfl, hB3⟩
  replace hN := hN.below hb1 (Nat.le_refl _); replace hC := hC.below hb1 (Nat.le_refl _); replace hX := hX.below hb1 (Nat.le_refl _); replace hB1 := hB1.below hb1 (Nat.le_refl _); replace hB2 := hB2.below hb1 (Nat.le_refl _); replace x7 := x7.below hb1; (try clear c0 c1 c2); replace x0 := x0.below hb1; have c0 := x0.cell 0 rfl; have c1 := x0.cell 1 rfl; have c2 := x0.cell 2 rfl; replace hb := hb.trans (hb1.mono hb.size); clear hb1
  clear d0 d1 d2
  go_wp2_with fail
  refine (nr _ (hN0.below hb (Nat.le_refl _)) (hC0.below hb (Nat.le_refl _)) (hX0.below hb (Nat.le_refl _))).mono ?_
  rintro e W8 ⟨hb1, b4, f4, rfl, hB4⟩
  replace hN := hN.below hb1 (Nat.le_refl _); replace hC := hC.below hb1 (Nat.le_refl _); replace hX := hX.below hb1 (Nat.le_refl _); replace hB1 := hB1.below hb1 (Nat.le_refl _); replace hB2 := hB2.below hb1 (Nat.le_refl _); replace hB3 := hB3.below hb1 (Nat.le_refl _); replace x7 := x7.below hb1; replace x0 := x0.below hb1; replace hb := hb.trans (hb1.mono hb.size); clear hb1
  clear c0 c1 c2 cu cr nu nr
  go_wp2_with fail
  refine (sameInts_any _ _ _ _ _ _ _ hB1 hB2).mono ?_
  rintro e W9 ⟨rfl, hq⟩
  rw [decide_eq_true (rfl : L = L)]
  have hb1 := hq.below W8.heap.size
  replace hN := hN.below hb1 (Nat.le_refl _); replace hC := hC.below hb1 (Nat.le_refl _); replace hX := hX.below hb1 (Nat.le_refl _); replace hB3 := hB3.below hb1 (Nat.le_refl _); replace hB4 := hB4.below hb1 (Nat.le_refl _); replace x7 := x7.below hb1; replace x0 := x0.below hb1; replace hb := hb.trans (hb1.mono hb.size); clear hb1
  clear hq hB1 hB2
  go_wp2_with fail
  refine (sameInts_any _ _ _ _ _ _ _ hB3 hB4).mono ?_
  rintro e W10 ⟨rfl, hq⟩
  rw [decide_eq_true (rfl : M = M)]
  have hb1 := hq.below W9.heap.size
  replace hN := hN.below hb1 (Nat.le_refl _); replace hC := hC.below hb1 (Nat.le_refl _); replace hX := hX.below hb1 (Nat.le_refl _); (try clear d0 d1 d2); replace x7 := x7.below hb1; have d0 := x7.cell 0 rfl; have d1 := x7.cell 1 rfl; have d2 := x7.cell 2 rfl; (try clear c0 c1 c2); replace x0 := x0.below hb1; have c0 := x0.cell 0 rfl; have c1 := x0.cell 1 rfl; have c2 := x0.cell 2 rfl; replace hb := hb.trans (hb1.mono hb.size); clear hb1
  clear hq hB3 hB4
  go_wp2_with fail
  refine (same_any _ _ _ _ _ _ _ _ _ _ _ _ _ _ _ hN hC (hN0.below hb (Nat.le_refl _)) (hC0.below hb (Nat.le_refl _))).mono ?_
  rintro e W11 ⟨rfl, hb1⟩
  rw [(eq_iff3 r r N C N C).2 ⟨rfl, rfl, rfl⟩]
  replace hX := hX.below hb1 (Nat.le_refl _); replace hb := hb.trans (hb1.mono hb.size); clear hb1
  clear hN hC x0 x7 c0 c1 c2 d0 d1 d2
  go_wp2_with fail
  have hX2 := hX0.below hb (Nat.le_refl _)
  have hlI : (xs.length : Int) ≤ 40 := by omega
  go_loopw [15] (fun s15 wr => ∃ k : Nat, k ≤ xs.length ∧ s15 = .int .i64 k ∧ Qd W11 wr) (fun s15 _ => xs.length - (intOf s15).toNat)
  case atStart => exact ⟨0, Nat.zero_le _, rfl, Qd.refl _⟩
  case round =>
    obtain ⟨k, hk, rfl, hq⟩ := hrel
    replace hX := hX.below (hq.below W11.heap.size) (Nat.le_refl _)
    replace hX2 := hX2.below (hq.below W11.heap.size) (Nat.le_refl _)
    by_cases hlt : k < xs.length
    · obtain ⟨b, off, x, y, rfl, hbs, hc, hc', _, _, hx, hd⟩ := hX.at hlt
      obtain ⟨b', off', x', y', rfl, hbs', hd0, hd1, _, _, hx', _⟩ := hX2.at hlt
      have hxx := hx.out
      rw [hx'.out] at hxx
      simp only [Option.some.injEq, Prod.mk.injEq] at hxx
      obtain ⟨rfl, rfl⟩ := hxx
      clear hx hx' hd
      have hkI : (k : Int) < (xs.length : Int) := by omega
      have hk0 : (0 : Int) ≤ (k : Int) := by omega
      go_wp2
      go_quiet (fail)
      go_wp2
      go_roundw
      case rel => exact ⟨k + 1, by omega, by go_num, hq.drewN _⟩
      case measure => simp [intOf]; omega
    · replace hb := hb.trans ((hq.below _).mono hb.size)
      go_wp2_with fail
      refine (works_any _).mono ?_
      rintro e V3 ⟨rfl, hb1⟩
      replace hb := hb.trans (hb1.mono hb.size)
      clear hb1
      go_wp2
      go_ret
      exact ⟨rfl, hb⟩

def argCould (N C : List Int) (n : Nat) : Bool := !farB N C && (decide (n ≤ 40) && !midB n)
set_option maxRecDepth 100000 in
set_option maxHeartbeats 1000000 in
theorem ccould_arg (r : Int) (an ac : Option Addr) (cn cc : Nat) (N C : List Int) (a : Option Addr) (ca : Nat) (xs : List (Int × Int)) (w : World) (hN : Ints w an N) (hC : Ints w ac C) (lx : xs.length ≤ 9223372036854775807) (ho : argCould N C xs.length = false) :
    Calls Try.prog 6 #[.agg #[.int .i64 r, .slice an N.length cn, .slice ac C.length cc], .slice a xs.length ca] w (WorksP w) := by
  obtain ⟨W, hW, hb, hs, x0⟩ := boxes1 w #[.int .i64 r, .slice an N.length cn, .slice ac C.length cc] 24
  clear hs
  replace hN := hN.below hb (Nat.le_refl _); replace hC := hC.below hb (Nat.le_refl _)
  have c0 := x0.cell 0 rfl; have c1 := x0.cell 1 rfl; have c2 := x0.cell 2 rfl
  cases hf : farB N C
  · by_cases h40 : xs.length ≤ 40
    · have d1 : decide ((40 : Int) < (xs.length : Int)) = false := by simp; omega
      have h6 : midB xs.length = true := by simpa [argCould, hf, h40] using ho
      rw [midB, Bool.and_eq_true] at h6
      obtain ⟨d2, d3⟩ := h6
      clear ho
      go_enter Try.func6, Try.ntmps6
      go_wp2_with fail
      refine (far_any _ _ _ _ _ _ _ _ hN hC).mono ?_
      rintro e W1 ⟨rfl, hb1⟩
      rw [hf]
      replace hb := hb.trans (hb1.mono hb.size)
      clear hW x0 c0 c1 c2 hb1 hN hC
      go_wp2_with fail
      refine (works_any _).mono ?_
      rintro e V3 ⟨rfl, hb1⟩
      replace hb := hb.trans (hb1.mono hb.size)
      clear hb1
      go_wp2
      go_ret
      exact ⟨rfl, hb⟩
    · have d1 : decide ((40 : Int) < (xs.length : Int)) = true := by simp; omega
      clear ho
      go_enter Try.func6, Try.ntmps6
      go_wp2_with fail
      refine (far_any _ _ _ _ _ _ _ _ hN hC).mono ?_
      rintro e W1 ⟨rfl, hb1⟩
      rw [hf]
      replace hb := hb.trans (hb1.mono hb.size)
      clear hW x0 c0 c1 c2 hb1 hN hC
      go_wp2_with fail
      refine (works_any _).mono ?_
      rintro e V3 ⟨rfl, hb1⟩
      replace hb := hb.trans (hb1.mono hb.size)
      clear hb1
      go_wp2
      go_ret
      exact ⟨rfl, hb⟩
  · clear ho
    go_enter Try.func6, Try.ntmps6
    go_wp2_with fail
    refine (far_any _ _ _ _ _ _ _ _ hN hC).mono ?_
    rintro e W1 ⟨rfl, hb1⟩
    rw [hf]
    replace hb := hb.trans (hb1.mono hb.size)
    clear hW x0 c0 c1 c2 hb1 hN hC
    go_wp2_with fail
    refine (works_any _).mono ?_
    rintro e V3 ⟨rfl, hb1⟩
    replace hb := hb.trans (hb1.mono hb.size)
    clear hb1
    go_wp2
    go_ret
    exact ⟨rfl, hb⟩
theorem ccould_any (r : Int) (an ac : Option Addr) (cn cc : Nat) (N C : List Int) (a : Option Addr) (ca : Nat) (xs : List (Int × Int)) (w : World) (hN : Ints w an N) (hC : Ints w ac C) (lx : xs.length ≤ 9223372036854775807) (hX : xs.length ≤ 1000 → Prs w a xs) :
    Calls Try.prog 6 #[.agg #[.int .i64 r, .slice an N.length cn, .slice ac C.length cc], .slice a xs.length ca] w (WorksP w) := by
  cases ho : argCould N C xs.length
  · exact ccould_arg _ _ _ _ _ _ _ a ca xs w hN hC lx ho
  · simp only [argCould, midB, Bool.and_eq_true, Bool.not_eq_true', decide_eq_true_eq, Bool.and_eq_false_iff, decide_eq_false_iff_not] at ho
    rcases ho.2.2 with h | h
    · exact ccould_few _ _ _ _ _ _ _ a ca xs w hN hC (hX (by omega)) ho.1 ho.2.1 (by omega)
    · exact ccould_many _ _ _ _ _ _ _ a ca xs w hN hC (hX (by omega)) ho.1 ho.2.1 (by omega)
end Go.Proofs.Ytmkmnedojgigoaa
