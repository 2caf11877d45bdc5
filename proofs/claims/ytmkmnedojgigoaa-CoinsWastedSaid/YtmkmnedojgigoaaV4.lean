import Derived.Test.YtmkmnedojgigoaaV3
import Derived.Test.YtmkmnedojgigoaaR2
namespace Go.Proofs.Ytmkmnedojgigoaa
open Go.RowKit

def bagX (xs : List Int) : Bg := ⟨bgN xs 0, bgN xs 1, bgN xs 2, bgN xs 3⟩
/-- What Wasted answers for a purse. -/
def wasteV (R : Nat) (N C xs : List Int) : Nat :=
  (prt (bagX xs) 4).foldl (wst1 (bws C (bagX xs) C.length) (bst btm R N C (spB (bagX xs))) (fun q => bws C q C.length) (fun q => bst btm R N C (spB q))) 0

theorem wst_ge (A M : Nat) (f g : Bg → Nat) : ∀ (L : List Bg) (l : Nat), l ≤ L.foldl (wst1 A M f g) l
  | [], _ => Nat.le_refl _
  | q :: L, l => by
    rw [List.foldl_cons]
    have := wst_ge A M f g L (wst1 A M f g l q)
    have h : l ≤ wst1 A M f g l q := by unfold wst1; split <;> omega
    omega
theorem wst_has (A M : Nat) (f g : Bg → Nat) (q : Bg) (hq : g q = M) : ∀ (L : List Bg) (l : Nat), q ∈ L → A - f q ≤ L.foldl (wst1 A M f g) l
  | [], _, h => by simp at h
  | p :: L, l, h => by
    rw [List.foldl_cons]
    rcases List.mem_cons.1 h with rfl | h
    · have := wst_ge A M f g L (wst1 A M f g l q)
      have h2 : A - f q ≤ wst1 A M f g l q := by
        unfold wst1
        by_cases hl : l < A - f q
        · rw [if_pos ⟨hl, hq⟩]; exact Nat.le_refl _
        · split <;> omega
      omega
    · exact wst_has A M f g q hq L _ h
theorem okP_bag {R : Nat} {N C xs : List Int} (hv : Vw R N C) (ho : okP C xs = true) : bgN xs 0 + bgN xs 1 + bgN xs 2 + bgN xs 3 ≤ 12 := by
  have := (ps0_ok hv ho).2
  exact this
theorem bws_pws {R : Nat} {N C xs : List Int} (hv : Vw R N C) (ho : okP C xs = true) : bws C (bagX xs) C.length = pwS C xs xs.length := by
  obtain ⟨o1, _, _⟩ := okP_mem ho
  have := hv.c4
  rw [bws_all hv, pwS_all (by omega)]; rfl
theorem waste_facts {R : Nat} {N C xs ys : List Int} (hv : Vw R N C) (ho : okP C xs = true) (ho2 : okP C ys = true) (hs : ∀ k, bgN ys k ≤ bgN xs k) :
    wasteV R N C xs ≤ pwS C xs xs.length ∧ bst btm R N C (ps0 ys) ≤ bst btm R N C (ps0 xs) ∧ (pwS C xs xs.length - pwS C ys ys.length ≤ wasteV R N C xs ∨ bst btm R N C (ps0 ys) < bst btm R N C (ps0 xs)) := by
  have hm := bst_mono hv hv (fun p c => Nat.le_refl _) (mu (ps0 ys) + 1) (ps0 ys) (ps0 xs) (by omega) (ps0_ok hv ho2) (ps0_ok hv ho) ⟨hs 0, hs 1, hs 2, hs 3, rfl, Nat.le_refl _⟩
  refine ⟨?_, hm, ?_⟩
  · rw [← bws_pws hv ho]
    exact wst_le _ _ _ _ _ _ (Nat.zero_le _)
  · by_cases h : bst btm R N C (ps0 ys) = bst btm R N C (ps0 xs)
    · left
      have h1 := wst_has (bws C (bagX xs) C.length) (bst btm R N C (spB (bagX xs))) (fun q => bws C q C.length) (fun q => bst btm R N C (spB q)) (bagX ys) h (prt (bagX xs) 4) 0 ((mem_prt _ _).2 ⟨hs 0, hs 1, hs 2, hs 3⟩)
      rw [← bws_pws hv ho, ← bws_pws hv ho2]
      exact h1
    · right; omega

set_option maxRecDepth 100000 in
set_option maxHeartbeats 1000000 in
theorem Wasted_ok (R : Nat) (an ac : Option Addr) (cn cc : Nat) (N C : List Int) (a : Option Addr) (ca : Nat) (xs : List Int) (w : World) (hN : Ints w an N) (hC : Ints w ac C) (hX : Ints w a xs) (hv : Vw R N C) (ho : okP C xs = true) :
    Calls Try.prog 32 #[.agg #[.int .i64 (R : Int), .slice an N.length cn, .slice ac C.length cc], .slice a xs.length ca] w fun e w' => e = .returned (.tuple #[.int .i64 (wasteV R N C xs : Nat), .int .i64 0]) ∧ Below w.heap.size w w' := by
  obtain ⟨W, hW, hb, hs, x0⟩ := boxes1 w #[.int .i64 (R : Int), .slice an N.length cn, .slice ac C.length cc] 24
  clear hs
  replace hN := hN.below hb (Nat.le_refl _); replace hC := hC.below hb (Nat.le_refl _); replace hX := hX.below hb (Nat.le_refl _)
  have c0 := x0.cell 0 rfl; have c1 := x0.cell 1 rfl; have c2 := x0.cell 2 rfl
  have Hv := hid hv; clear hv
  go_enter Try.func32, Try.ntmps32
  go_wp2_with fail
  refine (searchOf_ok_75 _ _ _ _ _ _ _ _ _ _ _ hN hC hX Hv.out ho).mono ?_
  rintro e W1 ⟨ap, cp, P, mb, b0, b1, b2, b3, rfl, hb1, hmb, hk, hoff, hown, B0, B1, B2, B3, hsum⟩
  have hs := hb.size
  replace hb := hb.trans (hb1.mono hb.size)
  have HB := hid (show bagX xs = ⟨b0, b1, b2, b3⟩ by rw [bagX, B0, B1, B2, B3])
  have hz := hb.size
  clear c0 c1 c2 hW x0 hb1 hN hC hX B0 B1 B2 B3
  go_wp2_with fail
  generalize hXX : World.alloc _ _ = W2
  have bb : Below W1.heap.size W1 W2 := by rw [← hXX]; (repeat (first | with_reducible assumption | with_reducible refine Below.alloc ?_ (by simp; try omega) _ | with_reducible refine Below.setCell ?_ (by simp; try omega) _ | with_reducible refine below_drewN ?_ _ | with_reducible exact Below.refl _ _))
  have bb0 := bb
  clear hXX
  replace hk := hk.below bb (Nat.le_refl _); replace hb := hb.trans (bb.mono hb.size); clear bb
  replace hown := hown.gr bb0
  clear bb0
  refine (wasted_any _ _ _ _ _ _ _ _ _ _ mb ⟨b0, b1, b2, b3⟩ _ _ 0 hk hoff hown (MemoB_empty _ _ _ _) (by omega) hsum).mono ?_
  rintro e W3 ⟨rfl, hg1⟩
  rw [← HB.out]
  replace hb := hb.grown hg1 hb.size (fun k hk => by cases hk; omega)
  clear hk hown hg1
  obtain ⟨vv, hvv⟩ : ∃ x, x = wasteV R N C xs := ⟨_, rfl⟩
  have Hvv := hid hvv
  unfold wasteV at hvv
  rw [← hvv]
  clear hvv
  go_wp2
  refine bodyPost_ret (v := .tuple #[.int .i64 (vv : Nat), .int .i64 0]) ?_ rfl ⟨by rw [Hvv.out], hb⟩
  simp [results, Try.results32, go_sem]
end Go.Proofs.Ytmkmnedojgigoaa
