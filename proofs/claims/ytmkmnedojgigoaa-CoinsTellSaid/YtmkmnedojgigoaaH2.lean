import Derived.Test.YtmkmnedojgigoaaG3
import Derived.Test.YtmkmnedojgigoaaE1
import Derived.Test.YtmkmnedojgigoaaD4
namespace Go.Proofs.Ytmkmnedojgigoaa
open Go.RowKit

theorem Ints.of_three {w : World} {b : Nat} {x y z : Int} (h : Bx w b #[.int .i64 x, .int .i64 y, .int .i64 z] 3) (hx : -9223372036854775808 ≤ x ∧ x ≤ 9223372036854775807 ∧ -9223372036854775808 ≤ y ∧ y ≤ 9223372036854775807 ∧ -9223372036854775808 ≤ z ∧ z ≤ 9223372036854775807) : Ints w (some ⟨b, 0, none⟩) [x, y, z] :=
  Ints.of_bx (xs := [x, y, z]) h (by simp) (fun u hu => by simp at hu; omega)

def ExPost (w : World) (e : Ending) (w' : World) : Prop :=
  Below w.heap.size w w' ∧ ∃ (b : Nat), e = .returned (.agg #[.int .i64 50, .slice (some ⟨b, 0, none⟩) 3 3, .slice (some ⟨b + 1, 0, none⟩) 3 3]) ∧ Ints w' (some ⟨b, 0, none⟩) [10, 20, 25] ∧ Ints w' (some ⟨b + 1, 0, none⟩) [5, 10, 25]

set_option maxRecDepth 100000 in
set_option maxHeartbeats 1000000 in
theorem example_any (w : World) : Calls Try.prog 56 #[] w (ExPost w) := by
  go_enter Try.func56, Try.ntmps56
  go_wp2
  obtain ⟨W, hW, hb, hs, x0, x1, x2⟩ := boxes3 w #[.int .i64 50, .slice (some ⟨w.heap.size + 1, 0, none⟩) 3 3, .slice (some ⟨w.heap.size + 1 + 1, 0, none⟩) 3 3] 24 #[.int .i64 10, .int .i64 20, .int .i64 25] 3 #[.int .i64 5, .int .i64 10, .int .i64 25] 3
  rw [hW]
  have c0 := x0.cell 0 rfl; have c1 := x0.cell 1 rfl; have c2 := x0.cell 2 rfl
  refine bodyPost_ret (v := .agg #[.int .i64 50, .slice (some ⟨w.heap.size + 1, 0, none⟩) 3 3, .slice (some ⟨w.heap.size + 1 + 1, 0, none⟩) 3 3]) ?_ rfl ⟨hb, w.heap.size + 1, rfl, Ints.of_three x1 (by omega), Ints.of_three x2 (by omega)⟩
  simp [results, Try.results56, go_sem, c0, c1, c2]

theorem vwE : Vw 50 [10, 20, 25] [5, 10, 25] := ⟨by decide, by decide, by decide, by decide, by decide, by decide⟩
theorem most_E : bst btm 50 [10, 20, 25] [5, 10, 25] ⟨0, 0, 2, 0, 0, 0⟩ = 6 := by kernel_rfl
theorem least_E : bst btf 50 [10, 20, 25] [5, 10, 25] ⟨0, 0, 2, 0, 0, 0⟩ = 3 := by kernel_rfl
theorem run_E : runL 50 [10, 20, 25] [5, 10, 25] ⟨0, 0⟩ 0 [0, -1, 1, -1, 1] = (⟨10, 1⟩, 1) := by kernel_rfl
theorem vwU : Vw 5 [2, 3] [1, 2] := ⟨by decide, by decide, by decide, by decide, by decide, by decide⟩
theorem now_E : srt (bhd 5 (totS [1, 2] [(0, 0), (0, 1)]) (bef 5 [2, 3] [1, 2] [(0, 0), (0, 1)] 5)) = [2] := by
  have : bhd 5 (totS [1, 2] [(0, 0), (0, 1)]) (bef 5 [2, 3] [1, 2] [(0, 0), (0, 1)] 5) = [2] := by kernel_rfl
  rw [this]; simp [srt]
theorem cheap_E : chp 50 [10, 20, 25] [5, 10, 25] 4 = 35 := by kernel_rfl
end Go.Proofs.Ytmkmnedojgigoaa
namespace Go.Proofs.Ytmkmnedojgigoaa
open Go.RowKit

theorem Ints.of_lits {w : World} {b : Nat} {xs : List Int} {vs : Array Value} (h : Bx w b vs 3) (hv : vs = vrow xs) (hx : xs.all (fun x => inR (-1000) x 1000) = true) (hl : xs.length ≤ 1000) : Ints w (some ⟨b, 0, none⟩) xs :=
  Ints.of_bx (by rw [← hv]; exact h) (by omega) (fun u hu => by have := inR_iff.1 (List.all_eq_true.1 hx u hu); omega)
theorem Prs.of_lits {w : World} {b : Nat} {T : TypeId} (x0 y0 x1 y1 : Int) (h : Bx w b #[.int .i64 x0, .int .i64 y0, .int .i64 x1, .int .i64 y1] T) (hx : [x0, y0, x1, y1].all (fun x => inR (-1000) x 1000) = true) : Prs w (some ⟨b, 0, none⟩) [(x0, y0), (x1, y1)] := by
  simp only [List.all_cons, List.all_nil, Bool.and_true, Bool.and_eq_true, inR_iff] at hx
  refine ⟨by simp, fun x hx' => by simp at hx'; rcases hx' with rfl | rfl <;> (dsimp only; omega), fun i hi => ⟨b, 0, rfl, h.lt, ?_⟩⟩
  have : i = 0 ∨ i = 1 := by simp at hi; omega
  rcases this with rfl | rfl
  · exact ⟨h.cell 0 rfl, h.cell 1 rfl⟩
  · exact ⟨h.cell 2 rfl, h.cell 3 rfl⟩

theorem run_Ex (an ac a : Option Addr) (cn cc ca : Nat) (w : World) (hN : Ints w an [10, 20, 25]) (hC : Ints w ac [5, 10, 25]) (hX : Ints w a [0, -1, 1, -1, 1]) :
    Calls Try.prog 21 #[.agg #[.int .i64 50, .slice an 3 cn, .slice ac 3 cc], .agg #[.int .i64 0, .int .i64 0], .slice a 5 ca] w fun e w' => e = .returned (.tuple #[.agg #[.int .i64 10, .int .i64 1], .int .i64 1, .int .i64 0]) ∧ Below w.heap.size w w' := by
  have := run_good 50 an ac cn cc [10, 20, 25] [5, 10, 25] 0 0 a ca [0, -1, 1, -1, 1] w hN hC hX vwE (by decide)
  rw [run_E] at this
  exact this
theorem most_Ex (an ac a : Option Addr) (cn cc ca : Nat) (w : World) (hN : Ints w an [10, 20, 25]) (hC : Ints w ac [5, 10, 25]) (hX : Ints w a [0, 0, 2]) :
    Calls Try.prog 28 #[.agg #[.int .i64 50, .slice an 3 cn, .slice ac 3 cc], .slice a 3 ca] w fun e w' => e = .returned (.tuple #[.int .i64 6, .int .i64 0]) ∧ Below w.heap.size w w' := by
  have := Most_28_ok 50 an ac cn cc [10, 20, 25] [5, 10, 25] a ca [0, 0, 2] w hN hC hX vwE (by decide)
  rw [show (⟨bgN [0, 0, 2] 0, bgN [0, 0, 2] 1, bgN [0, 0, 2] 2, bgN [0, 0, 2] 3, 0, 0⟩ : Sp) = ⟨0, 0, 2, 0, 0, 0⟩ from rfl, most_E] at this
  exact this
theorem least_Ex (an ac a : Option Addr) (cn cc ca : Nat) (w : World) (hN : Ints w an [10, 20, 25]) (hC : Ints w ac [5, 10, 25]) (hX : Ints w a [0, 0, 2]) :
    Calls Try.prog 30 #[.agg #[.int .i64 50, .slice an 3 cn, .slice ac 3 cc], .slice a 3 ca] w fun e w' => e = .returned (.tuple #[.int .i64 3, .int .i64 0]) ∧ Below w.heap.size w w' := by
  have := Most_30_ok 50 an ac cn cc [10, 20, 25] [5, 10, 25] a ca [0, 0, 2] w hN hC hX vwE (by decide)
  rw [show (⟨bgN [0, 0, 2] 0, bgN [0, 0, 2] 1, bgN [0, 0, 2] 2, bgN [0, 0, 2] 3, 0, 0⟩ : Sp) = ⟨0, 0, 2, 0, 0, 0⟩ from rfl, least_E] at this
  exact this
theorem cheap_Ex (an ac : Option Addr) (cn cc : Nat) (w : World) (hN : Ints w an [10, 20, 25]) (hC : Ints w ac [5, 10, 25]) :
    Calls Try.prog 37 #[.agg #[.int .i64 50, .slice an 3 cn, .slice ac 3 cc], .int .i64 4] w fun e w' => e = .returned (.tuple #[.int .i64 35, .int .i64 0]) ∧ Below w.heap.size w w' := by
  have := Cheapest_ok 50 an ac cn cc [10, 20, 25] [5, 10, 25] 4 w hN hC vwE (by decide) (by decide) (by decide) (by decide)
  rw [cheap_E] at this
  exact this
theorem now_Ex (an ac a : Option Addr) (cn cc ca : Nat) (w : World) (hN : Ints w an [2, 3]) (hC : Ints w ac [1, 2]) (hX : Prs w a [(0, 0), (0, 1)]) :
    Calls Try.prog 41 #[.agg #[.int .i64 5, .slice an 2 cn, .slice ac 2 cc], .slice a 2 ca] w (RowPost2 [2] w) := by
  have := Now_ok 5 an ac cn cc [2, 3] [1, 2] a ca [(0, 0), (0, 1)] w hN hC hX vwU (by decide) (by decide)
  rw [now_E] at this
  exact this

set_option maxRecDepth 100000 in
set_option maxHeartbeats 4000000 in
theorem works_any (w : World) : Calls Try.prog 17 #[] w fun e w' => e = .returned (.bool true) ∧ Below w.heap.size w w' := by
  go_enter Try.func17, Try.ntmps17
  go_wp2_with fail
  refine (example_any _).mono ?_
  rintro e W1 ⟨hb, b, rfl, hN, hC⟩
  obtain ⟨W2, hW, hb2, hs, x0, y⟩ := boxes2 W1 #[.int .i64 50, .slice (some ⟨b, 0, none⟩) 3 3, .slice (some ⟨b + 1, 0, none⟩) 3 3] 24 #[.int .i64 0, .int .i64 (-1), .int .i64 1, .int .i64 (-1), .int .i64 1] 3
  replace hN := hN.below hb2 (Nat.le_refl _); replace hC := hC.below hb2 (Nat.le_refl _); replace hb := hb.trans (hb2.mono hb.size); clear hb2
  have c0 := x0.cell 0 rfl; have c1 := x0.cell 1 rfl; have c2 := x0.cell 2 rfl
  clear hs
  go_wp2_with fail
  refine (run_Ex _ _ _ _ _ _ _ hN hC (Ints.of_lits y rfl (by decide) (by decide))).mono ?_
  rintro e W3 ⟨rfl, hb1⟩
  clear y hW
  replace hN := hN.below hb1 (Nat.le_refl _); replace hC := hC.below hb1 (Nat.le_refl _); replace x0 := x0.below hb1; replace hb := hb.trans (hb1.mono hb.size); clear hb1
  obtain ⟨W4, hW, hb2, hs, x1⟩ := boxes1 W3 #[.int .i64 10, .int .i64 1] 26
  clear hs
  replace hN := hN.below hb2 (Nat.le_refl _); replace hC := hC.below hb2 (Nat.le_refl _); (try clear c0 c1 c2); replace x0 := x0.below hb2; have c0 := x0.cell 0 rfl; have c1 := x0.cell 1 rfl; have c2 := x0.cell 2 rfl; replace hb := hb.trans (hb2.mono hb.size); clear hb2
  obtain ⟨W5, hW', hb2, hs, y⟩ := boxes1 W4 #[.int .i64 0, .int .i64 0, .int .i64 2] 3
  clear hs
  go_wp2_with fail
  clear hW hW'
  replace hN := hN.below hb2 (Nat.le_refl _); replace hC := hC.below hb2 (Nat.le_refl _); replace x0 := x0.below hb2; replace x1 := x1.below hb2; replace hb := hb.trans (hb2.mono hb.size); clear hb2
  refine (most_Ex _ _ _ _ _ _ _ hN hC (Ints.of_lits y rfl (by decide) (by decide))).mono ?_
  rintro e W6 ⟨rfl, hb1⟩
  clear y
  replace hN := hN.below hb1 (Nat.le_refl _); replace hC := hC.below hb1 (Nat.le_refl _); (try clear c0 c1 c2); replace x0 := x0.below hb1; have c0 := x0.cell 0 rfl; have c1 := x0.cell 1 rfl; have c2 := x0.cell 2 rfl; replace x1 := x1.below hb1; replace hb := hb.trans (hb1.mono hb.size); clear hb1
  obtain ⟨W7, hW, hb2, hs, y⟩ := boxes1 W6 #[.int .i64 0, .int .i64 0, .int .i64 2] 3
  clear hs
  go_wp2_with fail
  clear hW
  replace hN := hN.below hb2 (Nat.le_refl _); replace hC := hC.below hb2 (Nat.le_refl _); replace x0 := x0.below hb2; replace x1 := x1.below hb2; replace hb := hb.trans (hb2.mono hb.size); clear hb2
  refine (least_Ex _ _ _ _ _ _ _ hN hC (Ints.of_lits y rfl (by decide) (by decide))).mono ?_
  rintro e W8 ⟨rfl, hb1⟩
  clear y
  replace hN := hN.below hb1 (Nat.le_refl _); replace hC := hC.below hb1 (Nat.le_refl _); (try clear c0 c1 c2); replace x0 := x0.below hb1; have c0 := x0.cell 0 rfl; have c1 := x0.cell 1 rfl; have c2 := x0.cell 2 rfl; replace x1 := x1.below hb1; replace hb := hb.trans (hb1.mono hb.size); clear hb1
  go_wp2_with fail
  refine (cheap_Ex _ _ _ _ _ hN hC).mono ?_
  rintro e W9 ⟨rfl, hb1⟩
  replace x1 := x1.below hb1; replace hb := hb.trans (hb1.mono hb.size); clear hb1
  clear hN hC c0 c1 c2 x0
  obtain ⟨W10, hW, hb2, hs, y0, y1, y2⟩ := boxes3 W9 #[.int .i64 2, .int .i64 3] 3 #[.int .i64 1, .int .i64 2] 3 #[.int .i64 0, .int .i64 0, .int .i64 0, .int .i64 1] 50
  clear hs
  go_wp2_with fail
  clear hW
  replace x1 := x1.below hb2; replace hb := hb.trans (hb2.mono hb.size); clear hb2
  refine (now_Ex _ _ _ _ _ _ _ (Ints.of_lits y0 rfl (by decide) (by decide)) (Ints.of_lits y1 rfl (by decide) (by decide)) (Prs.of_lits 0 0 0 1 y2 (by decide))).mono ?_
  rintro e W11 ⟨hb1, a, ca, rfl, hi, -⟩
  (try clear c0 c1); replace x1 := x1.below hb1; have c0 := x1.cell 0 rfl; have c1 := x1.cell 1 rfl; replace hb := hb.trans (hb1.mono hb.size); clear hb1
  clear y0 y1 y2
  obtain ⟨W12, hW, hb2, hs, y⟩ := boxes1 W11 #[.int .i64 2] 3
  clear hs
  go_wp2_with fail
  clear hW
  replace hi := hi.below hb2 (Nat.le_refl _); replace hb := hb.trans (hb2.mono hb.size); clear hb2
  refine (sameInts_any _ _ _ _ [2] [2] _ hi (Ints.of_lits y rfl (by decide) (by decide))).mono ?_
  rintro e w' ⟨rfl, n, rfl⟩
  go_wp2
  go_ret
  exact ⟨rfl, below_drewN hb n⟩
end Go.Proofs.Ytmkmnedojgigoaa
