import Derived.Test.YtmkmnedojgigoaaH2
namespace Go.Proofs.Ytmkmnedojgigoaa
open Go.RowKit

def isWhl (r : Int) (N C : List Int) : Bool := !farB N C && (chk r N C == 0)

set_option maxRecDepth 100000 in
set_option maxHeartbeats 1000000 in
theorem isWheel_any (r : Int) (an ac : Option Addr) (cn cc : Nat) (N C : List Int) (w : World) (hN : Ints w an N) (hC : Ints w ac C) :
    Calls Try.prog 47 #[.agg #[.int .i64 r, .slice an N.length cn, .slice ac C.length cc]] w fun e w' => e = .returned (.bool (isWhl r N C)) ∧ Below w.heap.size w w' := by
  obtain ⟨W, hW, hb, hs, x0⟩ := boxes1 w #[.int .i64 r, .slice an N.length cn, .slice ac C.length cc] 24
  clear hs
  replace hN := hN.below hb (Nat.le_refl _); replace hC := hC.below hb (Nat.le_refl _)
  have c0 := x0.cell 0 rfl; have c1 := x0.cell 1 rfl; have c2 := x0.cell 2 rfl
  cases hf : farB N C
  · go_enter Try.func47, Try.ntmps47
    go_wp2_with fail
    refine (far_any _ _ _ _ _ _ _ _ hN hC).mono ?_
    rintro e W1 ⟨rfl, hb1⟩
    rw [hf]
    clear hW
    replace hN := hN.below hb1 (Nat.le_refl _); replace hC := hC.below hb1 (Nat.le_refl _); (try clear c0 c1 c2); replace x0 := x0.below hb1; have c0 := x0.cell 0 rfl; have c1 := x0.cell 1 rfl; have c2 := x0.cell 2 rfl; replace hb := hb.trans (hb1.mono hb.size); clear hb1
    go_wp2_with fail
    refine (refCheck_any _ _ _ _ _ _ _ _ hN hC).mono ?_
    rintro e W2 ⟨rfl, hb1⟩
    replace hb := hb.trans (hb1.mono hb.size)
    clear hN hC x0 c0 c1 c2 hb1
    go_wp2
    go_ret
    exact ⟨ret_bool (by simp [isWhl, hf]), hb⟩
  · go_enter Try.func47, Try.ntmps47
    go_wp2_with fail
    refine (far_any _ _ _ _ _ _ _ _ hN hC).mono ?_
    rintro e W1 ⟨rfl, hb1⟩
    rw [hf]
    replace hb := hb.trans (hb1.mono hb.size)
    clear hN hC x0 c0 c1 c2 hb1 hW
    go_wp2
    go_ret
    exact ⟨ret_bool (by simp [isWhl, hf]), hb⟩

set_option maxRecDepth 100000 in
set_option maxHeartbeats 1000000 in
theorem rIsPlace_any (R : Nat) (an ac : Option Addr) (cn cc : Nat) (N C : List Int) (p : Int) (w : World) (hv : Vw R N C) :
    Calls Try.prog 49 #[.agg #[.int .i64 (R : Int), .slice an N.length cn, .slice ac C.length cc], .int .i64 p] w fun e w' => e = .returned (.bool (inR 0 p (R - 1))) ∧ Below w.heap.size w w' := by
  have r1 := hv.r1
  have r2 := hv.r2
  obtain ⟨W, hW, hb, hs, x0⟩ := boxes1 w #[.int .i64 (R : Int), .slice an N.length cn, .slice ac C.length cc] 24
  clear hs
  have c0 := x0.cell 0 rfl; have c1 := x0.cell 1 rfl; have c2 := x0.cell 2 rfl
  go_enter Try.func49, Try.ntmps49
  go_wp2_with (first | (go_at_call 58; refine (within_any _ _ _ _).mono ?_; rintro e w' ⟨rfl, rfl⟩))
  go_ret
  exact ⟨rfl, hb⟩

theorem isWhl_vw {r : Int} {N C : List Int} (h : isWhl r N C = true) : ∃ R : Nat, r = R ∧ Vw R N C := by
  apply Vw.of_valid
  simp only [isWhl, chk, Bool.and_eq_true] at h
  have := h.2
  cases hv : validB r N C
  · rw [hv] at this; simp at this
  · rfl
end Go.Proofs.Ytmkmnedojgigoaa
