import Derived.Test.YteianfbdhakhpaaM4
import Derived.Test.YteianfbdhakhpaaTJ
/-! What is written is read. -/
namespace Go.Proofs.Yteianfbdhakhpaa
set_option linter.unusedSimpArgs false
set_option linter.unusedVariables false
open Go Go.RowKit

theorem prt_far {d d1 : Int} (h1 : d ≤ d1) (rest : List Int) : ∀ (dd : List Int) (x : Int) (cur : List Int), (∀ e ∈ dd, e < d) →
    prt d cur (x :: accL x (dd ++ d1 :: rest)) = (cur ++ x :: accL x dd) :: prt d [] ((sumL x dd + d1) :: accL (sumL x dd + d1) rest)
  | [], x, cur, _ => by
    show prt d cur (x :: (x + d1) :: accL (x + d1) rest) = (cur ++ [x]) :: prt d [] ((x + d1) :: accL (x + d1) rest)
    rw [prt, if_pos (by omega)]
  | e :: dd, x, cur, h => by
    have he := h e (by simp)
    have ih := prt_far h1 rest dd (x + e) (cur ++ [x]) (fun y hy => h y (by simp [hy]))
    show prt d cur (x :: (x + e) :: accL (x + e) (dd ++ d1 :: rest)) = (cur ++ x :: (x + e) :: accL (x + e) dd) :: prt d [] ((sumL (x + e) dd + d1) :: accL (sumL (x + e) dd + d1) rest)
    rw [prt, if_neg (by omega), ih]
    simp
theorem prt_near {d : Int} : ∀ (dd : List Int) (x : Int) (cur : List Int), (∀ e ∈ dd, e < d) → prt d cur (x :: accL x dd) = [cur ++ x :: accL x dd]
  | [], x, cur, _ => by simp [accL, prt]
  | e :: dd, x, cur, h => by
    have he := h e (by simp)
    have ih := prt_near dd (x + e) (cur ++ [x]) (fun y hy => h y (by simp [hy]))
    show prt d cur (x :: (x + e) :: accL (x + e) dd) = [cur ++ x :: (x + e) :: accL (x + e) dd]
    rw [prt, if_neg (by omega), ih]
    simp
/-- The distances within a selection. -/
def rst (X : Pu) (s : Int) : List Int := List.replicate (s / X.n).toNat X.pi ++ X.ga :: List.replicate (s % X.n).toNat X.pi
theorem dsL_rst (X : Pu) (s : Int) : dsL X s = X.pa :: rst X s := by simp [dsL, dsR, rst]
theorem rst_lt {X : Pu} (ok : POk X) (s : Int) : ∀ e ∈ rst X s, e < X.pa := fun e he => by
  have hp := ok.pi; have hs := ok.sl; have hg := ok.ga; have ha := ok.pa
  simp only [rst, List.mem_append, List.mem_replicate, List.mem_cons] at he
  rcases he with ⟨_, rfl⟩ | rfl | ⟨_, rfl⟩ <;> omega
theorem wrtL_cons (X : Pu) (s : Int) (L : List Int) (t : Int) : wrtL X (s :: L) t = t :: accL t (rst X s ++ alD X L) := by
  show accL (t - X.pa) (dsL X s ++ alD X L) = _
  rw [dsL_rst]
  show (t - X.pa + X.pa) :: accL (t - X.pa + X.pa) (rst X s ++ alD X L) = _
  rw [show t - X.pa + X.pa = t by omega]
theorem prt_wrt {X : Pu} (ok : POk X) (s : Int) (L : List Int) (t : Int) : prtL X.pa (wrtL X (s :: L) t) = (t :: accL t (rst X s)) :: prtL X.pa (wrtL X L (sumL t (rst X s) + X.pa)) := by
  unfold prtL
  rw [wrtL_cons]
  cases L with
  | nil =>
    rw [show alD X [] = [] from rfl, List.append_nil, prt_near _ _ _ (rst_lt ok s)]
    show _ = _ :: prt X.pa [] (accL _ [])
    simp [accL, prt]
  | cons s2 L2 =>
    have e : alD X (s2 :: L2) = X.pa :: (rst X s2 ++ alD X L2) := by
      show dsL X s2 ++ alD X L2 = _
      rw [dsL_rst]; rfl
    rw [e, prt_far (Int.le_refl _) _ _ _ _ (rst_lt ok s), wrtL_cons]
    rfl
theorem adjB_reg {X : Pu} (h : 0 ≤ X.sl) : ∀ (a : Nat) (x : Int), adjB X (x :: accL x (List.replicate a X.pi)) = true
  | 0, x => rfl
  | a + 1, x => by
    rw [List.replicate_succ]
    show (fromI (X.pi - X.sl) (x + X.pi - x) (X.pi + X.sl) && adjB X ((x + X.pi) :: accL (x + X.pi) (List.replicate a X.pi))) = true
    rw [adjB_reg h a, Bool.and_true, fromI_iff]
    omega
theorem sel_wrt {X : Pu} (ok : POk X) {s : Int} (hs : 0 ≤ s ∧ s < X.l * X.n) (t : Int) : selO X (t :: accL t (rst X s)) = some s := by
  have hp := ok.pi; have hsl := ok.sl; have hg := ok.ga; have hn := ok.n
  have h1 : s / X.n < X.l := Int.ediv_lt_of_lt_mul (by omega) hs.2
  have h2 := Int.emod_lt_of_pos s (show 0 < X.n by omega)
  have h3 : 0 ≤ s / X.n := Int.ediv_nonneg hs.1 (by omega)
  have h4 : 0 ≤ s % X.n := Int.emod_nonneg s (by omega)
  have hd := Int.mul_ediv_add_emod s X.n
  have hrl : ∀ (a : Nat), ∀ e ∈ List.replicate a X.pi, e < X.ga := fun a e he => by rw [(List.mem_replicate.1 he).2]; omega
  have e : prtL X.ga (t :: accL t (rst X s)) = [t :: accL t (List.replicate (s / X.n).toNat X.pi), (sumL t (List.replicate (s / X.n).toNat X.pi) + X.ga) :: accL (sumL t (List.replicate (s / X.n).toNat X.pi) + X.ga) (List.replicate (s % X.n).toNat X.pi)] := by
    unfold prtL rst
    rw [prt_far (Int.le_refl _) _ _ _ _ (hrl _), prt_near _ _ _ (hrl _)]
    rfl
  unfold selO
  rw [e]
  simp only [grB, adjB_reg hsl.1, Bool.true_and, List.length_cons, accL_len, List.length_replicate]
  rw [if_pos (by simp only [Bool.and_eq_true, decide_eq_true_eq]; omega)]
  congr 1
  rw [show (((s / X.n).toNat + 1 : Nat) : Int) - 1 = s / X.n by omega, show (((s % X.n).toNat + 1 : Nat) : Int) - 1 = s % X.n by omega, Int.mul_comm]
  exact hd
theorem lofA_wrt {X : Pu} (ok : POk X) : ∀ (L : List Int) (t : Int) (acc : List Int), (∀ s ∈ L, 0 ≤ s ∧ s < X.l * X.n) → lofA X (prtL X.pa (wrtL X L t)) acc = some (acc ++ L)
  | [], t, acc, _ => by
    show lofA X (prt X.pa [] (accL _ [])) acc = _
    simp [accL, prt, lofA]
  | s :: L, t, acc, h => by
    rw [prt_wrt ok, lofA, sel_wrt ok (h s (by simp))]
    have := lofA_wrt ok L (sumL t (rst X s) + X.pa) (acc ++ [s]) (fun x hx => h x (by simp [hx]))
    rw [show acc ++ s :: L = acc ++ [s] ++ L by simp]
    exact this
theorem lof_wrt {X : Pu} (ok : POk X) {L : List Int} (t : Int) (h : ∀ s ∈ L, 0 ≤ s ∧ s < X.l * X.n) : lof X (wrtL X L t) = some L := by
  unfold lof
  rw [lofA_wrt ok L t [] h, List.nil_append]
end Go.Proofs.Yteianfbdhakhpaa
