import Derived.Test.YtmkmnedojgigoaaR2
import Derived.Test.YtmkmnedojgigoaaM1
import Derived.Test.YtmkmnedojgigoaaP12
namespace Go.Proofs.Ytmkmnedojgigoaa
open Go.RowKit

def OwnPost (xs : List Int) (w : World) (e : Ending) (w' : World) : Prop :=
  Below w.heap.size w w' ∧ ∃ (a : Option Addr) (ca : Nat), e = .returned (.slice a xs.length ca) ∧ w'.ownsRow w.heap.size 3 1 (.slice a xs.length ca) xs.length (xs.map (Value.int .i64))

set_option maxRecDepth 100000 in
set_option maxHeartbeats 1000000 in
theorem joinedO_any (A : Option Addr) (c : Nat) (xs : List Int) (w : World) (hX : Ints w A xs) (hl : xs.length ≤ 1000) :
    Calls Try.prog 48 #[.slice A xs.length c, .slice none 0 0] w (OwnPost xs w) := by
  obtain ⟨j0, hj, jz0, jz1, jz2⟩ := info_parts info3
  have hown := own_lit0 w 3 1
  have hb := below_one (w := w) (.cells #[] 3)
  have hX' := (hX.below hb (Nat.le_refl _)).cls
  go_enter Try.func48, Try.ntmps48
  go_wp2_with (first
    | (at_builtin; refine wpList_app rfl (.tmp 5) (.tmp 6) 22 rfl w.heap.size 3 j0 (.int .i64 0) 1 8 under22 hj jz0 jz1 jz2 rfl (by decide) _ 0 [] rfl hown A xs.length c _ rfl (by simp) hX' (ints_one xs) (by unfold maxLen; omega) (by omega) (by simp) ?_
       intro v1 w1 hown1 hg1
       have hge := own_ge hown
       have hb' : Below w.heap.size w w1 := hb.grown hg1 hb.size hge
       have hY1 := (ints_nil w1).cls
       clear hown hX')
    | (at_builtin; refine wpList_app rfl (.tmp 7) (.tmp 8) 22 rfl w.heap.size 3 j0 (.int .i64 0) 1 8 under22 hj jz0 jz1 jz2 rfl (by decide) v1 _ _ rfl hown1 none 0 0 _ rfl (by simp) hY1 (ints_one []) (by unfold maxLen; omega) (by omega) hb'.size ?_
       intro v2 w2 hown2 hg2
       have hge1 := own_ge hown1
       have hb2 : Below w.heap.size w w2 := hb'.grown hg2 hb'.size hge1))
  have hown3 : w2.ownsRow w.heap.size 3 1 v2 xs.length (xs.map (Value.int .i64)) := by simpa using hown2
  obtain ⟨a, ca, rfl⟩ := own_slice hown3
  go_ret
  exact ⟨hb2, a, ca, rfl, hown3⟩

theorem Bx.put3_1 {W : World} {b : Nat} {T : TypeId} {a0 a1 a2 : Value} (h : Bx W b #[a0, a1, a2] T) (v : Value) : Bx (W.setCell ⟨b, 1, none⟩ v) b #[a0, v, a2] T := by
  simpa using h.set 1 v

theorem bgN_set {xs : List Int} {k : Nat} {x : Int} (hx : xs[k]? = some x) (i : Nat) : bgN xs i ≤ bgN (xs.set k (x + 1)) i := by
  unfold bgN
  simp only [List.getD, List.getElem?_set]
  by_cases e : k = i
  · subst e
    have hk : k < xs.length := (List.getElem?_eq_some_iff.1 hx).1
    rw [if_pos rfl, if_pos hk, hx]
    simp
    omega
  · rw [if_neg e]; exact Nat.le_refl _
theorem more_coin {R : Nat} {N C xs : List Int} (hv : Vw R N C) (ho : okP C xs = true) {k : Nat} {x : Int} (hx : xs[k]? = some x) (ho' : okP C (xs.set k (x + 1)) = true) :
    bst btm R N C (ps0 xs) ≤ bst btm R N C (ps0 (xs.set k (x + 1))) :=
  bst_mono hv hv (fun _ _ => Nat.le_refl _) (mu (ps0 xs) + 1) _ _ (by omega) (ps0_ok hv ho) (ps0_ok hv ho') ⟨bgN_set hx 0, bgN_set hx 1, bgN_set hx 2, bgN_set hx 3, rfl, Nat.le_refl _⟩
theorem more_notch {R : Nat} {N C xs : List Int} (hv : Vw R N C) (ho : okP C xs = true) {x : Int} (hx : inB N x = false) (h1 : 1 ≤ x) (h2 : x ≤ R) (hl : N.length < 12) :
    Vw R (mkN N x R) C ∧ bst btm R N C (ps0 xs) ≤ bst btm R (mkN N x R) C (ps0 xs) := by
  have hv' := mkN_vw hv hx h1 h2 hl
  have hs : ∀ k : Int, inB N k = true → inB (mkN N x R) k = true := fun k hk => by
    rw [inB_iff] at *
    have := asc_mem N 0 R hv.ascN k hk
    exact (mkN_iff N x k R).2 ⟨by omega, .inr hk⟩
  exact ⟨hv', bst_mono hv hv' (gv_more hv hv' hs) (mu (ps0 xs) + 1) _ _ (by omega) (ps0_ok hv ho) (ps0_ok hv' ho) ⟨Nat.le_refl _, Nat.le_refl _, Nat.le_refl _, Nat.le_refl _, rfl, Nat.le_refl _⟩⟩

def chE (N C : List Int) : Int := if N = [] ∨ C = [] then 3 else 0
def chV (R : Nat) (N C : List Int) (n : Nat) : Int := if N = [] ∨ C = [] then 0 else chp R N C n
theorem cheap_val (R : Nat) (an ac : Option Addr) (cn cc : Nat) (N C : List Int) (n : Nat) (w : World) (hN : Ints w an N) (hC : Ints w ac C) (hv : Vw R N C) (h1 : 1 ≤ n) (h2 : n ≤ 20) :
    Calls Try.prog 37 #[.agg #[.int .i64 (R : Int), .slice an N.length cn, .slice ac C.length cc], .int .i64 n] w fun e w' => e = .returned (.tuple #[.int .i64 (chV R N C n), .int .i64 (chE N C)]) ∧ Below w.heap.size w w' := by
  unfold chV chE
  by_cases hz : N = [] ∨ C = []
  · rw [if_pos hz, if_pos hz]
    exact Cheapest_none R an ac cn cc N C n w hN hC hv h1 h2 hz
  · rw [if_neg hz, if_neg hz]
    exact Cheapest_ok R an ac cn cc N C n w hN hC hv h1 h2 (fun h => hz (.inl h)) (fun h => hz (.inr h))
theorem more_cheap {R : Nat} {N C : List Int} (hv : Vw R N C) {x : Int} (hx : inB N x = false) (h1 : 1 ≤ x) (h2 : x ≤ R) (hl : N.length < 12) (n : Nat) :
    (chE N C = 3 ∧ chE (mkN N x R) C = 3) ∨ (chE N C = 3 ∧ chE (mkN N x R) C = 0) ∨ (chE N C = 0 ∧ chE (mkN N x R) C = 0 ∧ chV R (mkN N x R) C n ≤ chV R N C n) := by
  have hv' := mkN_vw hv hx h1 h2 hl
  have hn' : mkN N x R ≠ [] := fun h => by
    have : x ∈ mkN N x R := (mkN_iff N x x R).2 ⟨⟨h1, h2⟩, .inl rfl⟩
    rw [h] at this; simp at this
  have hs : ∀ k : Int, inB N k = true → inB (mkN N x R) k = true := fun k hk => by
    rw [inB_iff] at *
    have := asc_mem N 0 R hv.ascN k hk
    exact (mkN_iff N x k R).2 ⟨by omega, .inr hk⟩
  unfold chE chV
  by_cases hC : C = []
  · exact .inl ⟨by rw [if_pos (.inr hC)], by rw [if_pos (.inr hC)]⟩
  · have hz' : ¬ (mkN N x R = [] ∨ C = []) := fun h => h.elim hn' hC
    by_cases hN : N = []
    · exact .inr (.inl ⟨by rw [if_pos (.inl hN)], by rw [if_neg hz']⟩)
    · have hz : ¬ (N = [] ∨ C = []) := fun h => h.elim hN hC
      exact .inr (.inr ⟨by rw [if_neg hz], by rw [if_neg hz'], by rw [if_neg hz, if_neg hz']; exact chp_more hv hv' hN hn' hC (gv_more hv hv' hs) (n + 1) n (by omega)⟩)
theorem mkN_yes {N : List Int} {x : Int} {n : Nat} (h : (((n : Int) + 1 == x) || inB N ((n : Int) + 1)) = true) : mkN N x (n + 1) = mkN N x n ++ [(n : Int) + 1] := by
  have e : ((n + 1 : Nat) : Int) = (n : Int) + 1 := by omega
  rw [mkN, e, if_pos h]
theorem mkN_no {N : List Int} {x : Int} {n : Nat} (h : (((n : Int) + 1 == x) || inB N ((n : Int) + 1)) = false) : mkN N x (n + 1) = mkN N x n := by
  have e : ((n + 1 : Nat) : Int) = (n : Int) + 1 := by omega
  rw [mkN, e, h]; rfl
theorem mkN_le (N : List Int) (x : Int) : ∀ n, (mkN N x n).length ≤ n
  | 0 => Nat.le_refl _
  | n + 1 => by
    have := mkN_le N x n
    unfold mkN
    split
    · simp; omega
    · omega
end Go.Proofs.Ytmkmnedojgigoaa
