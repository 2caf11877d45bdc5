import Derived.Test.YtmkmnedojgigoaaD2
namespace Go.Proofs.Ytmkmnedojgigoaa

/-- The costs of 0 to n plays. -/
def csts (R : Nat) (N xs : List Int) : Nat → List Int
  | 0 => [0]
  | n + 1 => csts R N xs n ++ [xs.foldl (cst1 R N (csts R N xs n)) (-1)]
theorem csts_len (R : Nat) (N xs : List Int) : ∀ n, (csts R N xs n).length = n + 1
  | 0 => rfl
  | n + 1 => by simp [csts, csts_len R N xs n]

theorem cst1_ge {R : Nat} {N ys : List Int} {L B : Int} {l x : Int} (hy : ∀ i : Nat, 0 ≤ ys.getD i 0 ∧ ys.getD i 0 ≤ B) (hx : 1 ≤ x ∧ x ≤ L) (hl : 0 ≤ l ∧ l ≤ L + B) : 0 ≤ cst1 R N ys l x ∧ cst1 R N ys l x ≤ L + B := by
  have h := hy (ys.length - fs R N x.toNat)
  unfold cst1
  split
  · exact hl
  · split
    · omega
    · split <;> omega
theorem fold_ge {R : Nat} {N ys : List Int} {L B : Int} (hy : ∀ i : Nat, 0 ≤ ys.getD i 0 ∧ ys.getD i 0 ≤ B) : ∀ (xs : List Int) (l : Int), (∀ x ∈ xs, 1 ≤ x ∧ x ≤ L) → 0 ≤ l ∧ l ≤ L + B → 0 ≤ xs.foldl (cst1 R N ys) l ∧ xs.foldl (cst1 R N ys) l ≤ L + B
  | [], _, _, h => h
  | x :: xs, _l, hx, h => fold_ge hy xs _ (fun y hy' => hx y (List.mem_cons_of_mem _ hy')) (cst1_ge hy (hx x (List.mem_cons_self ..)) h)
theorem fold_first {R : Nat} {N ys : List Int} {L B : Int} (hy : ∀ i : Nat, 0 ≤ ys.getD i 0 ∧ ys.getD i 0 ≤ B) : ∀ (xs : List Int), (∀ x ∈ xs, 1 ≤ x ∧ x ≤ L) → (∃ x ∈ xs, fs R N x.toNat ≠ 0) → 0 ≤ xs.foldl (cst1 R N ys) (-1) ∧ xs.foldl (cst1 R N ys) (-1) ≤ L + B
  | [], _, h => by obtain ⟨x, hx, _⟩ := h; simp at hx
  | x :: xs, hx, h => by
    have h0 := hx x (List.mem_cons_self ..)
    have h1 := hy (ys.length - fs R N x.toNat)
    rw [List.foldl_cons]
    by_cases e : fs R N x.toNat = 0
    · have : cst1 R N ys (-1) x = -1 := by simp [cst1, e]
      rw [this]
      refine fold_first hy xs (fun y hy' => hx y (List.mem_cons_of_mem _ hy')) ?_
      obtain ⟨z, hz, hf⟩ := h
      rcases List.mem_cons.1 hz with rfl | hz
      · exact absurd e hf
      · exact ⟨z, hz, hf⟩
    · have : cst1 R N ys (-1) x = x + ys.getD (ys.length - fs R N x.toNat) 0 := by
        unfold cst1; rw [if_neg e, if_pos (by omega)]
      refine fold_ge hy xs _ (fun y hy' => hx y (List.mem_cons_of_mem _ hy')) ?_
      rw [this]; omega

theorem getD_append (l : List Int) (x : Int) (i : Nat) : (l ++ [x]).getD i 0 = if i < l.length then l.getD i 0 else if i = l.length then x else 0 := by
  simp only [List.getD]
  split
  · rw [List.getElem?_append_left ‹_›]
  · rename_i h
    rw [List.getElem?_append_right (by omega)]
    split
    · subst_vars; simp
    · rw [List.getElem?_eq_none (by simp; omega)]; rfl

theorem csts_bd {R : Nat} {N xs : List Int} {L : Nat} (hx : ∀ x ∈ xs, 1 ≤ x ∧ x ≤ (L : Int)) (he : ∃ x ∈ xs, fs R N x.toNat ≠ 0) : ∀ (n i : Nat), 0 ≤ (csts R N xs n).getD i 0 ∧ (csts R N xs n).getD i 0 ≤ ((n * L : Nat) : Int)
  | 0, i => by
    have : (csts R N xs 0).getD i 0 = 0 := by cases i <;> simp [csts]
    rw [this]; omega
  | n + 1, i => by
    have ih := csts_bd hx he n
    have hf := fold_first (L := L) (B := ((n * L : Nat) : Int)) ih xs hx he
    have hm : ((n + 1) * L : Nat) = n * L + L := Nat.succ_mul n L
    show 0 ≤ (csts R N xs n ++ [_]).getD i 0 ∧ _
    have e : (csts R N xs (n + 1)).getD i 0 = (csts R N xs n ++ [xs.foldl (cst1 R N (csts R N xs n)) (-1)]).getD i 0 := rfl
    rw [e, getD_append]
    have := ih i
    split
    · omega
    · split <;> omega

theorem tab_old (C : List Int) : ∀ (n i : Nat), i ≤ n → (tab C n).getD i false = (tab C i).getD i false
  | 0, i, h => by have : i = 0 := by omega
                  subst this; rfl
  | n + 1, i, h => by
    by_cases e : i = n + 1
    · rw [e]
    · have hl := tab_len C n
      rw [← tab_old C n i (by omega)]
      simp only [tab, List.getD]
      rw [List.getElem?_append_left (by omega)]
theorem tab_new (C : List Int) (n : Nat) : (tab C (n + 1)).getD (n + 1) false = C.any (one (tab C n) (n + 1)) := by
  have hl := tab_len C n
  simp only [tab, List.getD]
  rw [List.getElem?_append_right (by omega), hl]
  simp
theorem tab_mul {C : List Int} {c : Nat} (hc : C[0]? = some (c : Int)) (h1 : 1 ≤ c) : ∀ (m n : Nat), m * c ≤ n → (tab C n).getD (m * c) false = true
  | 0, n, _ => by rw [Nat.zero_mul, tab_old C n 0 (Nat.zero_le _)]; rfl
  | m + 1, n, h => by
    have hm : (m + 1) * c = m * c + c := Nat.succ_mul m c
    rw [tab_old C n _ h]
    obtain ⟨k, hk⟩ : ∃ k, (m + 1) * c = k + 1 := ⟨(m + 1) * c - 1, by omega⟩
    rw [hk, tab_new]
    refine List.any_eq_true.2 ⟨c, List.mem_of_getElem? hc, ?_⟩
    have ih := tab_mul hc h1 m k (by omega)
    have e : k + 1 - c = m * c := by omega
    have hck : c ≤ k + 1 := by omega
    rw [List.getD_eq_getElem?_getD] at ih
    simp [one, e, ih]
    omega
theorem sml_has {C : List Int} : ∀ (n i : Nat), 1 ≤ i → i ≤ n → (tab C i).getD i false = true → (i : Int) ∈ sml C n
  | 0, i, h1, h2, _ => by omega
  | n + 1, i, h1, h2, h => by
    unfold sml
    by_cases e : i = n + 1
    · subst e
      rw [tab_new] at h
      rw [if_pos h]
      simp
    · have := sml_has n i h1 (by omega) h
      split
      · exact List.mem_append_left _ this
      · exact this

theorem some_buys {R : Nat} {N C : List Int} (hv : Vw R N C) (hN : N ≠ []) (hC : C ≠ []) {L : Nat} (hL : R + cw C 0 ≤ L) : ∃ x ∈ sml C L, fs R N x.toNat ≠ 0 := by
  have hr := hv.r1
  have hc0 : 0 < C.length := List.length_pos_iff.2 hC
  have hn0 : 0 < N.length := List.length_pos_iff.2 hN
  have hco := hv.coin hc0
  have hd := Nat.div_add_mod R (cw C 0)
  have hm := Nat.mod_lt R (show 0 < cw C 0 by omega)
  have e : (R / cw C 0 + 1) * cw C 0 = cw C 0 * (R / cw C 0) + cw C 0 := by rw [Nat.add_mul, Nat.one_mul, Nat.mul_comm]
  refine ⟨(((R / cw C 0 + 1) * cw C 0 : Nat) : Int), sml_has _ _ (by omega) (by omega) (tab_mul hco.1 hco.2.1 _ _ (Nat.le_refl _)), ?_⟩
  rw [Int.toNat_natCast]
  have h1 := fs_mono hv (show R ≤ (R / cw C 0 + 1) * cw C 0 by omega)
  have h2 : fs R N R = N.length + np N ((R % R : Nat) : Int) := by
    unfold fs
    rw [Nat.div_self (by omega), Nat.one_mul]
  omega

end Go.Proofs.Ytmkmnedojgigoaa
