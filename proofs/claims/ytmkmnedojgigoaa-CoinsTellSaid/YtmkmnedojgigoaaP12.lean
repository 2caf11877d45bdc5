import Derived.Test.YtmkmnedojgigoaaP8
import Derived.Test.YtmkmnedojgigoaaD4
namespace Go.Proofs.Ytmkmnedojgigoaa

/-- Coins can be worth so many cents. -/
def Rch (C : List Int) (x : Nat) : Prop := (tab C x).getD x false = true
theorem rch_zero (C : List Int) : Rch C 0 := rfl
theorem rch_add {C : List Int} {x c : Nat} (h : Rch C x) (hc : (c : Int) ∈ C) (h1 : 1 ≤ c) : Rch C (x + c) := by
  unfold Rch
  obtain ⟨k, hk⟩ : ∃ k, x + c = k + 1 := ⟨x + c - 1, by omega⟩
  rw [hk, tab_new]
  refine List.any_eq_true.2 ⟨c, hc, ?_⟩
  have e : k + 1 - c = x := by omega
  have h2 : (tab C k).getD x false = true := by rw [tab_old C k x (by omega)]; exact h
  have hck : c ≤ k + 1 := by omega
  rw [List.getD_eq_getElem?_getD] at h2
  simp [one, e, h2]
  omega
theorem sml_iff {C : List Int} {x : Int} : ∀ {L : Nat}, x ∈ sml C L ↔ ∃ n : Nat, x = n ∧ 1 ≤ n ∧ n ≤ L ∧ Rch C n
  | 0 => by
    constructor
    · intro h; simp [sml] at h
    · rintro ⟨n, _, h1, h2, _⟩; omega
  | L + 1 => by
    constructor
    · intro h
      unfold sml at h
      split at h
      · rename_i hg
        rcases List.mem_append.1 h with h | h
        · obtain ⟨n, h1, h2, h3, h4⟩ := sml_iff.1 h
          exact ⟨n, h1, h2, by omega, h4⟩
        · exact ⟨L + 1, by simpa using h, by omega, Nat.le_refl _, by unfold Rch; rw [tab_new]; exact hg⟩
      · obtain ⟨n, h1, h2, h3, h4⟩ := sml_iff.1 h
        exact ⟨n, h1, h2, by omega, h4⟩
    · rintro ⟨n, rfl, h2, h3, h4⟩
      exact sml_has _ _ h2 h3 h4

section
variable {R : Nat} {N : List Int}
theorem fold_acc {ys : List Int} (hy : ∀ i : Nat, 0 ≤ ys.getD i 0) : ∀ (xs : List Int) (l : Int), (∀ x ∈ xs, 1 ≤ x) → 0 ≤ l →
    0 ≤ xs.foldl (cst1 R N ys) l ∧ xs.foldl (cst1 R N ys) l ≤ l ∧ (∀ x ∈ xs, fs R N x.toNat ≠ 0 → xs.foldl (cst1 R N ys) l ≤ x + ys.getD (ys.length - fs R N x.toNat) 0) ∧
      (xs.foldl (cst1 R N ys) l = l ∨ ∃ x ∈ xs, fs R N x.toNat ≠ 0 ∧ xs.foldl (cst1 R N ys) l = x + ys.getD (ys.length - fs R N x.toNat) 0)
  | [], l, _, h => ⟨h, Int.le_refl _, fun x hx => by simp at hx, .inl rfl⟩
  | x :: xs, l, hx, h => by
    have h0 := hx x (List.mem_cons_self ..)
    have h1 := hy (ys.length - fs R N x.toNat)
    have step : 0 ≤ cst1 R N ys l x ∧ cst1 R N ys l x ≤ l ∧ (fs R N x.toNat ≠ 0 → cst1 R N ys l x ≤ x + ys.getD (ys.length - fs R N x.toNat) 0) ∧
        (cst1 R N ys l x = l ∨ (fs R N x.toNat ≠ 0 ∧ cst1 R N ys l x = x + ys.getD (ys.length - fs R N x.toNat) 0)) := by
      unfold cst1
      by_cases e : fs R N x.toNat = 0
      · rw [if_pos e]; exact ⟨h, Int.le_refl _, fun h => absurd e h, .inl rfl⟩
      · rw [if_neg e, if_neg (by omega)]
        split
        · exact ⟨by omega, by omega, fun _ => Int.le_refl _, .inr ⟨e, rfl⟩⟩
        · exact ⟨h, Int.le_refl _, fun _ => by omega, .inl rfl⟩
    obtain ⟨s1, s2, s3, s4⟩ := step
    obtain ⟨i1, i2, i3, i4⟩ := fold_acc hy xs (cst1 R N ys l x) (fun y hy' => hx y (List.mem_cons_of_mem _ hy')) s1
    rw [List.foldl_cons]
    refine ⟨i1, by omega, fun z hz hf => ?_, ?_⟩
    · rcases List.mem_cons.1 hz with rfl | hz
      · have := s3 hf; omega
      · exact i3 z hz hf
    · rcases i4 with i4 | ⟨z, hz, hf, e⟩
      · rcases s4 with s4 | ⟨hf, e⟩
        · exact .inl (by omega)
        · exact .inr ⟨x, List.mem_cons_self .., hf, by rw [i4, e]⟩
      · exact .inr ⟨z, List.mem_cons_of_mem _ hz, hf, e⟩
theorem fold_min {ys : List Int} (hy : ∀ i : Nat, 0 ≤ ys.getD i 0) : ∀ (xs : List Int), (∀ x ∈ xs, 1 ≤ x) → (∃ x ∈ xs, fs R N x.toNat ≠ 0) →
    (∀ x ∈ xs, fs R N x.toNat ≠ 0 → xs.foldl (cst1 R N ys) (-1) ≤ x + ys.getD (ys.length - fs R N x.toNat) 0) ∧
      ∃ x ∈ xs, fs R N x.toNat ≠ 0 ∧ xs.foldl (cst1 R N ys) (-1) = x + ys.getD (ys.length - fs R N x.toNat) 0
  | [], _, h => by obtain ⟨x, hx, _⟩ := h; simp at hx
  | x :: xs, hx, h => by
    have h0 := hx x (List.mem_cons_self ..)
    have h1 := hy (ys.length - fs R N x.toNat)
    have hx' : ∀ y ∈ xs, 1 ≤ y := fun y hy' => hx y (List.mem_cons_of_mem _ hy')
    rw [List.foldl_cons]
    by_cases e : fs R N x.toNat = 0
    · have e1 : cst1 R N ys (-1) x = -1 := by simp [cst1, e]
      rw [e1]
      have h' : ∃ y ∈ xs, fs R N y.toNat ≠ 0 := by
        obtain ⟨z, hz, hf⟩ := h
        rcases List.mem_cons.1 hz with rfl | hz
        · exact absurd e hf
        · exact ⟨z, hz, hf⟩
      obtain ⟨i1, z, hz, hf, e2⟩ := fold_min hy xs hx' h'
      refine ⟨fun y hy' hf' => ?_, z, List.mem_cons_of_mem _ hz, hf, e2⟩
      rcases List.mem_cons.1 hy' with rfl | hy'
      · exact absurd e hf'
      · exact i1 y hy' hf'
    · have e1 : cst1 R N ys (-1) x = x + ys.getD (ys.length - fs R N x.toNat) 0 := by
        unfold cst1; rw [if_neg e, if_pos (by omega)]
      obtain ⟨i1, i2, i3, i4⟩ := fold_acc hy xs (cst1 R N ys (-1) x) hx' (by rw [e1]; omega)
      refine ⟨fun y hy' hf' => ?_, ?_⟩
      · rcases List.mem_cons.1 hy' with rfl | hy'
        · rw [← e1]; exact i2
        · exact i3 y hy' hf'
      · rcases i4 with i4 | ⟨z, hz, hf, e2⟩
        · exact ⟨x, List.mem_cons_self .., e, by rw [i4, e1]⟩
        · exact ⟨z, List.mem_cons_of_mem _ hz, hf, e2⟩

theorem csts_old (xs : List Int) : ∀ (n i : Nat), i ≤ n → (csts R N xs n).getD i 0 = (csts R N xs i).getD i 0
  | 0, i, h => by have : i = 0 := by omega
                  subst this; rfl
  | n + 1, i, h => by
    by_cases e : i = n + 1
    · rw [e]
    · rw [← csts_old xs n i (by omega)]
      show (csts R N xs n ++ [_]).getD i 0 = _
      rw [getD_append, csts_len, if_pos (by omega)]
theorem csts_top (xs : List Int) (n : Nat) : (csts R N xs (n + 1)).getD (n + 1) 0 = xs.foldl (cst1 R N (csts R N xs n)) (-1) := by
  show (csts R N xs n ++ [_]).getD (n + 1) 0 = _
  rw [getD_append, csts_len, if_neg (by omega), if_pos rfl]
end

/-- The least cost of n plays with sums up to L. -/
def cstL (R : Nat) (N C : List Int) (L n : Nat) : Int := (csts R N (sml C L) n).getD n 0
theorem cstL_zero (R : Nat) (N C : List Int) (L : Nat) : cstL R N C L 0 = 0 := rfl
section
variable {R : Nat} {N C : List Int} (hv : Vw R N C) (hN : N ≠ []) (hC : C ≠ [])
include hv hN hC
theorem cstL_ge {L : Nat} (hL : R + cw C 0 ≤ L) (n : Nat) : 0 ≤ cstL R N C L n :=
  (csts_bd (L := L) (fun x hx => sml_mem C L x hx) (some_buys hv hN hC hL) n n).1
theorem cstL_step {L : Nat} (hL : R + cw C 0 ≤ L) (n : Nat) :
    (∀ x : Nat, 1 ≤ x → x ≤ L → Rch C x → fs R N x ≠ 0 → cstL R N C L (n + 1) ≤ x + cstL R N C L (n + 1 - fs R N x)) ∧
      ∃ x : Nat, 1 ≤ x ∧ x ≤ L ∧ Rch C x ∧ fs R N x ≠ 0 ∧ cstL R N C L (n + 1) = x + cstL R N C L (n + 1 - fs R N x) := by
  have hs := some_buys hv hN hC hL
  have hb := csts_bd (L := L) (fun x hx => sml_mem C L x hx) hs n
  have hm := fold_min (R := R) (N := N) (fun i => (hb i).1) (sml C L) (fun x hx => (sml_mem C L x hx).1) hs
  have e : ∀ x : Nat, fs R N x ≠ 0 → (csts R N (sml C L) n).getD ((csts R N (sml C L) n).length - fs R N x) 0 = cstL R N C L (n + 1 - fs R N x) := fun x hx => by
    rw [csts_len, csts_old _ n _ (by omega)]; rfl
  unfold cstL at *
  rw [csts_top]
  refine ⟨fun x h1 h2 h3 h4 => ?_, ?_⟩
  · have := hm.1 x (sml_iff.2 ⟨x, rfl, h1, h2, h3⟩) (by simpa using h4)
    rw [Int.toNat_natCast, e x h4] at this
    exact this
  · obtain ⟨x, hx, hf, he⟩ := hm.2
    obtain ⟨y, rfl, h1, h2, h3⟩ := sml_iff.1 hx
    rw [Int.toNat_natCast] at hf he
    rw [e y hf] at he
    exact ⟨y, h1, h2, h3, hf, he⟩
theorem much (n : Nat) : ∃ x : Nat, n * R ≤ x ∧ x < n * R + cw C 0 ∧ Rch C x ∧ n ≤ fs R N x := by
  have hc0 : 0 < C.length := List.length_pos_iff.2 hC
  have hn0 : 0 < N.length := List.length_pos_iff.2 hN
  have hco := hv.coin hc0
  have hd := Nat.div_add_mod (n * R + cw C 0 - 1) (cw C 0)
  have hm := Nat.mod_lt (n * R + cw C 0 - 1) (show 0 < cw C 0 by omega)
  have ht := tab_mul hco.1 hco.2.1 ((n * R + cw C 0 - 1) / cw C 0) _ (Nat.le_refl _)
  have hx := Nat.mul_comm ((n * R + cw C 0 - 1) / cw C 0) (cw C 0)
  have h2 := fs_add (N := N) hv.r1 n 0
  rw [Nat.add_zero] at h2
  have h3 : n * 1 ≤ n * N.length := Nat.mul_le_mul_left n hn0
  generalize (n * R + cw C 0 - 1) / cw C 0 * cw C 0 = x at *
  have h0 : n * R ≤ x := by omega
  have h1 := fs_mono hv h0
  exact ⟨x, h0, by omega, ht, by omega⟩
theorem cstL_le {L L' : Nat} : ∀ (m n : Nat), n < m → n * R + cw C 0 ≤ L → n * R + cw C 0 ≤ L' → cstL R N C L n ≤ cstL R N C L' n
  | 0, n, h, _, _ => by omega
  | m + 1, 0, _, _, _ => Int.le_refl _
  | m + 1, n + 1, h, hL, hL' => by
    have hm1 : (n + 1) * R = n * R + R := Nat.succ_mul n R
    obtain ⟨s1, s2⟩ := cstL_step hv hN hC (L := L) (by omega) n
    obtain ⟨t1, x, x1, x2, x3, x4, x5⟩ := cstL_step hv hN hC (L := L') (by omega) n
    have hle : (n + 1 - fs R N x) * R ≤ n * R := Nat.mul_le_mul_right R (by omega)
    by_cases hx : x ≤ L
    · have h1 := s1 x x1 hx x3 x4
      have ih := cstL_le (L := L) (L' := L') m (n + 1 - fs R N x) (by omega) (by omega) (by omega)
      rw [x5]; omega
    · obtain ⟨y, y1, y2, y3, y4⟩ := much hv hN hC (n + 1)
      have h1 := s1 y (by have := hv.r1; omega) (by omega) y3 (by omega)
      rw [show n + 1 - fs R N y = 0 by omega, cstL_zero] at h1
      have h2 := cstL_ge hv hN hC (L := L') (by omega) (n + 1 - fs R N x)
      rw [x5]; omega
theorem cstL_eq {L L' n : Nat} (hL : n * R + cw C 0 ≤ L) (hL' : n * R + cw C 0 ≤ L') : cstL R N C L n = cstL R N C L' n :=
  Int.le_antisymm (cstL_le hv hN hC (n + 1) n (by omega) hL hL') (cstL_le hv hN hC (n + 1) n (by omega) hL' hL)
theorem chp_eq {L n : Nat} (hL : n * R + cw C 0 ≤ L) : chp R N C n = cstL R N C L n := cstL_eq hv hN hC (L := n * R + cw C 0) (Nat.le_refl _) hL
omit hv hN hC in
theorem chp_zero : chp R N C 0 = 0 := rfl
theorem chp_ge (n : Nat) : 0 ≤ chp R N C n := by
  rw [chp_eq hv hN hC (L := n * R + cw C 0 + R) (by omega)]
  exact cstL_ge hv hN hC (by omega) n
theorem chp_le {n x : Nat} (hn : 1 ≤ n) (h1 : 1 ≤ x) (h3 : Rch C x) (h4 : fs R N x ≠ 0) : chp R N C n ≤ x + chp R N C (n - fs R N x) := by
  obtain ⟨k, rfl⟩ : ∃ k, n = k + 1 := ⟨n - 1, by omega⟩
  have hm1 : (k + 1) * R = k * R + R := Nat.succ_mul k R
  have hle : (k + 1 - fs R N x) * R ≤ (k + 1) * R := Nat.mul_le_mul_right R (by omega)
  rw [chp_eq hv hN hC (n := k + 1) (L := (k + 1) * R + cw C 0 + x) (by omega), chp_eq hv hN hC (n := k + 1 - fs R N x) (L := (k + 1) * R + cw C 0 + x) (by omega)]
  exact (cstL_step hv hN hC (L := (k + 1) * R + cw C 0 + x) (by omega) k).1 x h1 (by omega) h3 h4
theorem chp_at {n : Nat} (hn : 1 ≤ n) : ∃ x : Nat, 1 ≤ x ∧ Rch C x ∧ fs R N x ≠ 0 ∧ chp R N C n = x + chp R N C (n - fs R N x) := by
  obtain ⟨k, rfl⟩ : ∃ k, n = k + 1 := ⟨n - 1, by omega⟩
  have hm1 : (k + 1) * R = k * R + R := Nat.succ_mul k R
  obtain ⟨_, x, x1, x2, x3, x4, x5⟩ := cstL_step hv hN hC (L := (k + 1) * R + cw C 0) (by omega) k
  have hle : (k + 1 - fs R N x) * R ≤ (k + 1) * R := Nat.mul_le_mul_right R (by omega)
  refine ⟨x, x1, x3, x4, ?_⟩
  rw [chp_eq hv hN hC (n := k + 1) (L := (k + 1) * R + cw C 0) (by omega), chp_eq hv hN hC (n := k + 1 - fs R N x) (L := (k + 1) * R + cw C 0) (by omega)]
  exact x5
theorem chp_mono1 : ∀ (m n : Nat), n < m → chp R N C n ≤ chp R N C (n + 1)
  | 0, n, h => by omega
  | m + 1, 0, _ => by rw [chp_zero]; exact chp_ge hv hN hC _
  | m + 1, n + 1, h => by
    obtain ⟨x, x1, x3, x4, x5⟩ := chp_at hv hN hC (n := n + 1 + 1) (by omega)
    have h1 := chp_le hv hN hC (n := n + 1) (by omega) x1 x3 x4
    rw [x5]
    by_cases e : fs R N x ≤ n + 1
    · have ih := chp_mono1 m (n + 1 - fs R N x) (by omega)
      rw [show n + 1 + 1 - fs R N x = n + 1 - fs R N x + 1 by omega]
      omega
    · rw [show n + 1 - fs R N x = 0 by omega, chp_zero] at h1
      have := chp_ge hv hN hC (n + 1 + 1 - fs R N x)
      omega
theorem chp_mono {m n : Nat} (h : m ≤ n) : chp R N C m ≤ chp R N C n := by
  induction n with
  | zero => rw [show m = 0 by omega]; exact Int.le_refl _
  | succ n ih =>
    by_cases e : m = n + 1
    · rw [e]; exact Int.le_refl _
    · exact Int.le_trans (ih (by omega)) (chp_mono1 hv hN hC (n + 1) n (by omega))
theorem chp_sub : ∀ (m a b : Nat), a < m → chp R N C (a + b) ≤ chp R N C a + chp R N C b
  | 0, a, _, h => by omega
  | m + 1, 0, b, _ => by rw [Nat.zero_add, chp_zero]; omega
  | m + 1, a + 1, b, h => by
    obtain ⟨x, x1, x3, x4, x5⟩ := chp_at hv hN hC (n := a + 1) (by omega)
    have h1 := chp_le hv hN hC (n := a + 1 + b) (by omega) x1 x3 x4
    rw [x5]
    by_cases e : fs R N x ≤ a + 1
    · have ih := chp_sub m (a + 1 - fs R N x) b (by omega)
      rw [show a + 1 - fs R N x + b = a + 1 + b - fs R N x by omega] at ih
      omega
    · have h2 := chp_mono hv hN hC (show a + 1 + b - fs R N x ≤ b by omega)
      have := chp_ge hv hN hC (a + 1 - fs R N x)
      omega
theorem chp_pos {n : Nat} (hn : 1 ≤ n) : 1 ≤ chp R N C n := by
  obtain ⟨x, x1, x3, x4, x5⟩ := chp_at hv hN hC hn
  have := chp_ge hv hN hC (n - fs R N x)
  omega
end
end Go.Proofs.Ytmkmnedojgigoaa
namespace Go.Proofs.Ytmkmnedojgigoaa

/-- The cents of the coins that are left. -/
def wth (C : List Int) (s : Sp) : Nat := s.b0 * cw C 0 + s.b1 * cw C 1 + s.b2 * cw C 2 + s.b3 * cw C 3

theorem look_some {bt : Nat → Nat → Bool} {f : Sp → Nat} {R : Nat} {N C : List Int} {s : Sp} : ∀ (l : List Int) (st : Option (Int × Nat)), (∀ a v, st = some (a, v) → canS s a = true ∧ v = bgt R N C s a + f (nxt R N C s a)) →
    ∀ a v, l.foldl (look bt f R N C s) st = some (a, v) → canS s a = true ∧ v = bgt R N C s a + f (nxt R N C s a) ∧ (a ∈ l ∨ st = some (a, v))
  | [], st, h, a, v, he => ⟨(h a v he).1, (h a v he).2, .inr he⟩
  | x :: l, st, h, a, v, he => by
    rw [List.foldl_cons] at he
    have h' : ∀ a v, look bt f R N C s st x = some (a, v) → canS s a = true ∧ v = bgt R N C s a + f (nxt R N C s a) := fun a v e => by
      unfold look at e
      split at e
      · rename_i hc
        split at e
        · simp only [Option.some.injEq, Prod.mk.injEq] at e
          obtain ⟨rfl, rfl⟩ := e
          exact ⟨hc, rfl⟩
        · split at e
          · simp only [Option.some.injEq, Prod.mk.injEq] at e
            obtain ⟨rfl, rfl⟩ := e
            exact ⟨hc, rfl⟩
          · exact h a v e
      · exact h a v e
    obtain ⟨i1, i2, i3⟩ := look_some l _ h' a v he
    refine ⟨i1, i2, ?_⟩
    rcases i3 with i3 | i3
    · exact .inl (List.mem_cons_of_mem _ i3)
    · unfold look at i3
      split at i3
      · split at i3
        · simp only [Option.some.injEq, Prod.mk.injEq] at i3
          exact .inl (by rw [← i3.1]; exact List.mem_cons_self ..)
        · split at i3
          · simp only [Option.some.injEq, Prod.mk.injEq] at i3
            exact .inl (by rw [← i3.1]; exact List.mem_cons_self ..)
          · exact .inr i3
      · exact .inr i3
theorem bst_act {bt : Nat → Nat → Bool} {R : Nat} {N C : List Int} (hv : Vw R N C) {s : Sp} (ho : OKs R s) :
    bst bt R N C s = 0 ∨ ∃ a : Int, -1 ≤ a ∧ a < C.length ∧ canS s a = true ∧ bst bt R N C s = bgt R N C s a + bst bt R N C (nxt R N C s a) := by
  have h := bst_eq (bt := bt) hv ho
  rcases hc : ch bt (bst bt R N C) R N C s with _ | ⟨a, v⟩
  · rw [hc] at h; exact .inl h
  · rw [hc] at h
    obtain ⟨h1, h2, h3⟩ := look_some _ none (fun a v e => by cases e) a v hc
    rcases h3 with h3 | h3
    · have := down_mem _ _ h3
      exact .inr ⟨a, by omega, by omega, h1, by rw [h, ← h2]; rfl⟩
    · cases h3
end Go.Proofs.Ytmkmnedojgigoaa
namespace Go.Proofs.Ytmkmnedojgigoaa

theorem wth_dec {C : List Int} {s : Sp} {a : Int} (h0 : 0 ≤ a) (h3 : a ≤ 3) (h : 0 < s.get a) : wth C (s.dec a) + cw C a.toNat = wth C s := by
  have e : ∀ b c : Nat, 0 < b → (b - 1) * c + c = b * c := fun b c hb => by
    obtain ⟨d, rfl⟩ : ∃ d, b = d + 1 := ⟨b - 1, by omega⟩
    rw [Nat.add_sub_cancel, Nat.succ_mul]
  have ha : a = 0 ∨ a = 1 ∨ a = 2 ∨ a = 3 := by omega
  rcases ha with rfl | rfl | rfl | rfl
  · have := e s.b0 (cw C 0) h
    simp only [wth, Sp.dec, if_true, Int.toNat_zero]
    omega
  · have := e s.b1 (cw C 1) h
    have h1 : (1 : Int).toNat = 1 := rfl
    simp only [wth, Sp.dec, h1]
    simp
    omega
  · have := e s.b2 (cw C 2) h
    have h1 : (2 : Int).toNat = 2 := rfl
    simp only [wth, Sp.dec, h1]
    simp
    omega
  · have := e s.b3 (cw C 3) h
    have h1 : (3 : Int).toNat = 3 := rfl
    simp only [wth, Sp.dec, h1]
    simp
    omega
theorem fs_zero {R : Nat} {N C : List Int} (hv : Vw R N C) : fs R N 0 = 0 := by
  have hz : np N ((0 : Nat) : Int) = 0 := np_zero N 0 R 0 hv.ascN (by omega)
  unfold fs
  rw [Nat.zero_div, Nat.zero_mul, Nat.zero_mod, hz]

theorem chp_purse {R : Nat} {N C : List Int} (hv : Vw R N C) (hN : N ≠ []) (hC : C ≠ []) : ∀ (m : Nat) (s : Sp) (q : Nat), mu s < m → OKs R s → q % R = s.p → (q = 0 ∨ Rch C q) →
    chp R N C (fs R N q + bst btm R N C s) ≤ q + wth C s
  | 0, s, q, h, _, _, _ => by omega
  | m + 1, s, q, h, ho, hq, hr => by
    have hfq : chp R N C (fs R N q) ≤ q := by
      by_cases e : fs R N q = 0
      · rw [e, chp_zero]; omega
      · rcases hr with rfl | hr
        · exact absurd (fs_zero hv) e
        · have h1 : 1 ≤ q := by
            rcases Nat.eq_zero_or_pos q with h0 | h0
            · subst h0; exact absurd (fs_zero hv) e
            · exact h0
          have := chp_le hv hN hC (n := fs R N q) (by omega) h1 hr e
          rw [Nat.sub_self, chp_zero] at this
          omega
    rcases bst_act (bt := btm) hv ho with h0 | ⟨a, a1, a2, hc, hb⟩
    · rw [h0, Nat.add_zero]; omega
    · obtain ⟨ho', hm'⟩ := nxt_ok hv ho hc
      by_cases e : a = -1
      · subst e
        rw [nxt_sel] at hb ho' hm'
        have hb' : bst btm R N C s = bst btm R N C { s with p := 0, c := s.c - 1 } := by rw [hb]; simp [bgt]
        have ih := chp_purse hv hN hC m { s with p := 0, c := s.c - 1 } 0 (by omega) ho' (Nat.zero_mod _) (.inl rfl)
        rw [fs_zero hv, Nat.zero_add, ← hb'] at ih
        have hs := chp_sub hv hN hC (fs R N q + 1) (fs R N q) (bst btm R N C s) (by omega)
        have hw : wth C { s with p := 0, c := s.c - 1 } = wth C s := rfl
        rw [hw] at ih
        omega
      · obtain ⟨k, rfl⟩ := Int.eq_ofNat_of_zero_le (show 0 ≤ a by omega)
        have hk : k < C.length := by omega
        have c4 := hv.c4
        have hco := hv.coin hk
        have hget : 0 < s.get (k : Int) := by
          unfold canS at hc
          rw [if_neg e] at hc
          simpa using hc
        have hp' : (nxt R N C s (k : Int)).p = (q + cw C k) % R := by
          rw [nxt_coin _ _ _ _ _ e, Int.toNat_natCast]
          show (s.p + cw C k) % R = _
          rw [← hq, Nat.mod_add_mod]
        have hw : wth C (nxt R N C s (k : Int)) + cw C k = wth C s := by
          have := wth_dec (C := C) (a := (k : Int)) (by omega) (by omega) hget
          rw [Int.toNat_natCast] at this
          rw [← this, nxt_coin _ _ _ _ _ e]; rfl
        have hg : bgt R N C s (k : Int) = gv R N q (cw C k) := by
          unfold bgt
          rw [if_neg e, Int.toNat_natCast, ← hq, fs_per hv.r1]
        have hf : fs R N (q + cw C k) = fs R N q + gv R N q (cw C k) := by
          have := fs_mono hv (show q ≤ q + cw C k by omega)
          unfold gv; omega
        have hrr : Rch C (q + cw C k) := by
          refine rch_add ?_ (List.mem_of_getElem? hco.1) hco.2.1
          rcases hr with rfl | hr
          · exact rch_zero C
          · exact hr
        have ih := chp_purse hv hN hC m (nxt R N C s (k : Int)) (q + cw C k) (by omega) ho' hp'.symm (.inr hrr)
        rw [hf] at ih
        rw [hb, hg, ← Nat.add_assoc]
        have hwI : ((wth C (nxt R N C s (k : Int)) : Nat) : Int) + (cw C k : Nat) = (wth C s : Nat) := by omega
        have : ((q + cw C k : Nat) : Int) = q + cw C k := by omega
        omega
theorem bst_none {R : Nat} {N C : List Int} (hv : Vw R N C) (hz : N = [] ∨ C = []) : ∀ (m : Nat) (s : Sp), mu s < m → OKs R s → bst btm R N C s = 0
  | 0, s, h, _ => by omega
  | m + 1, s, h, ho => by
    rcases bst_act (bt := btm) hv ho with h0 | ⟨a, a1, a2, hc, hb⟩
    · exact h0
    · obtain ⟨ho', hm'⟩ := nxt_ok hv ho hc
      rw [hb, bst_none hv hz m _ (by omega) ho', Nat.add_zero]
      unfold bgt
      split
      · rfl
      · rcases hz with rfl | rfl
        · simp [gv, fs, np]
        · simp at a2; omega
end Go.Proofs.Ytmkmnedojgigoaa
namespace Go.Proofs.Ytmkmnedojgigoaa

theorem look_ge {f : Sp → Nat} {R : Nat} {N C : List Int} {s : Sp} (st : Option (Int × Nat)) (x : Int) :
    stV st ≤ stV (look btm f R N C s st x) ∧ (canS s x = true → bgt R N C s x + f (nxt R N C s x) ≤ stV (look btm f R N C s st x)) := by
  unfold look
  by_cases hc : canS s x = true
  · rw [if_pos hc]
    rcases st with _ | ⟨a0, v0⟩
    · exact ⟨Nat.zero_le _, fun _ => Nat.le_refl _⟩
    · dsimp only
      by_cases hb : btm (bgt R N C s x + f (nxt R N C s x)) v0 = true
      · rw [if_pos hb]
        simp only [btm, decide_eq_true_eq] at hb
        exact ⟨by show v0 ≤ _; simp only [stV]; omega, fun _ => Nat.le_refl _⟩
      · rw [if_neg hb]
        simp only [btm, decide_eq_true_eq] at hb
        exact ⟨Nat.le_refl _, fun _ => by simp only [stV]; omega⟩
  · rw [if_neg hc]
    exact ⟨Nat.le_refl _, fun h => absurd h hc⟩
theorem fold_look_ge {f : Sp → Nat} {R : Nat} {N C : List Int} {s : Sp} : ∀ (l : List Int) (st : Option (Int × Nat)),
    stV st ≤ stV (l.foldl (look btm f R N C s) st) ∧ ∀ x ∈ l, canS s x = true → bgt R N C s x + f (nxt R N C s x) ≤ stV (l.foldl (look btm f R N C s) st)
  | [], st => ⟨Nat.le_refl _, fun x hx => by simp at hx⟩
  | y :: l, st => by
    obtain ⟨h1, h2⟩ := look_ge (f := f) (R := R) (N := N) (C := C) (s := s) st y
    obtain ⟨i1, i2⟩ := fold_look_ge (f := f) (R := R) (N := N) (C := C) (s := s) l (look btm f R N C s st y)
    rw [List.foldl_cons]
    refine ⟨Nat.le_trans h1 i1, fun x hx hc => ?_⟩
    rcases List.mem_cons.1 hx with rfl | hx
    · exact Nat.le_trans (h2 hc) i1
    · exact i2 x hx hc
theorem down_has : ∀ (m : Nat) (a : Int), -1 ≤ a → a < (m : Int) - 1 → a ∈ down m
  | 0, a, h1, h2 => by omega
  | m + 1, a, h1, h2 => by
    unfold down
    by_cases e : a = (m : Int) - 1
    · rw [e]; exact List.mem_cons_self ..
    · exact List.mem_cons_of_mem _ (down_has m a h1 (by omega))
theorem bst_ge {R : Nat} {N C : List Int} (hv : Vw R N C) {s : Sp} (ho : OKs R s) {a : Int} (h1 : -1 ≤ a) (h2 : a < C.length) (hc : canS s a = true) :
    bgt R N C s a + bst btm R N C (nxt R N C s a) ≤ bst btm R N C s := by
  rw [bst_eq (bt := btm) hv ho]
  exact (fold_look_ge (f := bst btm R N C) (down (C.length + 1)) none).2 a (down_has _ _ h1 (by omega)) hc

structure Sub (s t : Sp) : Prop where
  h0 : s.b0 ≤ t.b0
  h1 : s.b1 ≤ t.b1
  h2 : s.b2 ≤ t.b2
  h3 : s.b3 ≤ t.b3
  hp : s.p = t.p
  hc : s.c ≤ t.c
theorem Sub.cnt {s t : Sp} (h : Sub s t) : s.cnt ≤ t.cnt := by
  obtain ⟨a, b, c, d, _, _⟩ := h
  unfold Sp.cnt; omega
theorem Sub.get {s t : Sp} (h : Sub s t) (a : Int) : s.get a ≤ t.get a := by
  obtain ⟨h0, h1, h2, h3, _, _⟩ := h
  unfold Sp.get
  split
  · exact h0
  · split
    · exact h1
    · split
      · exact h2
      · exact h3
theorem Sub.dec {s t : Sp} (h : Sub s t) (a : Int) : Sub (s.dec a) (t.dec a) := by
  obtain ⟨h0, h1, h2, h3, hp, hc⟩ := h
  unfold Sp.dec
  split
  · exact ⟨by show _ - 1 ≤ _ - 1; omega, h1, h2, h3, hp, hc⟩
  · split
    · exact ⟨h0, by show _ - 1 ≤ _ - 1; omega, h2, h3, hp, hc⟩
    · split
      · exact ⟨h0, h1, by show _ - 1 ≤ _ - 1; omega, h3, hp, hc⟩
      · exact ⟨h0, h1, h2, by show _ - 1 ≤ _ - 1; omega, hp, hc⟩
theorem bst_mono {R : Nat} {N N' C : List Int} (hv : Vw R N C) (hv' : Vw R N' C) (hg : ∀ p c, gv R N p c ≤ gv R N' p c) : ∀ (m : Nat) (s t : Sp), mu s < m → OKs R s → OKs R t → Sub s t → bst btm R N C s ≤ bst btm R N' C t
  | 0, s, t, h, _, _, _ => by omega
  | m + 1, s, t, h, ho, ht, hs => by
    rcases bst_act (bt := btm) hv ho with h0 | ⟨a, a1, a2, hc, hb⟩
    · rw [h0]; exact Nat.zero_le _
    · obtain ⟨ho', hm'⟩ := nxt_ok hv ho hc
      have hct : canS t a = true := by
        unfold canS at *
        split
        · rename_i e
          rw [if_pos e] at hc
          simp only [Bool.and_eq_true, decide_eq_true_eq] at *
          have := hs.hp; have := hs.hc
          omega
        · rename_i e
          rw [if_neg e] at hc
          simp only [decide_eq_true_eq] at *
          have := hs.get a
          omega
      obtain ⟨ht', _⟩ := nxt_ok hv' ht hct
      have hge := bst_ge hv' ht a1 a2 hct
      have hbg : bgt R N C s a ≤ bgt R N' C t a := by
        unfold bgt
        split
        · exact Nat.le_refl _
        · rw [hs.hp]; exact hg _ _
      have hss : Sub (nxt R N C s a) (nxt R N' C t a) := by
        by_cases e : a = -1
        · subst e
          rw [nxt_sel, nxt_sel]
          obtain ⟨h0, h1, h2, h3, hp, hc⟩ := hs
          exact ⟨h0, h1, h2, h3, rfl, by show _ - 1 ≤ _ - 1; omega⟩
        · rw [nxt_coin _ _ _ _ _ e, nxt_coin _ _ _ _ _ e]
          have hd := hs.dec a
          obtain ⟨h0, h1, h2, h3, _, _⟩ := hd
          refine ⟨h0, h1, h2, h3, by show (_ + _) % R = (_ + _) % R; rw [hs.hp], ?_⟩
          have := (hs.dec a).cnt
          have h5 := hg t.p (cw C a.toNat)
          have h6 := hs.hc
          show min (s.c + gv R N s.p (cw C a.toNat)) (s.dec a).cnt ≤ min (t.c + gv R N' t.p (cw C a.toNat)) (t.dec a).cnt
          rw [hs.hp]
          omega
      have ih := bst_mono hv hv' hg m _ _ (by omega) ho' ht' hss
      rw [hb]
      omega

/-- The notches with one more. -/
def mkN (N : List Int) (x : Int) : Nat → List Int
  | 0 => []
  | n + 1 => if (((n + 1 : Nat) : Int) == x || inB N ((n + 1 : Nat) : Int)) then mkN N x n ++ [((n + 1 : Nat) : Int)] else mkN N x n
theorem mkN_iff (N : List Int) (x y : Int) : ∀ n, y ∈ mkN N x n ↔ (1 ≤ y ∧ y ≤ n) ∧ (y = x ∨ y ∈ N)
  | 0 => by simp [mkN]; omega
  | n + 1 => by
    have ih := mkN_iff N x y n
    unfold mkN
    by_cases e : y = ((n + 1 : Nat) : Int)
    · split
      · rename_i hg
        simp only [List.mem_append, List.mem_singleton, e, or_true, true_iff]
        rw [Bool.or_eq_true, beq_iff_eq, inB_iff] at hg
        exact ⟨by omega, hg⟩
      · rename_i hg
        rw [Bool.or_eq_true, beq_iff_eq, inB_iff] at hg
        constructor
        · intro h; have := (ih.1 h).1; omega
        · intro h; exact absurd (e ▸ h.2) hg
    · split
      · simp only [List.mem_append, List.mem_singleton, e, or_false]
        rw [ih]
        constructor
        · intro h; exact ⟨by omega, h.2⟩
        · intro h; exact ⟨by omega, h.2⟩
      · rw [ih]
        constructor
        · intro h; exact ⟨by omega, h.2⟩
        · intro h; exact ⟨by omega, h.2⟩
theorem asc_snoc (hi y : Int) : ∀ (l : List Int) (b : Int), asc b hi l = true → (∀ z ∈ l, z < y) → b < y → y ≤ hi → asc b hi (l ++ [y]) = true
  | [], b, _, _, h1, h2 => asc_cons.2 ⟨⟨by omega, h2⟩, rfl⟩
  | z :: l, b, h, hz, h1, h2 => by
    have h' := asc_cons.1 h
    exact asc_cons.2 ⟨h'.1, asc_snoc hi y l z h'.2 (fun u hu => hz u (List.mem_cons_of_mem _ hu)) (hz z (List.mem_cons_self ..)) h2⟩
theorem mkN_asc (N : List Int) (x : Int) (R : Nat) : ∀ n, n ≤ R → asc 0 R (mkN N x n) = true
  | 0, _ => rfl
  | n + 1, h => by
    have ih := mkN_asc N x R n (by omega)
    unfold mkN
    split
    · exact asc_snoc R _ _ 0 ih (fun z hz => by have := ((mkN_iff N x z n).1 hz).1; omega) (by omega) (by omega)
    · exact ih
theorem mkN_len {N : List Int} {x : Int} {b hi : Int} (ha : asc b hi N = true) (hb : 0 ≤ b) (hx : inB N x = false) (hx1 : 1 ≤ x) : ∀ n : Nat, (mkN N x n).length = np N (n : Int) + (if x ≤ (n : Int) then 1 else 0)
  | 0 => by rw [if_neg (by omega)]; show 0 = np N 0 + 0; rw [np_zero N b hi 0 ha hb]
  | n + 1 => by
    have ih := mkN_len ha hb hx hx1 n
    have hp := np_in N b hi ((n + 1 : Nat) : Int) ha
    rw [show ((n + 1 : Nat) : Int) - 1 = (n : Int) by omega] at hp
    unfold mkN
    by_cases e : ((n + 1 : Nat) : Int) = x
    · rw [if_pos (by simp [e])]
      rw [e, hx] at hp
      simp only [Bool.false_eq_true, if_false, Nat.add_zero] at hp
      rw [List.length_append, ih, e, hp, if_neg (by omega), if_pos (Int.le_refl x)]
      rfl
    · have e1 : (((n + 1 : Nat) : Int) == x) = false := by simp; omega
      have e2 : (if x ≤ ((n + 1 : Nat) : Int) then 1 else 0) = (if x ≤ (n : Int) then 1 else 0 : Nat) := by
        by_cases h : x ≤ (n : Int)
        · rw [if_pos h, if_pos (by omega)]
        · rw [if_neg h, if_neg (by omega)]
      rw [e1, Bool.false_or, hp, e2]
      cases hi : inB N ((n + 1 : Nat) : Int)
      · rw [if_neg (by simp), if_neg (by simp), ih]; omega
      · rw [if_pos rfl, if_pos rfl, List.length_append, ih]; simp; omega
theorem mkN_vw {R : Nat} {N C : List Int} (hv : Vw R N C) {x : Int} (hx : inB N x = false) (h1 : 1 ≤ x) (h2 : x ≤ R) (hl : N.length < 12) : Vw R (mkN N x R) C := by
  refine ⟨hv.r1, hv.r2, ?_, hv.c4, mkN_asc N x R R (Nat.le_refl _), hv.ascC⟩
  rw [mkN_len hv.ascN (Int.le_refl 0) hx h1, np_all N 0 R hv.ascN, if_pos h2]
  omega
theorem gv_more {R : Nat} {N N' C : List Int} (hv : Vw R N C) (hv' : Vw R N' C) (hs : ∀ k : Int, inB N k = true → inB N' k = true) (p : Nat) : ∀ c, gv R N p c ≤ gv R N' p c
  | 0 => by rw [gv_zero, gv_zero]; exact Nat.le_refl _
  | c + 1 => by
    have ih := gv_more hv hv' hs p c
    rw [gv_one hv, gv_one hv']
    cases h : inB N ((((p + c) % R : Nat) : Int) + 1)
    · rw [if_neg (by simp)]; omega
    · rw [hs _ h, if_pos rfl]; omega
theorem chp_more {R : Nat} {N N' C : List Int} (hv : Vw R N C) (hv' : Vw R N' C) (hN : N ≠ []) (hN' : N' ≠ []) (hC : C ≠ []) (hg : ∀ p c, gv R N p c ≤ gv R N' p c) : ∀ (m n : Nat), n < m → chp R N' C n ≤ chp R N C n
  | 0, n, h => by omega
  | m + 1, 0, _ => by rw [chp_zero, chp_zero]; exact Int.le_refl _
  | m + 1, n + 1, h => by
    obtain ⟨x, x1, x3, x4, x5⟩ := chp_at hv hN hC (n := n + 1) (by omega)
    have hf : fs R N x ≤ fs R N' x := by
      have := hg 0 x
      unfold gv at this
      rw [Nat.zero_add, fs_zero hv, fs_zero hv'] at this
      omega
    have h1 := chp_le hv' hN' hC (n := n + 1) (by omega) x1 x3 (by omega)
    have h2 := chp_mono hv' hN' hC (show n + 1 - fs R N' x ≤ n + 1 - fs R N x by omega)
    have ih := chp_more hv hv' hN hN' hC hg m (n + 1 - fs R N x) (by omega)
    rw [x5]
    omega
end Go.Proofs.Ytmkmnedojgigoaa
