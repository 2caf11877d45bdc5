import Derived.Test.YtmkmnedojgigoaaP12
namespace Go.Proofs.Ytmkmnedojgigoaa

/-- Whether each number of cents can be the worth of coins, as 1 or 0. -/
def canL (C : List Int) (n : Nat) : List Int := (tab C n).map (fun b => if b then 1 else 0)
theorem canL_len (C : List Int) (n : Nat) : (canL C n).length = n + 1 := by simp [canL, tab_len]
theorem canL_at (C : List Int) {n i : Nat} (h : i ≤ n) : (canL C n)[i]? = some (if (tab C n).getD i false then 1 else 0) := by
  have hl := tab_len C n
  have hi : i < (tab C n).length := by omega
  simp [canL, List.getD, hi]
theorem canL_next (C : List Int) (n : Nat) : canL C (n + 1) = canL C n ++ [if C.any (one (tab C n) (n + 1)) then 1 else 0] := by simp [canL, tab]
theorem canL_rng (C : List Int) (n : Nat) (x : Int) (h : x ∈ canL C n) : 0 ≤ x ∧ x ≤ 1 := by
  simp only [canL, List.mem_map] at h
  obtain ⟨b, _, rfl⟩ := h
  cases b <;> simp

/-- The least cents that buy so many plays without a selection between, as far as they are at most c. -/
def onel (R : Nat) (N C : List Int) (P : Nat) : Nat → List Int
  | 0 => [0]
  | c + 1 => if (tab C (c + 1)).getD (c + 1) false then onel R N C P c ++ List.replicate (min (fs R N (c + 1)) P + 1 - (onel R N C P c).length) ((c + 1 : Nat) : Int) else onel R N C P c
section
variable {R : Nat} {N C : List Int} {P : Nat}
theorem onel_len : ∀ c, 1 ≤ (onel R N C P c).length ∧ (onel R N C P c).length ≤ P + 1
  | 0 => by simp [onel]
  | c + 1 => by
    have := onel_len c
    unfold onel
    split
    · rw [List.length_append, List.length_replicate]; omega
    · exact this
theorem onel_zero : ∀ c, (onel R N C P c)[0]? = some 0
  | 0 => by simp [onel]
  | c + 1 => by
    have h1 := onel_zero c
    have h2 := onel_len (R := R) (N := N) (C := C) (P := P) c
    unfold onel
    split
    · rw [List.getElem?_append_left (by omega), h1]
    · exact h1
theorem onel_facts (hv : Vw R N C) : ∀ c : Nat,
    (∀ k, 1 ≤ k → k < (onel R N C P c).length → ∃ x : Nat, (onel R N C P c)[k]? = some (x : Int) ∧ 1 ≤ x ∧ x ≤ c ∧ Rch C x ∧ k ≤ fs R N x ∧ ∀ y : Nat, 1 ≤ y → Rch C y → k ≤ fs R N y → x ≤ y) ∧
      ∀ y : Nat, 1 ≤ y → y ≤ c → Rch C y → min (fs R N y) P < (onel R N C P c).length
  | 0 => ⟨fun k h1 h2 => by simp [onel] at h2; omega, fun y h1 h2 => by omega⟩
  | c + 1 => by
    obtain ⟨i1, i2⟩ := onel_facts hv c
    have hl := onel_len (R := R) (N := N) (C := C) (P := P) c
    by_cases hr : (tab C (c + 1)).getD (c + 1) false = true
    · have e : onel R N C P (c + 1) = onel R N C P c ++ List.replicate (min (fs R N (c + 1)) P + 1 - (onel R N C P c).length) ((c + 1 : Nat) : Int) := by rw [onel, if_pos hr]
      generalize onel R N C P (c + 1) = l at *
      subst e
      refine ⟨fun k h1 h2 => ?_, fun y h1 h2 h3 => ?_⟩
      · by_cases hk : k < (onel R N C P c).length
        · obtain ⟨x, x1, x2, x3, x4, x5, x6⟩ := i1 k h1 hk
          exact ⟨x, by rw [List.getElem?_append_left hk, x1], x2, by omega, x4, x5, x6⟩
        · rw [List.length_append, List.length_replicate] at h2
          refine ⟨c + 1, ?_, by omega, Nat.le_refl _, hr, by omega, fun y y1 y2 y3 => ?_⟩
          · rw [List.getElem?_append_right (by omega), List.getElem?_replicate, if_pos (by omega)]
          · by_cases hy : y ≤ c
            · have := i2 y y1 hy y2; omega
            · omega
      · rw [List.length_append, List.length_replicate]
        by_cases hy : y ≤ c
        · have := i2 y h1 hy h3; omega
        · obtain rfl : y = c + 1 := by omega
          omega
    · have e : onel R N C P (c + 1) = onel R N C P c := by rw [onel, if_neg hr]
      rw [e]
      refine ⟨fun k h1 h2 => ?_, fun y h1 h2 h3 => ?_⟩
      · obtain ⟨x, x1, x2, x3, x4, x5, x6⟩ := i1 k h1 h2
        exact ⟨x, x1, x2, by omega, x4, x5, x6⟩
      · by_cases hy : y ≤ c
        · exact i2 y h1 hy h3
        · obtain rfl : y = c + 1 := by omega
          exact absurd h3 hr
theorem onel_rng (hv : Vw R N C) (c : Nat) (x : Int) (h : x ∈ onel R N C P c) : 0 ≤ x ∧ x ≤ c := by
  obtain ⟨k, hk⟩ := List.mem_iff_getElem?.1 h
  rcases Nat.eq_zero_or_pos k with rfl | hk0
  · rw [onel_zero] at hk
    simp only [Option.some.injEq] at hk; omega
  · have hkl : k < (onel R N C P c).length := (List.getElem?_eq_some_iff.1 hk).1
    obtain ⟨y, y1, y2, y3, _⟩ := (onel_facts (P := P) hv c).1 k hk0 hkl
    rw [y1] at hk
    simp only [Option.some.injEq] at hk; omega
/-- At the end the list is whole. -/
theorem onel_full (hv : Vw R N C) (hN : N ≠ []) (hC : C ≠ []) {c : Nat} (hc : P * R + cw C 0 ≤ c + 1) (hP : 1 ≤ P) : (onel R N C P c).length = P + 1 := by
  obtain ⟨x, x1, x2, x3, x4⟩ := much hv hN hC P
  have hl := onel_len (R := R) (N := N) (C := C) (P := P) c
  have r1 := hv.r1
  have h1 : 1 * 1 ≤ P * R := Nat.mul_le_mul hP r1
  have := (onel_facts (P := P) hv c).2 x (by omega) (by omega) x3
  omega
theorem onel_small (hv : Vw R N C) {k : Nat} {c : Nat} (hk : k ≤ P) (hf : (onel R N C P c).length = P + 1) : ∃ x : Nat, (onel R N C P c)[k]? = some (x : Int) ∧ x ≤ c := by
  rcases Nat.eq_zero_or_pos k with rfl | hk0
  · exact ⟨0, onel_zero c, Nat.zero_le _⟩
  · obtain ⟨x, x1, _, x3, _⟩ := (onel_facts (P := P) hv c).1 k hk0 (by omega)
    exact ⟨x, x1, x3⟩

/-- The least over the first parts. -/
def lsf (f : Nat → Int) (o : Nat → Int) (n : Nat) : Nat → Int
  | 0 => o n
  | 1 => o n
  | k + 2 => min (lsf f o n (k + 1)) (o (k + 1) + f (n - (k + 1)))
theorem lsf_le (f o : Nat → Int) (n : Nat) : ∀ m, 1 ≤ m → lsf f o n m ≤ o n ∧ ∀ k, 1 ≤ k → k < m → lsf f o n m ≤ o k + f (n - k)
  | 0, h => by omega
  | 1, _ => ⟨Int.le_refl _, fun k h1 h2 => by omega⟩
  | m + 2, _ => by
    obtain ⟨i1, i2⟩ := lsf_le f o n (m + 1) (by omega)
    unfold lsf
    refine ⟨by omega, fun k h1 h2 => ?_⟩
    by_cases e : k = m + 1
    · subst e; omega
    · have := i2 k h1 (by omega); omega
theorem lsf_is (f o : Nat → Int) (n : Nat) : ∀ m, 1 ≤ m → lsf f o n m = o n ∨ ∃ k, 1 ≤ k ∧ k < m ∧ lsf f o n m = o k + f (n - k)
  | 0, h => by omega
  | 1, _ => .inl rfl
  | m + 2, _ => by
    rcases lsf_is f o n (m + 1) (by omega) with i | ⟨k, k1, k2, k3⟩
    · by_cases h : lsf f o n (m + 1) ≤ o (m + 1) + f (n - (m + 1))
      · left; unfold lsf; omega
      · right; exact ⟨m + 1, by omega, by omega, by unfold lsf; omega⟩
    · by_cases h : lsf f o n (m + 1) ≤ o (m + 1) + f (n - (m + 1))
      · right; exact ⟨k, k1, by omega, by unfold lsf; omega⟩
      · right; exact ⟨m + 1, by omega, by omega, by unfold lsf; omega⟩
theorem lsf_eq (hv : Vw R N C) (hN : N ≠ []) (hC : C ≠ []) {c : Nat} (hf : (onel R N C P c).length = P + 1) {n : Nat} (h1 : 1 ≤ n) (h2 : n ≤ P) :
    lsf (chp R N C) (fun k => (onel R N C P c).getD k 0) n n = chp R N C n := by
  have hz := chp_zero (R := R) (N := N) (C := C)
  have hon : ∀ k, 1 ≤ k → k ≤ P → ∃ x : Nat, (onel R N C P c).getD k 0 = (x : Int) ∧ 1 ≤ x ∧ Rch C x ∧ k ≤ fs R N x ∧ ∀ y : Nat, 1 ≤ y → Rch C y → k ≤ fs R N y → x ≤ y := fun k k1 k2 => by
    obtain ⟨x, x1, x2, _, x4, x5, x6⟩ := (onel_facts (P := P) hv c).1 k k1 (by omega)
    exact ⟨x, by simp [List.getD, x1], x2, x4, x5, x6⟩
  have hle : ∀ k, 1 ≤ k → k ≤ n → chp R N C n ≤ (onel R N C P c).getD k 0 + chp R N C (n - k) := fun k k1 k2 => by
    obtain ⟨x, x0, x1, x2, x3, _⟩ := hon k k1 (by omega)
    have i1 := chp_le hv hN hC (n := n) h1 x1 x2 (by omega)
    have i2 := chp_mono hv hN hC (show n - fs R N x ≤ n - k by omega)
    rw [x0]; omega
  refine Int.le_antisymm ?_ ?_
  · obtain ⟨x, x1, x2, x3, x4⟩ := chp_at hv hN hC h1
    obtain ⟨i1, i2⟩ := lsf_le (chp R N C) (fun k => (onel R N C P c).getD k 0) n n h1
    by_cases e : fs R N x < n
    · have := i2 (fs R N x) (by omega) e
      obtain ⟨y, y0, _, _, _, y5⟩ := hon (fs R N x) (by omega) (by omega)
      have := y5 x x1 x2 (Nat.le_refl _)
      omega
    · obtain ⟨y, y0, _, _, _, y5⟩ := hon n h1 h2
      have := y5 x x1 x2 (by omega)
      rw [show n - fs R N x = 0 by omega, hz] at x4
      omega
  · rcases lsf_is (chp R N C) (fun k => (onel R N C P c).getD k 0) n n h1 with i | ⟨k, k1, k2, k3⟩
    · have := hle n h1 (Nat.le_refl _)
      rw [Nat.sub_self, hz] at this
      rw [i]; omega
    · rw [k3]; exact hle k k1 (by omega)
end
/-- The least costs up to a number. -/
def bestl (R : Nat) (N C : List Int) (n : Nat) : List Int := (List.range (n + 1)).map (chp R N C)
theorem bestl_len (R : Nat) (N C : List Int) (n : Nat) : (bestl R N C n).length = n + 1 := by simp [bestl]
theorem bestl_at (R : Nat) (N C : List Int) {n i : Nat} (h : i ≤ n) : (bestl R N C n)[i]? = some (chp R N C i) := by
  simp [bestl, show i < n + 1 by omega]
theorem bestl_next (R : Nat) (N C : List Int) (n : Nat) : bestl R N C (n + 1) = bestl R N C n ++ [chp R N C (n + 1)] := by
  simp [bestl, List.range_succ]
theorem bestl_zero (R : Nat) (N C : List Int) : bestl R N C 0 = [0] := by simp [bestl, chp_zero]
end Go.Proofs.Ytmkmnedojgigoaa
