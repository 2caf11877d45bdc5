import Derived.Test.YtmkmnedojgigoaaA1
namespace Go.Proofs.Ytmkmnedojgigoaa

/-! PLAIN: notches passed, plays from the start. -/

/-- How many notches stand up to p. -/
def np (N : List Int) (p : Int) : Nat := (N.filter (fun x => decide (x ≤ p))).length

theorem np_le (N : List Int) (p : Int) : np N p ≤ N.length := List.length_filter_le _ _

theorem asc_cons {b hi x : Int} {xs : List Int} : asc b hi (x :: xs) = true ↔ (b + 1 ≤ x ∧ x ≤ hi) ∧ asc x hi xs = true := by
  simp only [asc, Bool.and_eq_true, inR_iff]

theorem np_zero : ∀ (N : List Int) (b hi p : Int), asc b hi N = true → p ≤ b → np N p = 0
  | [], _, _, _, _, _ => rfl
  | x :: xs, b, hi, p, h, hp => by
    have h' := asc_cons.1 h
    have := np_zero xs x hi p h'.2 (by omega)
    unfold np at *
    rw [List.filter_cons, if_neg (by simp; omega)]
    exact this

theorem np_cons (x : Int) (xs : List Int) (p : Int) : np (x :: xs) p = (if x ≤ p then 1 else 0) + np xs p := by
  unfold np
  rw [List.filter_cons]
  by_cases h : x ≤ p
  · simp [h]; omega
  · simp [h]

theorem np_step : ∀ (N : List Int) (b hi k : Int), asc b hi N = true → b ≤ k - 1 →
    (N[np N (k - 1)]? = some k → np N k = np N (k - 1) + 1) ∧ (N[np N (k - 1)]? ≠ some k → np N k = np N (k - 1))
  | [], _, _, _, _, _ => by simp [np]
  | x :: xs, b, hi, k, h, hb => by
    have h' := asc_cons.1 h
    by_cases hx : x ≤ k - 1
    · have ih := np_step xs x hi k h'.2 hx
      rw [np_cons, np_cons, if_pos hx, if_pos (by omega)]
      rw [show 1 + np xs (k - 1) = np xs (k - 1) + 1 by omega, List.getElem?_cons_succ]
      exact ⟨fun g => by rw [ih.1 g]; omega, fun g => by rw [ih.2 g]; omega⟩
    · have z : np xs (k - 1) = 0 := np_zero xs x hi _ h'.2 (by omega)
      rw [np_cons, np_cons, if_neg hx, z]
      simp only [Nat.add_zero, List.getElem?_cons_zero, Option.some.injEq]
      refine ⟨fun g => ?_, fun g => ?_⟩
      · rw [np_zero xs x hi k h'.2 (by omega), if_pos (show x ≤ k by omega)]
      · have g' : x ≠ k := by simpa using g
        rw [np_zero xs x hi k h'.2 (by omega), if_neg (show ¬ x ≤ k by omega)]

/-- The list of what has passed at each place. -/
def npl (R : Nat) (N : List Int) : List Int := (List.range R).map fun (p : Nat) => ((np N ((p : Nat) : Int) : Nat) : Int)
theorem npl_len (R : Nat) (N : List Int) : (npl R N).length = R := by simp [npl]
theorem npl_at (R : Nat) (N : List Int) (p : Nat) (h : p < R) : (npl R N)[p]? = some (np N (p : Int) : Int) := by simp [npl, h]
theorem npl_mem {R : Nat} {N : List Int} {x : Int} (h : x ∈ npl R N) : 0 ≤ x ∧ x ≤ N.length := by
  unfold npl at h
  rw [List.mem_map] at h
  obtain ⟨p, _, rfl⟩ := h
  have := np_le N (p : Int)
  omega

/-- Plays of so many cents from the place 0 on. -/
def fs (R : Nat) (N : List Int) (c : Nat) : Nat := c / R * N.length + np N ((c % R : Nat) : Int)

/-- The worth of a kind. -/
def cw (C : List Int) (k : Nat) : Nat := (C.getD k 0).toNat

theorem asc_mem : ∀ (xs : List Int) (b hi : Int), asc b hi xs = true → ∀ x ∈ xs, b + 1 ≤ x ∧ x ≤ hi
  | [], _, _, _, x, hx => by simp at hx
  | y :: ys, b, hi, h, x, hx => by
    have h' := asc_cons.1 h
    rcases List.mem_cons.1 hx with rfl | hx
    · exact h'.1
    · have := asc_mem ys y hi h'.2 x hx; omega

structure Vw (R : Nat) (N C : List Int) : Prop where
  r1 : 1 ≤ R
  r2 : R ≤ 200
  n12 : N.length ≤ 12
  c4 : C.length ≤ 4
  ascN : asc 0 R N = true
  ascC : asc 0 100 C = true

theorem Vw.of_valid {r : Int} {N C : List Int} (h : validB r N C = true) : ∃ R : Nat, r = R ∧ Vw R N C := by
  simp only [validB, Bool.and_eq_true, inR_iff, decide_eq_true_eq] at h
  obtain ⟨⟨⟨⟨h1, h2⟩, h3⟩, h4⟩, h5⟩ := h
  obtain ⟨R, rfl⟩ : ∃ R : Nat, r = R := ⟨r.toNat, by omega⟩
  exact ⟨R, rfl, by omega, by omega, by omega, by omega, h3, h5⟩

theorem Vw.valid {R : Nat} {N C : List Int} (h : Vw R N C) : validB (R : Int) N C = true := by
  obtain ⟨h1, h2, h3, h4, h5, h6⟩ := h
  simp only [validB, Bool.and_eq_true, inR_iff, decide_eq_true_eq]
  exact ⟨⟨⟨⟨by omega, by omega⟩, h5⟩, by omega⟩, h6⟩

theorem Vw.coin {R : Nat} {N C : List Int} (h : Vw R N C) {k : Nat} (hk : k < C.length) : C[k]? = some (cw C k : Int) ∧ 1 ≤ cw C k ∧ cw C k ≤ 100 := by
  have hm := asc_mem C 0 100 h.ascC C[k] (List.getElem_mem hk)
  have e : C.getD k 0 = C[k] := by simp [List.getD, hk]
  unfold cw
  rw [e]
  exact ⟨by rw [List.getElem?_eq_getElem hk]; congr 1; omega, by omega, by omega⟩

theorem fs_le {R : Nat} {N C : List Int} (h : Vw R N C) (c : Nat) : fs R N c ≤ 12 * c + 12 := by
  unfold fs
  have h1 := np_le N ((c % R : Nat) : Int)
  have h2 := h.n12
  have h3 : c / R ≤ c := Nat.div_le_self _ _
  have h4 : c / R * N.length ≤ c * 12 := Nat.mul_le_mul h3 h2
  omega

theorem np_mono (N : List Int) {p q : Int} (h : p ≤ q) : np N p ≤ np N q := by
  induction N with
  | nil => simp [np]
  | cons x xs ih =>
    rw [np_cons, np_cons]
    split <;> split <;> omega

theorem fs_mono {R : Nat} {N C : List Int} (h : Vw R N C) {a b : Nat} (hab : a ≤ b) : fs R N a ≤ fs R N b := by
  unfold fs
  have r1 := h.r1
  have h0 := np_le N ((a % R : Nat) : Int)
  by_cases e : a / R = b / R
  · rw [e]
    have : a % R ≤ b % R := by
      have h1 := Nat.div_add_mod a R
      have h2 := Nat.div_add_mod b R
      rw [e] at h1
      omega
    have := np_mono N (p := ((a % R : Nat) : Int)) (q := ((b % R : Nat) : Int)) (by omega)
    omega
  · have h1 : a / R ≤ b / R := Nat.div_le_div_right hab
    have h2 : a / R + 1 ≤ b / R := by omega
    have h3 : (a / R + 1) * N.length ≤ b / R * N.length := Nat.mul_le_mul_right _ h2
    rw [Nat.add_mul] at h3
    omega

def rowl (R k : Nat) (N : List Int) : List Int := npl k N ++ List.replicate (R - k) (0 : Int)
theorem rowl_len (R k : Nat) (N : List Int) (h : k ≤ R) : (rowl R k N).length = R := by simp [rowl, npl_len]; omega
theorem rowl_at (R k : Nat) (N : List Int) (h : k < R) : (rowl R k N)[k]? = some 0 := by
  unfold rowl
  rw [List.getElem?_append_right (by rw [npl_len]; omega), npl_len, Nat.sub_self, List.getElem?_replicate, if_pos (by omega)]
theorem rowl_step (R k : Nat) (N : List Int) (h : k < R) : (rowl R k N).set k (np N (k : Int) : Int) = rowl R (k + 1) N := by
  unfold rowl
  rw [List.set_append_right _ _ (by rw [npl_len]; omega), npl_len, Nat.sub_self, show R - k = (R - (k + 1)) + 1 by omega, List.replicate_succ, List.set_cons_zero]
  simp [npl, List.range_succ]
theorem rowl_zero (R : Nat) (N : List Int) : rowl R 0 N = List.replicate R 0 := by simp [rowl, npl]
theorem rowl_end (R : Nat) (N : List Int) : rowl R R N = npl R N := by simp [rowl]

end Go.Proofs.Ytmkmnedojgigoaa
