import Derived.Test.YtakodllejndfeaaWE
/-! Sides in another order, and a side that is cut in two. -/
namespace Go.Proofs.Ytakodllejndfeaa
set_option linter.unusedSimpArgs false
set_option linter.unusedVariables false
set_option linter.unusedSimpArgs false
set_option linter.unusedVariables false

/-- The sides from another one on. -/
def rotL (S : List Sd) (b : Nat) : List Sd := S.drop (b % S.length) ++ S.take (b % S.length)
theorem rot_len (S : List Sd) (b : Nat) : (rotL S b).length = S.length := by
  unfold rotL
  rw [List.length_append, List.length_drop, List.length_take]
  rcases Nat.eq_zero_or_pos S.length with h | h
  · rw [h]; simp
  · have := Nat.mod_lt b h; omega
theorem rot_at (S : List Sd) (b : Nat) {i : Nat} (hi : i < S.length) : (rotL S b)[i]? = S[(i + b) % S.length]? := by
  unfold rotL
  have hk := Nat.mod_lt b (show 0 < S.length by omega)
  have e : (i + b) % S.length = (i + b % S.length) % S.length := by rw [Nat.add_mod, Nat.mod_eq_of_lt hi, Nat.add_mod i (b % S.length), Nat.mod_eq_of_lt hi, Nat.mod_mod]
  rw [e]
  generalize b % S.length = k at *
  by_cases h : i < S.length - k
  · rw [List.getElem?_append_left (by rw [List.length_drop]; exact h), List.getElem?_drop, Nat.mod_eq_of_lt (by omega), Nat.add_comm]
  · rw [List.getElem?_append_right (by rw [List.length_drop]; omega), List.length_drop, List.getElem?_take, if_pos (by omega)]
    congr 1
    have : i + k = (i + k - S.length) + S.length := by omega
    rw [this, Nat.add_mod_right, Nat.mod_eq_of_lt (by omega)]
    omega
theorem rot_sum (f : Sd → Int) (S : List Sd) (b : Nat) : ((rotL S b).map f).sum = (S.map f).sum := by
  unfold rotL
  rw [List.map_append, List.sum_append, Int.add_comm, ← List.sum_append, ← List.map_append, List.take_append_drop]
theorem rot_all (q : Sd → Bool) (S : List Sd) (b : Nat) (h : S.all q = true) : (rotL S b).all q = true := by
  unfold rotL
  rw [List.all_eq_true] at *
  intro x hx
  rcases List.mem_append.1 hx with h1 | h1
  · exact h x (List.mem_of_mem_drop h1)
  · exact h x (List.mem_of_mem_take h1)
theorem rot_cl (S : List Sd) (b : Nat) (w : Int) : clS (rotL S b) w = clS S w := rot_sum _ S b
theorem rot_al (S : List Sd) (b : Nat) : alS (rotL S b) = alS S := rot_sum _ S b
theorem rot_alone (p al : Int) (S : List Sd) (b : Nat) : aloneS p al (rotL S b) = aloneS p al S := rot_sum _ S b
theorem rot_vB {p : Int} {S : List Sd} {O : List Int} (h : vB p S O = true) (b : Nat) : vB p (rotL S b) O = true := by
  unfold vB at *
  simp only [Bool.and_eq_true] at h ⊢
  obtain ⟨⟨⟨⟨h1, h2⟩, h3⟩, h4⟩, h5⟩ := h
  exact ⟨⟨⟨⟨h1, by rw [rot_len]; exact h2⟩, h3⟩, rot_all _ S b h4⟩, h5⟩

/-- A side of which so many plays are cut off. -/
def cutL (S : List Sd) (i : Nat) (s : Sd) (off : Int) : List Sd := S.set i ⟨s.pl + -off, s.ps⟩ ++ [⟨off, s.ps⟩]
theorem cut_len (S : List Sd) (i : Nat) (s : Sd) (off : Int) : (cutL S i s off).length = S.length + 1 := by simp [cutL]
theorem cut_cl {S : List Sd} {i : Nat} {s : Sd} (h : S[i]? = some s) (off w : Int) : clS (cutL S i s off) w = clS S w := by
  unfold cutL
  rw [clS_snoc, cl_set h, Int.neg_mul]; simp only; omega
theorem cut_al {S : List Sd} {i : Nat} {s : Sd} (h : S[i]? = some s) (off : Int) : alS (cutL S i s off) = alS S := by
  unfold cutL
  rw [alS_snoc, al_set h]; simp only; omega
theorem all_set {q : Sd → Bool} : ∀ {S : List Sd} {i : Nat} {t : Sd}, S.all q = true → q t = true → (S.set i t).all q = true
  | [], i, t, _, _ => by simp
  | x :: S, 0, t, h, ht => by
    simp only [List.set_cons_zero, List.all_cons, Bool.and_eq_true] at h ⊢
    exact ⟨ht, h.2⟩
  | x :: S, i + 1, t, h, ht => by
    simp only [List.set_cons_succ, List.all_cons, Bool.and_eq_true] at h ⊢
    exact ⟨h.1, all_set h.2 ht⟩
theorem side_pl {n : Nat} {s : Sd} (h : sideB n s = true) {x : Int} (h0 : 0 ≤ x) (h9 : x ≤ 9999) : sideB n ⟨x, s.ps⟩ = true := by
  unfold sideB at *
  simp only [Bool.and_eq_true] at h ⊢
  exact ⟨h.1, inI_iff.2 ⟨h0, h9⟩⟩
theorem cut_vB {p : Int} {S : List Sd} {O : List Int} (h : vB p S O = true) {i : Nat} {s : Sd} (hi : S[i]? = some s) (hm : S.length < 6) {off : Int} (h0 : 0 ≤ off) (h9 : off ≤ s.pl) : vB p (cutL S i s off) O = true := by
  have hs := (vB_ok h).sd s (List.mem_of_getElem? hi)
  have hpl := hs.pl
  unfold vB at *
  simp only [Bool.and_eq_true] at h ⊢
  obtain ⟨⟨⟨⟨h1, h2⟩, h3⟩, h4⟩, h5⟩ := h
  have hsb : sideB O.length s = true := List.all_eq_true.1 h4 s (List.mem_of_getElem? hi)
  refine ⟨⟨⟨⟨h1, decide_eq_true (by rw [cut_len]; omega)⟩, h3⟩, ?_⟩, h5⟩
  unfold cutL
  rw [List.all_append, Bool.and_eq_true]
  refine ⟨all_set h4 (side_pl hsb (by omega) (by omega)), ?_⟩
  simp only [List.all_cons, List.all_nil, Bool.and_true]
  exact side_pl hsb h0 (by omega)
theorem div_two {a b c d : Int} (hd : 0 < d) (h : a + b ≤ c) : a / d + b / d ≤ c / d := by
  rw [Int.le_ediv_iff_mul_le hd, Int.add_mul]
  have h1 := Int.ediv_mul_le a (show d ≠ 0 by omega)
  have h2 := Int.ediv_mul_le b (show d ≠ 0 by omega)
  omega
theorem alone_two {m1 m2 m : Int} (h : m1 + m2 ≤ m) : ∀ {ps : List (Int × Int)}, (∀ q ∈ ps, 1 ≤ q.2 ∧ q.2 ≤ 100) → aloneP m1 ps + aloneP m2 ps ≤ aloneP m ps
  | [], _ => by simp [aloneP]
  | q :: ps, hp => by
    have ih := alone_two h (ps := ps) (fun x hx => hp x (List.mem_cons_of_mem _ hx))
    have hq := hp q (List.mem_cons_self ..)
    have h1 : m1 * q.2 + m2 * q.2 ≤ m * q.2 := by rw [← Int.add_mul]; exact Int.mul_le_mul_of_nonneg_right h (by omega)
    have h2 := div_two (d := 100) (by omega) h1
    simp only [aloneP, List.map_cons, List.sum_cons] at *
    omega
theorem alone_set (p al : Int) : ∀ {S : List Sd} {i : Nat} {s : Sd} (_ : S[i]? = some s) (t : Sd), aloneS p al (S.set i t) = aloneS p al S - aloneP (moneyS p al s) s.ps + aloneP (moneyS p al t) t.ps
  | [], i, s, h, t => by simp at h
  | x :: S, 0, s, h, t => by
    simp at h; subst h
    simp only [List.set_cons_zero, aloneS, List.map_cons, List.sum_cons]; omega
  | x :: S, i + 1, s, h, t => by
    have := alone_set p al (S := S) (i := i) (s := s) (by simpa using h) t
    simp only [List.set_cons_succ, aloneS, List.map_cons, List.sum_cons] at *
    omega
/-- A side that is cut in two loses no less. -/
theorem alone_cut {p al : Int} (ha : 0 < al) {S : List Sd} {i : Nat} {s : Sd} (h : S[i]? = some s) (hp : ∀ q ∈ s.ps, 1 ≤ q.2 ∧ q.2 ≤ 100) (off : Int) : aloneS p al (cutL S i s off) ≤ aloneS p al S := by
  unfold cutL
  rw [aloneS_snoc, alone_set p al h]
  have hm : moneyS p al ⟨s.pl + -off, s.ps⟩ + moneyS p al ⟨off, s.ps⟩ ≤ moneyS p al s := by
    unfold moneyS
    refine div_two ha ?_
    simp only
    rw [← Int.mul_add]
    have : s.pl + -off + off = s.pl := by omega
    rw [this]; exact Int.le_refl _
  have := alone_two hm hp
  simp only at *
  omega
end Go.Proofs.Ytakodllejndfeaa
