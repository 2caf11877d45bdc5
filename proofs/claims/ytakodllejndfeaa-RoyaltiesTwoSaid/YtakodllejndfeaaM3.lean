import Derived.Test.YtakodllejndfeaaT19
/-! As often again: what is so with all plays k times as great. -/
namespace Go.Proofs.Ytakodllejndfeaa
set_option linter.unusedSimpArgs false
set_option linter.unusedVariables false
open Go Go.RowKit

theorem flV_scale {P A k : Int} {E E' : List Int} (hk : 0 < k) {i : Nat} (he : E'.getD i 0 = k * E.getD i 0) : flV P E' (k * A) (i : Nat) = flV P E A (i : Nat) := by
  unfold flV
  rw [Int.toNat_natCast, he, show P * (k * E.getD i 0) = k * (P * E.getD i 0) by rw [← Int.mul_assoc, ← Int.mul_assoc, Int.mul_comm P k], Int.mul_ediv_mul_of_pos _ _ hk]
theorem rsV_scale {P A k : Int} {E E' : List Int} (hk : 0 < k) {i : Nat} (he : E'.getD i 0 = k * E.getD i 0) : rsV P E' (k * A) (i : Nat) = k * rsV P E A (i : Nat) := by
  unfold rsV
  rw [Int.toNat_natCast, he, show P * (k * E.getD i 0) = k * (P * E.getD i 0) by rw [← Int.mul_assoc, ← Int.mul_assoc, Int.mul_comm P k], Int.mul_emod_mul_of_pos _ _ hk]
theorem mul_lt_iff {k x y : Int} (hk : 0 < k) : k * x < k * y ↔ x < y := ⟨fun h => Int.lt_of_mul_lt_mul_left h (by omega), fun h => Int.mul_lt_mul_of_pos_left h hk⟩
theorem mul_eq_iff {k x y : Int} (hk : 0 < k) : k * x = k * y ↔ x = y := ⟨fun h => Int.eq_of_mul_eq_mul_left (by omega) h, fun h => by rw [h]⟩
theorem shL_scale {P A k : Int} {E E' : List Int} {n : Nat} (hk : 0 < k) (he : ∀ i, i < n → E'.getD i 0 = k * E.getD i 0) : shL P E' (k * A) n = shL P E A n := by
  have hl : leftV P E' (k * A) n = leftV P E A n := by
    unfold leftV
    rw [sumR_congr (fun i hi => flV_scale hk (he i hi))]
  have hlt : ∀ i j : Nat, i < n → j < n → ltV P E' (k * A) (i : Nat) (j : Nat) = ltV P E A (i : Nat) (j : Nat) := fun i j hi hj => by
    rw [Bool.eq_iff_iff, ltV_iff, ltV_iff, rsV_scale hk (he i hi), rsV_scale hk (he j hj), mul_lt_iff hk, mul_eq_iff hk]
  have hr : ∀ i : Nat, i < n → rankV P E' (k * A) n (i : Nat) = rankV P E A n (i : Nat) := fun i hi => by
    unfold rankV
    refine List.countP_congr fun x hx => ?_
    simp only [List.mem_map, List.mem_range] at hx
    obtain ⟨j, hj, rfl⟩ := hx
    rw [hlt j i hj hi]
  unfold shL
  apply List.map_congr_left
  intro i hi
  have hi' := List.mem_range.1 hi
  unfold shV
  rw [flV_scale hk (he i hi'), hr i hi', hl]

/-- Sides with k times as many plays. -/
def mulS (k : Int) (S : List Sd) : List Sd := S.map fun s => ⟨s.pl * k, s.ps⟩
theorem mulS_len (k : Int) (S : List Sd) : (mulS k S).length = S.length := by simp [mulS]
theorem al_mul (k : Int) (S : List Sd) : alS (mulS k S) = k * alS S := by
  induction S with
  | nil => simp [mulS, alS]
  | cons s S ih =>
    simp only [mulS, alS, List.map_cons, List.sum_cons, List.map_map] at *
    rw [Int.mul_add, Int.mul_comm s.pl k]
    omega
theorem cl_mul (k : Int) (S : List Sd) (w : Int) : clS (mulS k S) w = k * clS S w := by
  induction S with
  | nil => simp [mulS, clS]
  | cons s S ih =>
    simp only [mulS, clS, List.map_cons, List.sum_cons, List.map_map] at *
    rw [Int.mul_add, show s.pl * k * pctOf s.ps w = k * (s.pl * pctOf s.ps w) by rw [Int.mul_comm s.pl k, Int.mul_assoc]]
    omega
theorem alone_mul (p k al : Int) (hk : 0 < k) (S : List Sd) : aloneS p (k * al) (mulS k S) = aloneS p al S := by
  induction S with
  | nil => simp [mulS, aloneS]
  | cons s S ih =>
    simp only [mulS, aloneS, List.map_cons, List.sum_cons, List.map_map] at *
    rw [ih]
    congr 1
    unfold moneyS
    simp only
    rw [show p * (s.pl * k) = k * (p * s.pl) by rw [Int.mul_comm s.pl k, ← Int.mul_assoc, ← Int.mul_assoc, Int.mul_comm p k], Int.mul_ediv_mul_of_pos _ _ hk]
/-- What is the same. -/
structure SameAns (p : Int) (S T : List Sd) (O : List Int) : Prop where
  ask : ∀ o, askE p T O o = askE p S O o
  sh : shR p T O = shR p S O
  lost : lostV p T O = lostV p S O
  exu : ∀ who, exU p T O who = exU p S O who
  exl : ∀ who, exL p T O who = exL p S O who
theorem SameAns.st {p : Int} {S T : List Sd} {O : List Int} (h : SameAns p S T O) (cm : Int → Int → Int) : stR cm p T O = stR cm p S O := by
  unfold stR; rw [h.ask, h.sh]
theorem same_mul {p k : Int} {S : List Sd} {O : List Int} (hk : 0 < k) (hv : vB p S O = true) (hv2 : vB p (mulS k S) O = true) : SameAns p S (mulS k S) O := by
  have hV := vB_ok hv
  have hV2 := vB_ok hv2
  have hask : ∀ o, askE p (mulS k S) O o = askE p S O o := fun o => by
    unfold askE
    rw [hv, hv2, al_mul]
    cases o
    · rfl
    · have : k * alS S = 0 ↔ alS S = 0 := ⟨fun h => by
        rcases Int.mul_eq_zero.1 h with h | h
        · omega
        · exact h, fun h => by rw [h, Int.mul_zero]⟩
      by_cases h : alS S = 0
      · rw [if_pos (this.2 h), if_pos h]
      · rw [if_neg (fun h2 => h (this.1 h2)), if_neg h]
  have hca : (100 * (k * alS S) : Int) = k * (100 * alS S) := by rw [← Int.mul_assoc, ← Int.mul_assoc, Int.mul_comm 100 k]
  have hex : ∀ who, askE p S O (hasB O who) = 0 → exN p (mulS k S) who = k.toNat * exN p S who ∧ exD (mulS k S) = k.toNat * exD S := fun who h0 => by
    obtain ⟨_, hw, _⟩ := askE_0 h0
    have h1 := clS_rng hV.sd who
    have h2 := VOk.al hV
    have h3 : 0 ≤ p * clS S who := Int.mul_nonneg hV.p0 h1.1
    unfold exN exD
    rw [cl_mul, al_mul, hca, show p * (k * clS S who) = k * (p * clS S who) by rw [← Int.mul_assoc, ← Int.mul_assoc, Int.mul_comm p k]]
    obtain ⟨kk, rfl⟩ := Int.eq_ofNat_of_zero_le (show 0 ≤ k by omega)
    obtain ⟨x, hx⟩ := Int.eq_ofNat_of_zero_le h3
    obtain ⟨y, hy⟩ := Int.eq_ofNat_of_zero_le (show 0 ≤ 100 * alS S by omega)
    rw [hx, hy]
    constructor
    · rw [show ((kk : Int) * (x : Int)) = ((kk * x : Nat) : Int) by simp, Int.toNat_natCast, Int.toNat_natCast, Int.toNat_natCast]
    · rw [show ((kk : Int) * (y : Int)) = ((kk * y : Nat) : Int) by simp, Int.toNat_natCast, Int.toNat_natCast, Int.toNat_natCast]
  have hkn : 0 < k.toNat := by omega
  refine ⟨hask, ?_, ?_, fun who => ?_, fun who => ?_⟩
  · unfold shR
    rw [hask, al_mul, hca]
    by_cases h : askE p S O true = 0
    · rw [if_pos h, if_pos h]
      exact shL_scale hk (fun i hi => by rw [clL_getD _ hi, clL_getD _ hi, cl_mul])
    · rw [if_neg h, if_neg h]
  · unfold lostV
    rw [hask, al_mul, alone_mul p k _ hk]
  · unfold exU
    rw [hask]
    by_cases h : askE p S O (hasB O who) = 0
    · rw [if_pos h, if_pos h, (hex who h).1, (hex who h).2, Nat.gcd_mul_left, Nat.mul_div_mul_left _ _ hkn]
    · rw [if_neg h, if_neg h]
  · unfold exL
    rw [hask]
    by_cases h : askE p S O (hasB O who) = 0
    · rw [if_pos h, if_pos h, (hex who h).1, (hex who h).2, Nat.gcd_mul_left, Nat.mul_div_mul_left _ _ hkn]
    · rw [if_neg h, if_neg h]
theorem Ry.inn {w : World} {aS aO : Option Addr} {p : Int} {S : List Sd} {O : List Int} (h : Ry w aS aO p S O) : RyIn w aS aO p S O :=
  ⟨by have := h.sd.1; omega, fun _ i hi => by
    obtain ⟨b, off, e, hb, a', c, h1, h2, h3, h4, h5⟩ := h.sd.2 i hi
    exact ⟨b, off, e, hb, a', c, h1, h2, by omega, fun _ => h3, h5⟩, h.ow, h.pr⟩
/-- The plays of a side of a copy are set. -/
theorem CpM.setPl {V : World} {B lo : Nat} {a b : Option Addr} {c d : Nat} {S : List Sd} {O : List Int} (h : CpM V B lo a b c d S O) {i : Nat} {s : Sd} (hi : S[i]? = some s) {x : Int} (hx : i64R x) :
    ∃ g, a = some ⟨g, 0, none⟩ ∧ B ≤ g ∧ V.cell? ⟨g, i * 2, none⟩ = some (.int .i64 s.pl) ∧ V.frozen? ⟨g, i * 2, none⟩ = false ∧ g < V.heap.size ∧ CpM (V.setCell ⟨g, i * 2, none⟩ (.int .i64 x)) B lo a b c d (S.set i ⟨x, s.ps⟩) O := by
  obtain ⟨cs, h1, h2, h3⟩ := h.ex
  have hlt : i < S.length := (List.getElem?_eq_some_iff.1 hi).1
  obtain ⟨g, cap, e⟩ := Go.Joins.ownsRow_form h1 (by omega)
  simp only [Value.slice.injEq] at e
  obtain ⟨rfl, _, rfl⟩ := e
  have hc := (h2 i s hi).1
  have hg := gsetR V ⟨g, i * 2, none⟩ (.int .i64 x)
  have hown : (Value.slice (some ⟨g, 0, none⟩) S.length c).ownBlock = some g := rfl
  refine ⟨g, rfl, (h1.lt g rfl).1, own_cell h1 _ hc, own_free h1 _, (h1.lt g rfl).2, ⟨cs.set (i * 2) (.int .i64 x), ?_, ?_, ?_⟩⟩
  · rw [List.length_set]
    exact own_set h1 (by omega)
  · rw [List.length_set]
    have h4 := h2.gro hg (fun k hk => .inl (by rw [hown]; exact hk)) (.inl rfl)
    intro j t hj
    have hl : cs.length = S.length * 2 := h1.1
    rw [List.getElem?_set] at hj
    by_cases e : i = j
    · subst e
      rw [if_pos rfl, if_pos hlt] at hj
      cases hj
      obtain ⟨_, a', c', q1, q2, q3, q4, q5⟩ := h4 i s hi
      exact ⟨by rw [List.getElem?_set, if_pos rfl, if_pos (by omega)], a', c', by rw [List.getElem?_set, if_neg (by omega)]; exact q1, q2, q3, hx, q5⟩
    · rw [if_neg e] at hj
      have := h4 j t hj
      rw [List.getElem?_set, if_neg (by omega), List.getElem?_set, if_neg (by omega)]
      exact this
  · rw [List.length_set]
    exact h3.gro hg (fun k hk => .inl (by rw [hown]; exact hk)) (.inl rfl)
end Go.Proofs.Ytakodllejndfeaa
