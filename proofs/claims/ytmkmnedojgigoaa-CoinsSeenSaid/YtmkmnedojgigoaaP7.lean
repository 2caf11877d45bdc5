import Derived.Test.YtmkmnedojgigoaaP6
import Derived.Test.YtmkmnedojgigoaaG3
namespace Go.Proofs.Ytmkmnedojgigoaa

theorem gv_le_c {R : Nat} {N C : List Int} (hv : Vw R N C) (p : Nat) : ∀ c, gv R N p c ≤ c
  | 0 => by simp [gv]
  | c + 1 => by
    have h := gv_one hv p c
    have := gv_le_c hv p c
    split at h <;> omega
theorem gv_zero (R : Nat) (N : List Int) (p : Nat) : gv R N p 0 = 0 := by simp [gv]

/-- What coins of some kinds give, one after the other. -/
def whatS (R : Nat) (N C : List Int) : Nat → List Int → List (Int × Int)
  | _, [] => []
  | p, k :: ks => (k, (gv R N p (cw C k.toNat) : Nat)) :: whatS R N C ((p + cw C k.toNat) % R) ks
theorem whatS_len (R : Nat) (N C : List Int) : ∀ (ks : List Int) (p : Nat), (whatS R N C p ks).length = ks.length
  | [], _ => rfl
  | k :: ks, p => by simp [whatS, whatS_len R N C ks]
theorem whatS_snoc {R : Nat} {N C : List Int} (x : Int) : ∀ (ks : List Int) (p : Nat), p < R → whatS R N C p (ks ++ [x]) = whatS R N C p ks ++ [(x, ((gv R N ((p + tot C ks) % R) (cw C x.toNat) : Nat) : Int))]
  | [], p, h => by simp [whatS, tot, Nat.mod_eq_of_lt h]
  | k :: ks, p, h => by
    have := whatS_snoc (N := N) (C := C) x ks ((p + cw C k.toNat) % R) (Nat.mod_lt _ (by omega))
    rw [List.cons_append, whatS, this, whatS, List.cons_append, tot_cons, Nat.mod_add_mod, Nat.add_assoc]
theorem gave_what (R : Nat) (N C : List Int) : ∀ (ks : List Int) (p : Nat), gaveB R N C p (whatS R N C p ks) = true
  | [], _ => rfl
  | k :: ks, p => by rw [whatS, gaveB, if_pos rfl]; exact gave_what R N C ks _
theorem seen_what {R : Nat} {N C : List Int} (hv : Vw R N C) : ∀ (ks : List Int) (p : Nat), ks.all (isKindB C) = true → (whatS R N C p ks).all (isSeenB C) = true
  | [], _, _ => rfl
  | k :: ks, p, h => by
    rw [List.all_cons, Bool.and_eq_true] at h
    obtain ⟨n, rfl, hn⟩ := kind_nat h.1
    have h1 := gv_le_c hv p (cw C n)
    have h2 := (hv.coin hn).2
    rw [whatS, List.all_cons, seen_what hv ks _ h.2, Bool.and_true, isSeenB, h.1, Bool.true_and, inR_iff, Int.toNat_natCast]
    dsimp only
    omega
theorem totS_what (R : Nat) (N C : List Int) : ∀ (ks : List Int) (p : Nat), totS C (whatS R N C p ks) = tot C ks
  | [], _ => rfl
  | k :: ks, p => by rw [whatS, totS_cons, tot_cons, totS_what R N C ks]
theorem bef_iff (R : Nat) (N C : List Int) (xs : List (Int × Int)) (x : Int) : ∀ n, x ∈ bef R N C xs n ↔ ∃ q : Nat, q < n ∧ x = q ∧ gaveB R N C q xs = true
  | 0 => by simp [bef]
  | n + 1 => by
    have ih := bef_iff R N C xs x n
    unfold bef
    constructor
    · intro h
      split at h
      · rename_i hg
        rcases List.mem_append.1 h with h | h
        · obtain ⟨q, h1, h2⟩ := ih.1 h
          exact ⟨q, by omega, h2⟩
        · exact ⟨n, by omega, by simpa using h, hg⟩
      · obtain ⟨q, h1, h2⟩ := ih.1 h
        exact ⟨q, by omega, h2⟩
    · rintro ⟨q, h1, h2, h3⟩
      by_cases e : q = n
      · subst e
        rw [if_pos h3]
        simp [h2]
      · have := ih.2 ⟨q, by omega, h2, h3⟩
        split
        · exact List.mem_append_left _ this
        · exact this
theorem bef_all (R : Nat) (N C : List Int) : ∀ n, (bef R N C [] n).length = n
  | 0 => rfl
  | n + 1 => by rw [bef, if_pos (show gaveB R N C n [] = true from rfl), List.length_append, bef_all R N C n]; rfl
theorem gave_pre (R : Nat) (N C : List Int) : ∀ (xs ys : List (Int × Int)) (p : Nat), gaveB R N C p (xs ++ ys) = true → gaveB R N C p xs = true
  | [], _, _, _ => rfl
  | x :: xs, ys, p, h => by
    rw [List.cons_append, gaveB] at h
    rw [gaveB]
    split at h
    · rename_i e
      rw [if_pos e]
      exact gave_pre R N C xs ys _ h
    · cases h
theorem bef_pre {R : Nat} {N C : List Int} {xs : List (Int × Int)} {k n : Nat} {x : Int} (h : x ∈ bef R N C xs n) : x ∈ bef R N C (xs.take k) n := by
  obtain ⟨q, h1, h2, h3⟩ := (bef_iff R N C xs x n).1 h
  exact (bef_iff R N C _ x n).2 ⟨q, h1, h2, gave_pre R N C _ (xs.drop k) q (by rw [List.take_append_drop]; exact h3)⟩
theorem bhd_len (R c : Nat) (ps : List Int) : (bhd R c ps).length = ps.length := by simp [bhd]
theorem bhd_has {R c p : Nat} {ps : List Int} (h : (p : Int) ∈ ps) : (((p + c) % R : Nat) : Int) ∈ bhd R c ps := by
  simp only [bhd, List.mem_map]
  exact ⟨p, h, by simp⟩
end Go.Proofs.Ytmkmnedojgigoaa
