import Derived.Test.YtknaljghpfeikaaT55
namespace Go.Proofs.Ytknaljghpfeikaa

/-- All orders of so many that begin with some, as the reference makes them. -/
def ordsR (n : Nat) : Nat → List Int → List (List Int)
  | 0, f => [f]
  | r + 1, f => (List.range n).flatMap fun (k : Nat) => if inB (k : Int) f then [] else ordsR n r (f ++ [(k : Int)])
/-- The first of them. -/
def ordsN (n r : Nat) (f : List Int) (k : Nat) : List (List Int) := (List.range k).flatMap fun (k : Nat) => if inB (k : Int) f then [] else ordsR n r (f ++ [(k : Int)])
theorem ordsN_next (n r : Nat) (f : List Int) (k : Nat) : ordsN n r f (k + 1) = ordsN n r f k ++ (if inB (k : Int) f then [] else ordsR n r (f ++ [(k : Int)])) := by simp [ordsN, List.range_succ]
theorem ordsN_no {n r : Nat} {f : List Int} {k : Nat} (h : inB (k : Int) f = true) : ordsN n r f (k + 1) = ordsN n r f k := by rw [ordsN_next, h]; simp
theorem ordsN_yes {n r : Nat} {f : List Int} {k : Nat} (h : inB (k : Int) f = false) : ordsN n r f (k + 1) = ordsN n r f k ++ ordsR n r (f ++ [(k : Int)]) := by rw [ordsN_next, h]; simp
theorem ordsR_len (n : Nat) : ∀ (r : Nat) (f : List Int), (ordsR n r f).length ≤ n ^ r
  | 0, f => by simp [ordsR]
  | r + 1, f => by
    have hr : ∀ k, (ordsN n r f k).length ≤ k * n ^ r := fun k => by
      induction k with
      | zero => simp [ordsN]
      | succ k ih =>
        rw [ordsN_next, List.length_append, Nat.succ_mul]
        have := ordsR_len n r (f ++ [(k : Int)])
        split
        · simp only [List.length_nil]; omega
        · omega
    have h1 := hr n
    rw [Nat.pow_succ, Nat.mul_comm]
    exact h1
theorem ordsN_len (n r : Nat) (f : List Int) (k : Nat) : (ordsN n r f k).length ≤ k * n ^ r := by
  induction k with
  | zero => simp [ordsN]
  | succ k ih =>
    rw [ordsN_next, List.length_append, Nat.succ_mul]
    have := ordsR_len n r (f ++ [(k : Int)])
    split
    · simp only [List.length_nil]; omega
    · omega
theorem oall1 : (∀ os ∈ ordsR 1 1 [], isOrd 1 os = true) ∧ (∀ os ∈ perms 1 0 (idL 1), isOrd 1 os = true ∧ os ∈ ordsR 1 1 []) := by decide +kernel
theorem oall2 : (∀ os ∈ ordsR 2 2 [], isOrd 2 os = true) ∧ (∀ os ∈ perms 2 0 (idL 2), isOrd 2 os = true ∧ os ∈ ordsR 2 2 []) := by decide +kernel
theorem oall3 : (∀ os ∈ ordsR 3 3 [], isOrd 3 os = true) ∧ (∀ os ∈ perms 3 0 (idL 3), isOrd 3 os = true ∧ os ∈ ordsR 3 3 []) := by decide +kernel
theorem oall4 : (∀ os ∈ ordsR 4 4 [], isOrd 4 os = true) ∧ (∀ os ∈ perms 4 0 (idL 4), isOrd 4 os = true ∧ os ∈ ordsR 4 4 []) := by decide +kernel
theorem oall {n : Nat} (h1 : 1 ≤ n) (h4 : n ≤ 4) : (∀ os ∈ ordsR n n [], isOrd n os = true) ∧ (∀ os ∈ perms n 0 (idL n), isOrd n os = true ∧ os ∈ ordsR n n []) := by
  rcases (show n = 1 ∨ n = 2 ∨ n = 3 ∨ n = 4 by omega) with rfl | rfl | rfl | rfl
  · exact oall1
  · exact oall2
  · exact oall3
  · exact oall4
theorem vis_one (T : Tr) : ∀ (L : List (List Int)) (s : List Int × Int), L.foldl (visB T) s = s ∨ ∃ os ∈ L, L.foldl (visB T) s = (os, endO T os)
  | [], s => .inl rfl
  | o :: L, s => by
    rw [List.foldl_cons]
    rcases vis_one T L (visB T s o) with h | ⟨os, ho, h⟩
    · rw [h]
      unfold visB
      split
      · exact .inr ⟨o, by simp, rfl⟩
      · exact .inl rfl
    · exact .inr ⟨os, by simp [ho], h⟩
/-- The best order is one, and ends then. -/
theorem best_one {T : Tr} {rs ps : List (Int × Int)} {p0 way step : Int} (hT : IsTr T rs ps p0 way step) (h4 : rs.length ≤ 4) : ∃ os, bestM T maxI = (os, endO T os) ∧ os ∈ perms rs.length 0 (idL rs.length) := by
  have hv := hT.hv
  have e1 := hT.T1
  have hn1 := hv.n1
  rcases vis_one T (perms T.rcs.length 0 (idL T.rcs.length)) ([], maxI) with h | ⟨os, ho, h⟩
  · exfalso
    obtain ⟨_, f2, _⟩ := vis_fold T (perms T.rcs.length 0 (idL T.rcs.length)) ([], maxI)
    have hp : idL rs.length ∈ perms T.rcs.length 0 (idL T.rcs.length) := by
      rw [e1]
      exact perm_in (by rw [← e1]; exact hn1) h4 (idL_len _) (fun i hi => by simp only [idL, List.mem_map, List.mem_range]; exact ⟨i, hi, rfl⟩)
    have h2 := f2 _ hp
    rw [h] at h2
    have hTo := ordT_is hT (os := idL rs.length) (idL_len _) (idL_mem _)
    have h3 := (rng_run hTo.hv (Int.le_refl maxI)).fb
    unfold endO at h2
    have hm : maxI = 9223372036854775807 := rfl
    rw [hm] at h2
    have h4 : (runM (ordT T (idL rs.length)) maxI).fin < 9223372036854775807 := by omega
    rw [hm] at h4
    omega
  · exact ⟨os, h, by rw [e1] at ho; exact ho⟩
def minO (T : Tr) (b : Int) (os : List Int) : Int := min b (endO T os)
theorem min_fold (T : Tr) (x : Int) : ∀ (L : List (List Int)) (b : Int), x ≤ b → (∀ os ∈ L, x ≤ endO T os) → (b = x ∨ ∃ os ∈ L, endO T os = x) → L.foldl (minO T) b = x
  | [], b, _, _, h => by
    rcases h with h | ⟨os, ho, _⟩
    · exact h
    · cases ho
  | o :: L, b, h1, h2, h3 => by
    rw [List.foldl_cons]
    have ho := h2 o (by simp)
    refine min_fold T x L (minO T b o) (by unfold minO; omega) (fun os hos => h2 os (by simp [hos])) ?_
    unfold minO
    rcases h3 with h | ⟨os, hos, h⟩
    · exact .inl (by omega)
    · rcases List.mem_cons.1 hos with rfl | h5
      · exact .inl (by omega)
      · exact .inr ⟨os, h5, h⟩
/-- The least of all orders' ends, as the reference reckons it. -/
theorem min_all {T : Tr} {rs ps : List (Int × Int)} {p0 way step : Int} (hT : IsTr T rs ps p0 way step) (h4 : rs.length ≤ 4) (h0 : ps ≠ []) : (ordsR rs.length rs.length []).foldl (minO T) (runM T maxI).fin = (bestM T maxI).2 := by
  have hn1 := hT.hv.n1
  rw [hT.T1] at hn1
  obtain ⟨_, f2, f3⟩ := best_facts hT h4 h0
  obtain ⟨os, h1, h2⟩ := best_one hT h4
  obtain ⟨o1, o2⟩ := oall hn1 h4
  refine min_fold T _ _ _ f2 (fun os ho => ?_) (.inr ⟨os, (o2 os h2).2, by rw [h1]⟩)
  obtain ⟨q1, q2⟩ := isOrd_iff.1 (o1 os ho)
  exact f3 os q2 q1
end Go.Proofs.Ytknaljghpfeikaa
