import Derived.Test.YtknaljghpfeikaaT35
import Derived.Test.YtknaljghpfeikaaT53
namespace Go.Proofs.Ytknaljghpfeikaa

theorem fin_step {T : Tr} (hv : VT T) {c : Car} (hi : Inv T c) (h0 : 0 ≤ c.time) (h : c.plays ≠ [] → 1 ≤ c.fin) : (stepC T c).plays ≠ [] → 1 ≤ (stepC T c).fin := by
  have h' : (hearC T c).plays ≠ [] → 1 ≤ (hearC T c).fin := h
  have h0' : 0 ≤ (hearC T c).time := h0
  have hpos := (hear_inv hv hi).pos
  unfold stepC
  generalize hearC T c = d at h' h0' hpos ⊢
  unfold actC
  split
  · exact h'
  split
  · unfold leaveC; split <;> exact h'
  split
  · exact h'
  split
  · intro _
    show 1 ≤ d.time + secs T (sideAt d.up d.pos)
    have := (secs_le hv (side_lt (up := d.up) hpos)).1
    omega
  · unfold leaveC; split <;> exact h'
theorem fin_run {T : Tr} (hv : VT T) (h1 : T.prs ≠ []) : 1 ≤ (runM T maxI).fin := by
  obtain ⟨K, hK⟩ := run_ex hv (Int.le_refl maxI)
  have key : ∀ j, j ≤ K → ((iterC T j (startC T)).plays ≠ [] → 1 ≤ (iterC T j (startC T)).fin) := by
    intro j
    induction j with
    | zero => intro _ h; exact absurd rfl h
    | succ j ih => intro hj; exact fin_step hv (hK.rng j (by omega)).inv (hK.rng j (by omega)).t0 (ih (by omega))
  have h2 := key K (Nat.le_refl _)
  rw [← runM_is hK] at h2
  obtain ⟨p, hp⟩ := List.exists_mem_of_ne_nil _ h1
  obtain ⟨q, hq, _⟩ := all_served hv p hp
  exact h2 (List.ne_nil_of_mem hq)
theorem vis_fold (T : Tr) : ∀ (L : List (List Int)) (s : List Int × Int), (L.foldl (visB T) s).2 ≤ s.2 ∧ (∀ os ∈ L, (L.foldl (visB T) s).2 ≤ endO T os) ∧ ((L.foldl (visB T) s).2 = s.2 ∨ ∃ os ∈ L, (L.foldl (visB T) s).2 = endO T os)
  | [], s => ⟨Int.le_refl _, fun _ h => (by cases h), .inl rfl⟩
  | o :: L, s => by
    obtain ⟨h1, h2, h3⟩ := vis_fold T L (visB T s o)
    rw [List.foldl_cons]
    have h4 : (visB T s o).2 ≤ s.2 ∧ (visB T s o).2 ≤ endO T o ∧ ((visB T s o).2 = s.2 ∨ (visB T s o).2 = endO T o) := by
      unfold visB
      split <;> (try dsimp only) <;> omega
    refine ⟨by omega, fun os hos => ?_, ?_⟩
    · rcases List.mem_cons.1 hos with rfl | h
      · omega
      · exact h2 os h
    · rcases h3 with h | ⟨os, ho, h⟩
      · rcases h4.2.2 with h5 | h5
        · exact .inl (by omega)
        · exact .inr ⟨o, by simp, by omega⟩
      · exact .inr ⟨os, by simp [ho], h⟩
theorem key1 : ∀ a : Fin 1, (∀ i : Fin 1, ((i.val : Nat) : Int) ∈ [((a.val : Nat) : Int)]) → [((a.val : Nat) : Int)] ∈ perms 1 0 (idL 1) := by decide +kernel
theorem key2 : ∀ a b : Fin 2, (∀ i : Fin 2, ((i.val : Nat) : Int) ∈ [((a.val : Nat) : Int), ((b.val : Nat) : Int)]) → [((a.val : Nat) : Int), ((b.val : Nat) : Int)] ∈ perms 2 0 (idL 2) := by decide +kernel
theorem key3 : ∀ a b c : Fin 3, (∀ i : Fin 3, ((i.val : Nat) : Int) ∈ [((a.val : Nat) : Int), ((b.val : Nat) : Int), ((c.val : Nat) : Int)]) → [((a.val : Nat) : Int), ((b.val : Nat) : Int), ((c.val : Nat) : Int)] ∈ perms 3 0 (idL 3) := by decide +kernel
theorem key4 : ∀ a b c d : Fin 4, (∀ i : Fin 4, ((i.val : Nat) : Int) ∈ [((a.val : Nat) : Int), ((b.val : Nat) : Int), ((c.val : Nat) : Int), ((d.val : Nat) : Int)]) → [((a.val : Nat) : Int), ((b.val : Nat) : Int), ((c.val : Nat) : Int), ((d.val : Nat) : Int)] ∈ perms 4 0 (idL 4) := by decide +kernel
theorem fin_of {n : Nat} {a : Int} (h : 0 ≤ a ∧ a < (n : Int)) : ∃ k : Fin n, a = ((k.val : Nat) : Int) := ⟨⟨a.toNat, by omega⟩, by show a = ((a.toNat : Nat) : Int); omega⟩
/-- An order of at most four is among those that are tried. -/
theorem perm_in {n : Nat} (h1 : 1 ≤ n) (h4 : n ≤ 4) {xs : List Int} (h : xs.length = n) (hm : ∀ i : Nat, i < n → (i : Int) ∈ xs) : xs ∈ perms n 0 (idL n) := by
  rcases (show n = 1 ∨ n = 2 ∨ n = 3 ∨ n = 4 by omega) with rfl | rfl | rfl | rfl
  · match xs, h with
    | [a], _ =>
      have m0 := hm 0 (by omega)
      simp only [List.mem_cons, List.not_mem_nil, or_false] at m0
      obtain ⟨a, rfl⟩ := fin_of (n := 1) (a := a) (by omega)
      exact key1 a fun i => hm i.val i.isLt
  · match xs, h with
    | [a, b], _ =>
      have m0 := hm 0 (by omega); have m1 := hm 1 (by omega)
      simp only [List.mem_cons, List.not_mem_nil, or_false] at m0 m1
      obtain ⟨a, rfl⟩ := fin_of (n := 2) (a := a) (by omega)
      obtain ⟨b, rfl⟩ := fin_of (n := 2) (a := b) (by omega)
      exact key2 a b fun i => hm i.val i.isLt
  · match xs, h with
    | [a, b, c], _ =>
      have m0 := hm 0 (by omega); have m1 := hm 1 (by omega); have m2 := hm 2 (by omega)
      simp only [List.mem_cons, List.not_mem_nil, or_false] at m0 m1 m2
      have ra : 0 ≤ a ∧ a < ((3 : Nat) : Int) := by omega
      have rb : 0 ≤ b ∧ b < ((3 : Nat) : Int) := by omega
      have rc : 0 ≤ c ∧ c < ((3 : Nat) : Int) := by omega
      clear m0 m1 m2
      obtain ⟨a, rfl⟩ := fin_of ra
      obtain ⟨b, rfl⟩ := fin_of rb
      obtain ⟨c, rfl⟩ := fin_of rc
      exact key3 a b c fun i => hm i.val i.isLt
  · match xs, h with
    | [a, b, c, d], _ =>
      have m0 := hm 0 (by omega); have m1 := hm 1 (by omega); have m2 := hm 2 (by omega); have m3 := hm 3 (by omega)
      simp only [List.mem_cons, List.not_mem_nil, or_false] at m0 m1 m2 m3
      have ra : 0 ≤ a ∧ a < ((4 : Nat) : Int) := by omega
      have rb : 0 ≤ b ∧ b < ((4 : Nat) : Int) := by omega
      have rc : 0 ≤ c ∧ c < ((4 : Nat) : Int) := by omega
      have rd : 0 ≤ d ∧ d < ((4 : Nat) : Int) := by omega
      clear m0 m1 m2 m3
      obtain ⟨a, rfl⟩ := fin_of ra
      obtain ⟨b, rfl⟩ := fin_of rb
      obtain ⟨c, rfl⟩ := fin_of rc
      obtain ⟨d, rfl⟩ := fin_of rd
      exact key4 a b c d fun i => hm i.val i.isLt
theorem plc_id : ∀ n : Fin 5, ∀ k : Fin 5, k.val < n.val → (plc (idL n.val)).getD k.val 0 = ((k.val : Nat) : Int) := by decide +kernel
theorem ordT_id {T : Tr} (hv : VT T) (h4 : T.rcs.length ≤ 4) : ordT T (idL T.rcs.length) = T := by
  have e1 : ordR T.rcs (idL T.rcs.length) = T.rcs := by
    apply List.ext_getElem
    · simp [ordR, idL]
    · intro i h1 h2
      simp [ordR, idL, h2]
  have e2 : ordP (idL T.rcs.length) T.prs = T.prs := by
    refine (List.map_congr_left (g := id) fun p hp => ?_).trans (List.map_id _)
    have hp2 := hv.pr p hp
    have h := plc_id ⟨T.rcs.length, by omega⟩ ⟨p.1.toNat / 2, by omega⟩ (by show p.1.toNat / 2 < T.rcs.length; omega)
    dsimp only at h
    unfold ordP1
    rw [h]
    apply Prod.ext
    · show 2 * ((p.1.toNat / 2 : Nat) : Int) + ((p.1.toNat % 2 : Nat) : Int) = p.1
      omega
    · rfl
  unfold ordT
  rw [e1, e2]
theorem perms_ok {n : Int} (hn : 0 < n) : ∀ (d k : Nat) (l : List Int), (∀ x ∈ l, 0 ≤ x ∧ x < n) → ∀ os ∈ perms d k l, os.length = l.length ∧ ∀ x ∈ os, 0 ≤ x ∧ x < n
  | 0, k, l, h, os, ho => by
    rw [show perms 0 k l = [l] from rfl, List.mem_singleton] at ho
    subst ho
    exact ⟨rfl, h⟩
  | d + 1, k, l, h, os, ho => by
    obtain ⟨j, _, hj⟩ := List.mem_flatMap.1 (show os ∈ (List.range (d + 1)).flatMap fun j => perms d (k + 1) (swapL l k (k + j)) from ho)
    obtain ⟨h1, h2⟩ := perms_ok hn d (k + 1) (swapL l k (k + j)) (swapL_mem hn h) os hj
    exact ⟨by rw [h1, swapL_len], h2⟩
/-- The least end of all: at least a second, not above any order's. -/
theorem best_facts {T : Tr} {rs ps : List (Int × Int)} {p0 way step : Int} (hT : IsTr T rs ps p0 way step) (h4 : rs.length ≤ 4) (h0 : ps ≠ []) : 1 ≤ (bestM T maxI).2 ∧ (bestM T maxI).2 ≤ (runM T maxI).fin ∧ ∀ os : List Int, os.length = rs.length → (∀ i : Nat, i < rs.length → (i : Int) ∈ os) → (bestM T maxI).2 ≤ endO T os := by
  have hv := hT.hv
  have e1 := hT.T1
  have e2 := hT.T2
  have hn1 := hv.n1
  obtain ⟨f1, f2, f3⟩ := vis_fold T (perms T.rcs.length 0 (idL T.rcs.length)) ([], maxI)
  have eb : (perms T.rcs.length 0 (idL T.rcs.length)).foldl (visB T) ([], maxI) = bestM T maxI := rfl
  rw [eb] at f1 f2 f3
  have h3 : ∀ os : List Int, os.length = rs.length → (∀ i : Nat, i < rs.length → (i : Int) ∈ os) → (bestM T maxI).2 ≤ endO T os := fun os ho hm => f2 os (by rw [e1]; exact perm_in (by rw [← e1]; exact hn1) h4 ho hm)
  refine ⟨?_, ?_, h3⟩
  · rcases f3 with h | ⟨os, ho, h⟩
    · rw [h]; decide
    · rw [h]
      rw [e1] at ho
      obtain ⟨hl, hm⟩ := perms_ok (n := (rs.length : Int)) (by rw [← e1]; omega) rs.length 0 (idL rs.length) (idL_mem _) os ho
      have hTo := ordT_is hT (by rw [hl, idL_len]) hm
      refine fin_run hTo.hv ?_
      rw [hTo.T2]
      intro e
      apply h0
      rw [← List.length_eq_zero_iff] at e ⊢
      rw [ordP_len] at e
      exact e
  · have h := h3 (idL rs.length) (idL_len _) (fun i hi => by simp only [idL, List.mem_map, List.mem_range]; exact ⟨i, hi, rfl⟩)
    have e : endO T (idL rs.length) = (runM T maxI).fin := by unfold endO; rw [← e1, ordT_id hv (by rw [e1]; exact h4)]
    rw [← e]
    exact h
/-- A press's side as the reference moves it, place by place. -/
def arr1 (k : Nat) (x : Int) (p q : Int × Int) : Int × Int := if p.1.toNat / 2 = x.toNat then (2 * (k : Int) + ((p.1.toNat % 2 : Nat) : Int), q.2) else q
def arrs : Nat → List Int → Int × Int → Int × Int → Int × Int
  | _, [], _, q => q
  | k, x :: xs, p, q => arrs (k + 1) xs p (arr1 k x p q)
theorem arrs_snoc : ∀ (os : List Int) (x : Int) (k : Nat) (p q : Int × Int), arrs k (os ++ [x]) p q = arr1 (k + os.length) x p (arrs k os p q)
  | [], x, k, p, q => rfl
  | y :: os, x, k, p, q => by
    show arrs (k + 1) (os ++ [x]) p (arr1 k y p q) = _
    rw [arrs_snoc os x (k + 1)]
    show _ = arr1 (k + (os.length + 1)) x p (arrs (k + 1) os p (arr1 k y p q))
    rw [show k + 1 + os.length = k + (os.length + 1) by omega]
theorem arrs_is (p : Int × Int) : ∀ (os : List Int) (k : Nat) (L : List Int) (q : Int × Int), q.2 = p.2 → p.1.toNat / 2 < L.length → ((∃ x ∈ os, x.toNat = p.1.toNat / 2) ∨ q = (2 * L.getD (p.1.toNat / 2) 0 + ((p.1.toNat % 2 : Nat) : Int), p.2)) → arrs k os p q = (2 * (plcs k os L).getD (p.1.toNat / 2) 0 + ((p.1.toNat % 2 : Nat) : Int), p.2)
  | [], k, L, q, h1, h2, h3 => by
    rcases h3 with ⟨x, hx, _⟩ | h
    · cases hx
    · exact h
  | x :: os, k, L, q, h1, h2, h3 => by
    show arrs (k + 1) os p (arr1 k x p q) = (2 * (plcs (k + 1) os (L.set x.toNat (k : Int))).getD _ 0 + _, _)
    by_cases hx : p.1.toNat / 2 = x.toNat
    · refine arrs_is p os (k + 1) _ _ ?_ (by simpa using h2) (.inr ?_)
      · unfold arr1; rw [if_pos hx]; exact h1
      · unfold arr1
        rw [if_pos hx, h1, ← hx]
        simp [List.getD_eq_getElem?_getD, h2]
    · refine arrs_is p os (k + 1) _ _ ?_ (by simpa using h2) ?_
      · unfold arr1; rw [if_neg hx]; exact h1
      · rcases h3 with ⟨y, hy, h⟩ | h
        · rcases List.mem_cons.1 hy with rfl | hy
          · exact absurd h.symm hx
          · exact .inl ⟨y, hy, h⟩
        · refine .inr ?_
          unfold arr1
          rw [if_neg hx, h]
          have hx' : ¬ x.toNat = p.1.toNat / 2 := fun e => hx e.symm
          simp [List.getD_eq_getElem?_getD, hx']
theorem arrs_ord {n : Nat} {os : List Int} {p : Int × Int} (hp : 0 ≤ p.1 ∧ p.1 < 2 * (n : Int)) (hn : n ≤ 6) (hm : ∀ i : Nat, i < n → (i : Int) ∈ os) : arrs 0 os p p = ordP1 (plc os) p := by
  have hk : p.1.toNat / 2 < n := by omega
  exact arrs_is p os 0 [0, 0, 0, 0, 0, 0] p rfl (by simp; omega) (.inl ⟨_, hm _ hk, by omega⟩)
end Go.Proofs.Ytknaljghpfeikaa
