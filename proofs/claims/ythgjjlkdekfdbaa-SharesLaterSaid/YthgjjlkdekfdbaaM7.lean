import Derived.Test.YthgjjlkdekfdbaaT14
/-! Any order: mathematics. -/
namespace Go.Proofs.Ythgjjlkdekfdbaa
set_option linter.unusedSimpArgs false
set_option linter.unusedVariables false
open Go.RowKit

theorem surj_len : ∀ (n : Nat) (l : List Int), (∀ i : Nat, i < n → (i : Int) ∈ l) → n ≤ l.length
  | 0, _, _ => Nat.zero_le _
  | n + 1, l, h => by
    have h1 : ∀ i : Nat, i < n → (i : Int) ∈ l.filter (fun x => decide (x ≠ (n : Int))) := fun i hi => by
      rw [List.mem_filter]
      exact ⟨h i (by omega), by simp; omega⟩
    have h2 := surj_len n _ h1
    have h3 : (l.filter (fun x => decide (x ≠ (n : Int)))).length < l.length := by
      rw [List.length_filter_lt_length_iff_exists]
      exact ⟨(n : Int), h n (by omega), by simp⟩
    omega
/-- Whether numbers are an order. -/
def isO (n : Nat) (os : List Int) : Bool := (List.range n).all (fun i => inL (i : Int) os) && decide (os.length = n)
theorem isO_iff {n : Nat} {os : List Int} : isO n os = true ↔ (∀ i : Nat, i < n → (i : Int) ∈ os) ∧ os.length = n := by
  unfold isO
  simp only [Bool.and_eq_true, List.all_eq_true, List.mem_range, decide_eq_true_eq, inL_iff]
/-- In an order no number comes twice, and each is one. -/
theorem isO_parts {n : Nat} {f g : List Int} {x : Int} (h : isO n (f ++ x :: g) = true) : x ∉ f ∧ 0 ≤ x ∧ x < (n : Int) := by
  obtain ⟨h1, h2⟩ := isO_iff.1 h
  have hl : (f ++ g).length + 1 = n := by rw [← h2]; simp; omega
  have no : ¬ ∀ i : Nat, i < n → (i : Int) ∈ f ++ g := fun hh => by have := surj_len n _ hh; omega
  refine ⟨fun hx => no fun i hi => ?_, ?_⟩
  · have := h1 i hi
    simp only [List.mem_append, List.mem_cons] at this ⊢
    rcases this with h | rfl | h
    · exact .inl h
    · exact .inl hx
    · exact .inr h
  · by_cases hr : 0 ≤ x ∧ x < (n : Int)
    · exact hr
    · refine absurd (fun i hi => ?_) no
      have := h1 i hi
      simp only [List.mem_append, List.mem_cons] at this ⊢
      rcases this with h | rfl | h
      · exact .inl h
      · exact absurd ⟨by omega, by omega⟩ hr
      · exact .inr h
theorem isO_rng {n : Nat} {os : List Int} (h : isO n os = true) : ∀ x ∈ os, 0 ≤ x ∧ x < (n : Int) := fun x hx => by
  obtain ⟨f, g, rfl⟩ := List.append_of_mem hx
  exact (isO_parts h).2
theorem isO_in {n : Nat} : ∀ (r : Nat) (f g : List Int), g.length = r → isO n (f ++ g) = true → f ++ g ∈ ordsR n r f
  | 0, f, g, hg, _ => by
    have : g = [] := List.length_eq_zero_iff.1 hg
    subst this
    simp [ordsR]
  | r + 1, f, [], hg, _ => by simp at hg
  | r + 1, f, x :: g, hg, h => by
    obtain ⟨h1, h2⟩ := isO_parts h
    obtain ⟨k, rfl⟩ := Int.eq_ofNat_of_zero_le h2.1
    have e : f ++ (k : Int) :: g = (f ++ [(k : Int)]) ++ g := by simp
    simp only [ordsR, List.mem_flatMap, List.mem_range]
    refine ⟨k, by omega, ?_⟩
    have hn : inL (k : Int) f = false := by
      rw [← Bool.not_eq_true]
      exact fun hh => h1 (inL_iff.1 hh)
    rw [hn]
    simp only [Bool.false_eq_true, if_false]
    rw [e] at h ⊢
    exact isO_in r (f ++ [(k : Int)]) g (by simpa using hg) h
theorem isO_mem {n : Nat} {os : List Int} (h : isO n os = true) : os ∈ ordsA n := by
  have := isO_in n [] os (isO_iff.1 h).2 h
  rw [List.nil_append] at this
  exact this
theorem ords_nodup {n : Nat} : ∀ (r : Nat) (f : List Int), (∀ os ∈ ordsR n r f, ∃ g, os = f ++ g ∧ g.length = r)
  | 0, f, os, h => by
    simp only [ordsR, List.mem_singleton] at h
    exact ⟨[], by simp [h], rfl⟩
  | r + 1, f, os, h => by
    simp only [ordsR, List.mem_flatMap, List.mem_range] at h
    obtain ⟨k, hk, h⟩ := h
    split at h
    · simp at h
    · obtain ⟨g, rfl, hg⟩ := ords_nodup r _ os h
      exact ⟨(k : Int) :: g, by simp, by simp [hg]⟩

theorem ords_isO : ∀ n : Fin 6, ∀ os ∈ ordsA n.val, isO n.val os = true := by decide +kernel
/-- a comes before b. -/
def lexlt (a b : List Int) : Prop := ∃ (p s t : List Int) (x y : Int), a = p ++ x :: s ∧ b = p ++ y :: t ∧ x < y
theorem ordsN_pair {n r : Nat} {f : List Int} (ih : ∀ k : Nat, (ordsR n r (f ++ [(k : Int)])).Pairwise lexlt) : ∀ k, (ordsN n r f k).Pairwise lexlt
  | 0 => by simp [ordsN]
  | k + 1 => by
    rw [ordsN_next]
    split
    · simpa using ordsN_pair ih k
    · refine List.pairwise_append.2 ⟨ordsN_pair ih k, ih k, fun a ha b hb => ?_⟩
      simp only [ordsN, List.mem_flatMap, List.mem_range] at ha
      obtain ⟨j, hj, ha⟩ := ha
      split at ha
      · simp at ha
      · obtain ⟨s, rfl, _⟩ := ords_nodup r _ a ha
        obtain ⟨t, rfl, _⟩ := ords_nodup r _ b hb
        exact ⟨f, s, t, (j : Int), (k : Int), by simp, by simp, by omega⟩
theorem ordsR_pair {n : Nat} : ∀ (r : Nat) (f : List Int), (ordsR n r f).Pairwise lexlt
  | 0, f => by simp [ordsR]
  | r + 1, f => by
    rw [← ordsN_all]
    exact ordsN_pair (fun k => ordsR_pair r _) n
theorem bestL_split (f : List Int → Int) : ∀ (l : List (List Int)), l ≠ [] → (∀ os ∈ l, 0 ≤ f os) → ∃ A b B, l = A ++ b :: B ∧ bestL f l = (b, f b) ∧ (∀ os ∈ A, f os < f b) ∧ ∀ os ∈ B, f os ≤ f b := by
  have step : ∀ (l A : List (List Int)) (b : List Int) (B : List (List Int)), (∀ os ∈ A, f os < f b) → (∀ os ∈ B, f os ≤ f b) → ∃ A' b' B', A ++ b :: B ++ l = A' ++ b' :: B' ∧ l.foldl (visO f) (b, f b) = (b', f b') ∧ (∀ os ∈ A', f os < f b') ∧ ∀ os ∈ B', f os ≤ f b' := by
    intro l
    induction l with
    | nil => exact fun A b B h1 h2 => ⟨A, b, B, by simp, rfl, h1, h2⟩
    | cons o l ih =>
      intro A b B h1 h2
      rw [List.foldl_cons]
      by_cases ho : f b < f o
      · have e : visO f (b, f b) o = (o, f o) := by unfold visO; rw [if_pos ho]
        rw [e]
        obtain ⟨A', b', B', e1, e2, e3, e4⟩ := ih (A ++ b :: B) o [] (fun os hos => by
          rcases List.mem_append.1 hos with h | h
          · have := h1 os h; omega
          · rcases List.mem_cons.1 h with rfl | h
            · exact ho
            · have := h2 os h; omega) (fun os hos => by simp at hos)
        exact ⟨A', b', B', by rw [← e1]; simp, e2, e3, e4⟩
      · have e : visO f (b, f b) o = (b, f b) := by unfold visO; rw [if_neg ho]
        rw [e]
        obtain ⟨A', b', B', e1, e2, e3, e4⟩ := ih A b (B ++ [o]) h1 (fun os hos => by
          rcases List.mem_append.1 hos with h | h
          · exact h2 os h
          · rw [List.mem_singleton.1 h]; omega)
        exact ⟨A', b', B', by rw [← e1]; simp, e2, e3, e4⟩
  intro l hl h0
  match l, hl with
  | o :: l, _ =>
    have h00 := h0 o (by simp)
    have e : visO f ([], -1) o = (o, f o) := by unfold visO; rw [if_pos (by simp only; omega)]
    obtain ⟨A', b', B', e1, e2, e3, e4⟩ := step l [] o [] (fun os hos => by simp at hos) (fun os hos => by simp at hos)
    refine ⟨A', b', B', by rw [← e1]; simp, ?_, e3, e4⟩
    unfold bestL
    rw [List.foldl_cons, e]
    exact e2
/-- The best order, among all. -/
theorem bestO_facts {L t : Int} {cs : List Cl} (h5 : cs.length ≤ 5) (ho : Ok cs L t) : isO cs.length (bestO L cs t) = true ∧ ∀ os, isO cs.length os = true → ownO L cs t os ≤ ownO L cs t (bestO L cs t) ∧ (ownO L cs t os = ownO L cs t (bestO L cs t) → os = bestO L cs t ∨ lexlt (bestO L cs t) os) := by
  have hid : isO cs.length ((List.range cs.length).map (fun (i : Nat) => (i : Int))) = true := by
    rw [isO_iff]
    exact ⟨fun i hi => by simp only [List.mem_map, List.mem_range]; exact ⟨i, hi, rfl⟩, by simp⟩
  have hne : ordsA cs.length ≠ [] := fun e => by have := isO_mem hid; rw [e] at this; simp at this
  have h0 : ∀ os ∈ ordsA cs.length, 0 ≤ ownO L cs t os := fun os h => by
    obtain ⟨_, h2⟩ := ordsA_ok h
    have : Ok (ordC cs os) L t := ⟨ordC_ok ho.cs h2, ho.L, ho.t⟩
    exact this.fin.ow
  obtain ⟨A, b, B, e1, e2, e3, e4⟩ := bestL_split (ownO L cs t) (ordsA cs.length) hne h0
  have eb : bestO L cs t = b := by unfold bestO; rw [e2]
  rw [eb]
  have hp : (ordsA cs.length).Pairwise lexlt := ordsR_pair _ _
  rw [e1] at hp
  obtain ⟨_, hp2, _⟩ := List.pairwise_append.1 hp
  obtain ⟨hp3, _⟩ := List.pairwise_cons.1 hp2
  refine ⟨?_, fun os hos => ?_⟩
  · exact ords_isO ⟨cs.length, by omega⟩ b (by show b ∈ ordsA cs.length; rw [e1]; simp)
  · have hm := isO_mem hos
    rw [e1] at hm
    rcases List.mem_append.1 hm with h | h
    · have := e3 os h
      exact ⟨by omega, fun e => by omega⟩
    · rcases List.mem_cons.1 h with rfl | h
      · exact ⟨Int.le_refl _, fun _ => .inl rfl⟩
      · exact ⟨e4 os h, fun _ => .inr (hp3 os h)⟩
theorem lex_at {a b : List Int} (h : b = a ∨ lexlt a b) {i : Nat} {x y : Int} (ht : a.take i = b.take i) (hx : a[i]? = some x) (hy : b[i]? = some y) (hne : x ≠ y) : x < y := by
  rcases h with rfl | ⟨p, s, t, u, v, rfl, rfl, huv⟩
  · rw [hx] at hy; cases hy; exact absurd rfl hne
  · rcases Nat.lt_trichotomy i p.length with hi | hi | hi
    · rw [List.getElem?_append_left hi] at hx hy
      rw [hx] at hy; cases hy; exact absurd rfl hne
    · subst hi
      rw [List.getElem?_append_right (Nat.le_refl _), Nat.sub_self] at hx hy
      simp at hx hy
      omega
    · exfalso
      have := congrArg (fun l => l[p.length]?) ht
      simp only [List.getElem?_take, if_pos hi] at this
      rw [List.getElem?_append_right (Nat.le_refl _), List.getElem?_append_right (Nat.le_refl _), Nat.sub_self] at this
      simp at this
      omega
end Go.Proofs.Ythgjjlkdekfdbaa
