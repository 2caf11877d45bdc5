import Derived.Test.YtakodllejndfeaaM5
/-! RoyaltiesTwo: joined. -/
namespace Go.Proofs.Ytakodllejndfeaa
set_option linter.unusedSimpArgs false
set_option linter.unusedVariables false
open Go Go.RowKit

theorem CuM.up {V : World} {B g hi hi' : Nat} {b : Option Addr} {c d : Nat} {S : List Sd} {O : List Int} (h : CuM V B g hi b c d S O) (h1 : hi ≤ hi') (h2 : hi' ≤ V.heap.size) : CuM V B g hi' b c d S O := by
  obtain ⟨cs, ho, hw⟩ := h.ex
  refine ⟨⟨cs, ho, fun i s hs => ?_⟩, h.ow, fun hne ad e => ?_, h2⟩
  · obtain ⟨q0, a', c', q1, q2, q3, q4, q5⟩ := hw i s hs
    exact ⟨q0, a', c', q1, q2, q3, q4, fun hn ad e => ⟨(q5 hn ad e).1, by have := (q5 hn ad e).2; omega⟩⟩
  · have := h.own hne ad e
    exact ⟨this.1, by omega⟩
/-- The parts of a side are stored. -/
theorem CuM.setPs {V : World} {B g hi : Nat} {b : Option Addr} {c d : Nat} {S : List Sd} {O : List Int} (h : CuM V B g hi b c d S O) {k : Nat} {s : Sd} (hk : S[k]? = some s) {ps' : List (Int × Int)} {a' : Option Addr} {c' : Nat} (h2 : Prs V a' ps') (h3 : ps'.length ≤ 1000) (h5 : ps' ≠ [] → ∀ ad, a' = some ad → ad.block ≠ g ∧ ad.block < hi) :
    (∃ v, V.cell? ⟨g, k * 2 + 1, none⟩ = some v) ∧ V.frozen? ⟨g, k * 2 + 1, none⟩ = false ∧ CuM (V.setCell ⟨g, k * 2 + 1, none⟩ (.slice a' ps'.length c')) B g hi b c d (S.set k ⟨s.pl, ps'⟩) O := by
  obtain ⟨cs, h1, hw⟩ := h.ex
  have hlt : k < S.length := (List.getElem?_eq_some_iff.1 hk).1
  obtain ⟨q0, a0, c0, q1, hP, hl1, hi4, hown⟩ := hw k s hk
  have hl : cs.length = S.length * 2 := h1.1
  have z1 := own_set h1 (j := k * 2 + 1) (v := .slice a' ps'.length c') (by omega)
  have hg := gsetR V ⟨g, k * 2 + 1, none⟩ (.slice a' ps'.length c')
  have hP' : Prs (V.setCell ⟨g, k * 2 + 1, none⟩ (.slice a' ps'.length c')) a' ps' := h2.gro hg (fun hn ad e hh => by
    injection hh with hh
    exact (h5 hn ad e).1 hh.symm)
  have hw2 := (hw.gro hg (fun k hk => .inl (by injection hk with hk; exact hk.symm))).set (s := ⟨s.pl, ps'⟩) (c' := c') hl hlt hP' h3 hi4 h5
  have e2 : cs.set (k * 2) (.int .i64 s.pl) = cs := by
    apply List.ext_getElem?
    intro j
    by_cases e : k * 2 = j
    · subst e
      rw [List.getElem?_set_self (by omega), q0]
    · rw [List.getElem?_set_ne e]
  simp only at hw2
  rw [e2] at hw2
  refine ⟨⟨_, own_cell h1 _ q1⟩, own_free h1 _, ⟨⟨_, by rw [List.length_set]; exact z1, hw2⟩, ints_gro h.ow hg (fun hne ad e e2 => ?_), h.own, Nat.le_trans h.hi hg.size⟩⟩
  injection e2 with e2
  exact (h.own hne ad e).1 e2.symm
/-- The sides while some are joined. -/
def midJ (n : Nat) (a b : Int) (S : List Sd) (k : Nat) : List Sd := (joS n a b S).take k ++ S.drop k
theorem midJ_zero (n : Nat) (a b : Int) (S : List Sd) : midJ n a b S 0 = S := by simp [midJ]
theorem midJ_end (n : Nat) (a b : Int) (S : List Sd) : midJ n a b S S.length = joS n a b S := by
  unfold midJ
  rw [List.drop_length, List.append_nil, ← joS_len n a b S, List.take_length]
theorem midJ_len (n : Nat) (a b : Int) (S : List Sd) {k : Nat} (hk : k ≤ S.length) : (midJ n a b S k).length = S.length := by
  unfold midJ
  rw [List.length_append, List.length_take, List.length_drop, joS_len]; omega
theorem midJ_at (n : Nat) (a b : Int) {S : List Sd} {k : Nat} {s : Sd} (hs : S[k]? = some s) : (midJ n a b S k)[k]? = some s := by
  have hk : k < S.length := (List.getElem?_eq_some_iff.1 hs).1
  have hl := joS_len n a b S
  unfold midJ
  rw [List.getElem?_append_right (by rw [List.length_take]; omega), List.length_take, Nat.min_eq_left (by omega), Nat.sub_self, List.getElem?_drop, Nat.add_zero]
  exact hs
theorem midJ_set (n : Nat) (a b : Int) {S : List Sd} {k : Nat} {s : Sd} (hs : S[k]? = some s) : (midJ n a b S k).set k ⟨s.pl, joP n a b s.ps⟩ = midJ n a b S (k + 1) := by
  have hk : k < S.length := (List.getElem?_eq_some_iff.1 hs).1
  have hr : (joS n a b S)[k]? = some ⟨s.pl, joP n a b s.ps⟩ := by unfold joS; rw [List.getElem?_map, hs]; rfl
  have hl := joS_len n a b S
  unfold midJ
  rw [take_snoc hr, List.append_assoc]
  have e : k = ((joS n a b S).take k).length := by rw [List.length_take]; omega
  have hd : S.drop k = S[k] :: S.drop (k + 1) := List.drop_eq_getElem_cons hk
  rw [hd]
  conv => lhs; arg 2; rw [e]
  rw [List.set_append_right _ _ (Nat.le_refl _), Nat.sub_self]
  rfl
theorem joK_len (a b t : Int) (ps : List (Int × Int)) : ∀ j : Nat, (joK a b t ps j).length ≤ j * (1 + ps.length)
  | 0 => by simp [joK]
  | j + 1 => by
    have ih := joK_len a b t ps j
    have h1 : (blk a b t (j : Int) ps).length ≤ 1 + ps.length := by
      unfold blk oneQ
      rw [List.length_append]
      have := List.length_filter_le (keepB a b (j : Int)) ps
      split <;> simp <;> omega
    rw [joK, List.length_append, Nat.succ_mul]; omega
theorem SOk.len {n : Nat} {s : Sd} (h : SOk n s) : s.ps.length ≤ n := by
  have h1 : ∀ i : Nat, i < s.ps.length → (i : Int) ≤ whoA s.ps i := fun i => by
    induction i with
    | zero =>
      intro hi
      have hm : s.ps.getD 0 (0, 0) ∈ s.ps := List.mem_of_getElem? (get_of_lt (0, 0) hi)
      have := (h.who _ hm).1
      unfold whoA; omega
    | succ i ih =>
      intro hi
      have h2 := ih (by omega)
      have h3 := h.asc (i + 1) (by omega) hi
      rw [show i + 1 - 1 = i by omega] at h3
      omega
  rcases Nat.eq_zero_or_pos s.ps.length with h0 | h0
  · omega
  · have h2 := h1 (s.ps.length - 1) (by omega)
    have hm : s.ps.getD (s.ps.length - 1) (0, 0) ∈ s.ps := List.mem_of_getElem? (get_of_lt (0, 0) (by omega))
    have h3 := (h.who _ hm).2
    unfold whoA at h2
    omega
theorem keep_yes {a b j : Int} {ps : List (Int × Int)} {q : Int × Int} (h : keepB a b j q = true) : (ps ++ [q]).filter (keepB a b j) = ps.filter (keepB a b j) ++ [q] := by simp [List.filter_append, h]
theorem keep_no {a b j : Int} {ps : List (Int × Int)} {q : Int × Int} (h : keepB a b j q = false) : (ps ++ [q]).filter (keepB a b j) = ps.filter (keepB a b j) := by simp [List.filter_append, h]
end Go.Proofs.Ytakodllejndfeaa
