import Derived.Test.YteianfbdhakhpaaTM
/-! How many lists there are: distinct ones of a sorted row. -/
namespace Go.Proofs.Yteianfbdhakhpaa
set_option linter.unusedSimpArgs false
set_option linter.unusedVariables false
open Go Go.RowKit Go.Sort

def dR : List (List Int) → List (List Int)
  | [] => []
  | x :: r => if x ∈ r then dR r else x :: dR r
theorem dR_mem : ∀ (l : List (List Int)) (y : List Int), y ∈ dR l ↔ y ∈ l
  | [], y => Iff.rfl
  | x :: r, y => by
    unfold dR
    split
    · rename_i h
      rw [dR_mem r y]
      constructor
      · exact fun h2 => List.mem_cons_of_mem _ h2
      · intro h2
        rcases List.mem_cons.1 h2 with rfl | h2
        · exact h
        · exact h2
    · rw [List.mem_cons, List.mem_cons, dR_mem r y]
theorem dR_nodup : ∀ l : List (List Int), (dR l).Nodup
  | [] => List.nodup_nil
  | x :: r => by
    unfold dR
    split
    · exact dR_nodup r
    · rename_i h
      exact List.nodup_cons.2 ⟨fun h2 => h ((dR_mem r x).1 h2), dR_nodup r⟩
/-- How many different ones. -/
def dN (l : List (List Int)) : Nat := (dR l).length
theorem dN_perm {a b : List (List Int)} (h : a.Perm b) : dN a = dN b :=
  ((List.perm_ext_iff_of_nodup (dR_nodup a) (dR_nodup b)).2 fun x => by rw [dR_mem, dR_mem]; exact h.mem_iff).length_eq
theorem dN_cons (x : List Int) (l : List (List Int)) : dN (x :: l) = dN l + if x ∈ l then 0 else 1 := by
  unfold dN
  rw [dR]
  split <;> simp
theorem kp_dN (Q : Nat → List Int) (n : Nat) (h : ∀ i j, i < j → j < n → ¬ cmpL (Q j) (Q i) < 0) : kp Q n = dN ((List.range n).map Q) := by
  induction n with
  | zero => rfl
  | succ i ih =>
    have h1 := ih (fun a b hab hb => h a b hab (by omega))
    have hp : ((List.range (i + 1)).map Q).Perm (Q i :: (List.range i).map Q) := by
      rw [List.range_succ, List.map_append]
      exact List.perm_append_comm
    rw [dN_perm hp, dN_cons, ← h1]
    show kp Q i + _ = _
    congr 1
    rcases i with _ | m
    · simp
    · have e : (m + 1 = 0 ∨ Q (m + 1) ≠ Q (m + 1 - 1)) ↔ Q (m + 1) ≠ Q m := by simp
      by_cases hq : Q (m + 1) = Q m
      · have hm : Q (m + 1) ∈ (List.range (m + 1)).map Q := List.mem_map.2 ⟨m, List.mem_range.2 (by omega), hq.symm⟩
        rw [if_neg (fun h2 => (e.1 h2) hq), if_pos hm]
      · have hm : Q (m + 1) ∉ (List.range (m + 1)).map Q := fun h2 => by
          obtain ⟨j, hj, hjq⟩ := List.mem_map.1 h2
          have hj := List.mem_range.1 hj
          rcases Nat.lt_or_ge j m with hlt | hge
          · have a1 := h j m hlt (by omega)
            have a2 := h m (m + 1) (by omega) (by omega)
            rw [← hjq, cmpL_swap] at a2
            have : cmpL (Q m) (Q j) = 0 := by omega
            exact hq (hjq.symm.trans ((cmpL_zero _ _).1 this).symm)
          · obtain rfl : j = m := by omega
            exact hq hjq.symm
        rw [if_pos (e.2 hq), if_neg hm]
end Go.Proofs.Yteianfbdhakhpaa
