import Derived.Test.YtknaljghpfeikaaM5
namespace Go.Proofs.Ytknaljghpfeikaa

theorem hear_cnt1 {h t : Int} (ht : h ≤ t) : ∀ (prs : List (Int × Int)) (s : Nat → Bool), (∀ p ∈ prs, 0 ≤ p.1 ∧ p.1 < 12) → yet prs t + cnt (hearS prs h t s) ≤ yet prs h + cnt s
  | [], s, _ => by simp [yet, hearS]
  | p :: prs, s, hp => by
    have ih := hear_cnt1 ht prs (hear1 h t s p) (fun q hq => hp q (by simp [hq]))
    have h0 := hp p (by simp)
    have e : hearS (p :: prs) h t s = hearS prs h t (hear1 h t s p) := rfl
    rw [e]
    unfold yet at ih ⊢
    simp only [List.countP_cons]
    by_cases h1 : h < p.2
    · by_cases h2 : p.2 ≤ t
      · have hc : cnt (hear1 h t s p) ≤ cnt s + 1 := by
          unfold hear1; rw [if_pos ⟨h1, h2⟩]; exact cnt_on s (by omega)
        have h3 : ¬ t < p.2 := by omega
        simp only [h1, h3, decide_true, decide_false, if_true]
        simp; omega
      · have hc : hear1 h t s p = s := by unfold hear1; rw [if_neg (fun h => h2 h.2)]
        rw [hc] at ih ⊢
        have h3 : t < p.2 := by omega
        simp only [h1, h3, decide_true, if_true]
        omega
    · have hc : hear1 h t s p = s := by unfold hear1; rw [if_neg (fun h => h1 h.1)]
      rw [hc] at ih ⊢
      have h3 : ¬ t < p.2 := by omega
      simp only [h1, h3, decide_false]
      simp; omega
/-- Plays one behind the other, the last one ended at a time. -/
def Seq1 (T : Tr) (L : List (Int × Int)) (b : Int) : Prop := ∀ A q B, L = A ++ q :: B → (∀ r B', B = r :: B' → q.2 + secs T q.1.toNat ≤ r.2) ∧ (B = [] → q.2 + secs T q.1.toNat ≤ b)
theorem Seq1.mono {T : Tr} {L : List (Int × Int)} {b b' : Int} (h : Seq1 T L b) (hb : b ≤ b') : Seq1 T L b' := fun A q B e => ⟨(h A q B e).1, fun h1 => by have := (h A q B e).2 h1; omega⟩
theorem Seq1.snoc {T : Tr} {L : List (Int × Int)} {b b' : Int} {p : Int × Int} (h : Seq1 T L b) (hp : b ≤ p.2) (hb : p.2 + secs T p.1.toNat ≤ b') : Seq1 T (L ++ [p]) b' := fun A q B e => by
  rcases List.eq_nil_or_concat B with rfl | ⟨B0, z, rfl⟩
  · have e1 := List.append_inj' e rfl
    injection e1.2 with e2
    subst e2
    exact ⟨fun r B' h1 => (by cases h1), fun _ => hb⟩
  · rw [List.concat_eq_append] at e ⊢
    have e0 : L ++ [p] = (A ++ q :: B0) ++ [z] := by rw [e]; simp
    have e1 := List.append_inj' e0 rfl
    injection e1.2 with e2
    subst e2
    have h3 := h A q B0 e1.1
    refine ⟨fun r B' h1 => ?_, fun h1 => by simp at h1⟩
    cases B0 with
    | nil =>
      have := h3.2 rfl
      simp at h1
      rw [← h1.1]
      omega
    | cons r0 B1 =>
      simp at h1
      rw [← h1.1]
      exact h3.1 r0 B1 rfl
/-- What is counted of a carriage at work. -/
structure Cn (T : Tr) (c : Car) : Prop where
  n : c.plays.length + yet T.prs c.heard + cnt c.pins ≤ T.prs.length
  s : Seq1 T c.plays c.time
  d : ∀ q ∈ c.plays, 0 ≤ q.1 ∧ q.1 < 2 * (T.rcs.length : Int) ∧ 0 ≤ q.2
theorem cn_leave {T : Tr} (hv : VT T) {c : Car} (h : Cn T c) : Cn T (leaveC T c) := by
  have hst := hv.st
  unfold leaveC
  split
  · exact ⟨h.n, h.s.mono (by show c.time ≤ c.time + T.step; omega), h.d⟩
  · exact ⟨h.n, h.s, h.d⟩
theorem cn_step {T : Tr} (hv : VT T) {c : Car} (hi : Inv T c) (h0 : 0 ≤ c.time) (hm : c.time ≤ maxI) (h : Cn T c) : Cn T (stepC T c) := by
  have hh : Cn T (hearC T c) := by
    refine ⟨?_, h.s, h.d⟩
    have h1 := hear_cnt1 hi.he.1 T.prs c.pins (fun p hp => by have := hv.pr p hp; have := hv.n6; omega)
    have h2 := h.n
    show c.plays.length + yet T.prs c.time + cnt (hearS T.prs c.heard c.time c.pins) ≤ _
    omega
  have hi2 := hear_inv hv hi
  have ht : (hearC T c).time = c.time := rfl
  unfold stepC
  generalize hearC T c = d at *
  unfold actC
  split
  · exact ⟨hh.n, hh.s, hh.d⟩
  · split
    · exact cn_leave hv (c := { d with side := -1 }) ⟨hh.n, hh.s, hh.d⟩
    · split
      · refine ⟨hh.n, hh.s.mono ?_, hh.d⟩
        show d.time ≤ nextP T.prs d.time
        rcases next_is d.time T.prs maxI with h | ⟨p, _, h1, h2⟩
        · unfold nextP; rw [h]; omega
        · unfold nextP; rw [h2]; omega
      · split
        · rename_i hp
          have hl := side_lt (up := d.up) hi2.pos
          have hn6 := hv.n6
          refine ⟨?_, ?_, fun q hq => ?_⟩
          · have h1 := cnt_off d.pins (k := sideAt d.up d.pos) (by omega) hp
            have h2 := hh.n
            show (d.plays ++ [_]).length + yet T.prs d.heard + cnt (fun i => d.pins i && !decide (i = sideAt d.up d.pos)) ≤ _
            rw [List.length_append, List.length_singleton]
            omega
          · exact hh.s.snoc (p := (((sideAt d.up d.pos : Nat) : Int), d.time)) (Int.le_refl _) (Int.le_refl _)
          · rcases List.mem_append.1 (show q ∈ d.plays ++ [(((sideAt d.up d.pos : Nat) : Int), d.time)] from hq) with h | h
            · exact hh.d q h
            · rw [List.mem_singleton.1 h]
              dsimp only
              omega
        · exact cn_leave hv hh
theorem cn_run {T : Tr} (hv : VT T) {b : Int} (hb : b ≤ maxI) : Cn T (runM T b) := by
  obtain ⟨K, hK⟩ := run_ex hv hb
  rw [runM_is hK]
  have key : ∀ j, j ≤ K → Cn T (iterC T j (startC T)) := by
    intro j
    induction j with
    | zero =>
      intro _
      refine ⟨?_, fun A q B e => ?_, fun q hq => by cases hq⟩
      · show 0 + yet T.prs (-1) + 0 ≤ _
        have := List.countP_le_length (l := T.prs) (p := fun p => decide ((-1 : Int) < p.2))
        unfold yet
        omega
      · have : ([] : List (Int × Int)) = A ++ q :: B := e
        simp at this
    | succ j ih =>
      intro hj
      have hr := hK.rng j (by omega)
      have hl := hK.lo j (by omega)
      exact cn_step hv hr.inv hr.t0 (by omega) (ih (by omega))
  exact key K (Nat.le_refl _)
end Go.Proofs.Ytknaljghpfeikaa
