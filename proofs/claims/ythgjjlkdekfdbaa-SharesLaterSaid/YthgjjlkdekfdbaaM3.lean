import Derived.Test.YthgjjlkdekfdbaaT1
/-! Greater takings: mathematics. -/
namespace Go.Proofs.Ythgjjlkdekfdbaa
set_option linter.unusedSimpArgs false
set_option linter.unusedVariables false
open Go.RowKit

/-- Whether a clause rounds. -/
def rndB (x : Cl) : Bool := decide (x.k = 3) || decide (x.k = 4)
/-- How many clauses round. -/
def cntR (cs : List Cl) : Nat := (cs.filter rndB).length
theorem cntR_snoc (cs : List Cl) (x : Cl) : cntR (cs ++ [x]) = cntR cs + (if rndB x then 1 else 0) := by
  unfold cntR; rw [List.filter_append, List.length_append]
  cases h : rndB x <;> simp [h]
theorem cntR_cons (x : Cl) (cs : List Cl) : cntR (x :: cs) = (if rndB x then 1 else 0) + cntR cs := by
  unfold cntR
  cases h : rndB x
  · simp [List.filter_cons, h]
  · simp [List.filter_cons, h]; omega
theorem cntR_le (cs : List Cl) : cntR cs ≤ cs.length := by unfold cntR; exact List.length_filter_le _ _

/-- Two weeks, before a clause rounds: v has greater takings than w. -/
structure RA (w v : Wk) : Prop where
  rest : w.rest ≤ v.rest
  ow : w.ow ≤ v.ow
  owed : v.owed ≤ w.owed
/-- Two weeks, also behind one that rounds. -/
structure RB (w v : Wk) : Prop where
  ow : w.ow ≤ v.ow
  both : w.ow + w.rest ≤ v.ow + v.rest
  owed : v.owed ≤ w.owed ∨ v.rest = 0
theorem RA.rb {w v : Wk} (h : RA w v) : RB w v := ⟨h.ow, by have := h.rest; have := h.ow; omega, .inl h.owed⟩

theorem step_kinds (w : Wk) (x : Cl) (hx : x.ok) : (x.k = 1 ∧ stepW w x = payOp w (min w.rest x.c)) ∨ (x.k = 2 ∧ stepW w x = payLe w (min w.rest (min x.c w.owed))) ∨ ((x.k = 3 ∨ x.k = 4) ∧ stepW w x = payOw w (givesW w x)) ∨ (x.k = 5 ∧ stepW w x = payOw w (min w.rest (max 0 (x.c - w.ow)))) := by
  have hk := hx.1
  obtain h | h | h | h | h : x.k = 1 ∨ x.k = 2 ∨ x.k = 3 ∨ x.k = 4 ∨ x.k = 5 := by omega
  · exact .inl ⟨h, by simp [stepW, payW, partyOf, givesW, asks, h]⟩
  · exact .inr (.inl ⟨h, by simp [stepW, payW, partyOf, givesW, asks, h]⟩)
  · exact .inr (.inr (.inl ⟨.inl h, by simp [stepW, payW, partyOf, h]⟩))
  · exact .inr (.inr (.inl ⟨.inr h, by simp [stepW, payW, partyOf, h]⟩))
  · exact .inr (.inr (.inr ⟨h, by simp [stepW, payW, partyOf, givesW, asks, h]⟩))
theorem rnd_mono {T T' L : Int} {w v : Wk} {x : Cl} (hx : x.ok) (hw : Inv T L w) (hv : Inv T' L v) (hk : x.k = 3 ∨ x.k = 4) (h : w.rest ≤ v.rest) : givesW w x ≤ givesW v x := by
  have a1 := asks_part hx hw hk
  have a2 := asks_part hx hv hk
  have e1 : givesW w x = asks x w := by unfold givesW; omega
  have e2 : givesW v x = asks x v := by unfold givesW; omega
  rw [e1, e2]
  obtain ⟨_, hc, hp, hm⟩ := hx
  have r1 := hw.rest
  unfold asks
  rcases hk with hk | hk
  · simp only [hk, if_true, show ¬ ((3 : Int) = 1) from by decide, show ¬ ((3 : Int) = 2) from by decide, if_false]
    have := Int.mul_le_mul_of_nonneg_right h hp.1
    omega
  · simp only [hk, if_true, show ¬ ((4 : Int) = 1) from by decide, show ¬ ((4 : Int) = 2) from by decide, show ¬ ((4 : Int) = 3) from by decide, if_false]
    have b1 : min w.rest x.c ≤ min v.rest x.c := by omega
    have b2 : w.rest - min w.rest x.c ≤ v.rest - min v.rest x.c := by omega
    have m1 := Int.mul_le_mul_of_nonneg_right b1 hp.1
    have m2 := Int.mul_le_mul_of_nonneg_right b2 hm.1
    omega
theorem RA.step {T T' L : Int} {w v : Wk} {x : Cl} (hx : x.ok) (hw : Inv T L w) (hv : Inv T' L v) (h : RA w v) (hr : rndB x = false) : RA (stepW w x) (stepW v x) := by
  have hc := hx.2.1
  obtain ⟨h1, h2, h3⟩ := h
  have w1 := hw.rest; have w2 := hw.owed; have v1 := hv.rest; have v2 := hv.owed
  have hn : ¬ (x.k = 3 ∨ x.k = 4) := fun hh => by
    unfold rndB at hr
    rcases hh with hh | hh <;> simp [hh] at hr
  rcases step_kinds w x hx with ⟨k, e⟩ | ⟨k, e⟩ | ⟨k, e⟩ | ⟨k, e⟩
  · rcases step_kinds v x hx with ⟨k', e'⟩ | ⟨k', e'⟩ | ⟨k', e'⟩ | ⟨k', e'⟩
    · rw [e, e']; constructor <;> simp only [payOp] <;> omega
    · omega
    · omega
    · omega
  · rcases step_kinds v x hx with ⟨k', e'⟩ | ⟨k', e'⟩ | ⟨k', e'⟩ | ⟨k', e'⟩
    · omega
    · rw [e, e']; constructor <;> simp only [payLe] <;> omega
    · omega
    · omega
  · exact absurd k hn
  · rcases step_kinds v x hx with ⟨k', e'⟩ | ⟨k', e'⟩ | ⟨k', e'⟩ | ⟨k', e'⟩
    · omega
    · omega
    · omega
    · rw [e, e']; constructor <;> simp only [payOw] <;> omega
theorem RA.round {T T' L : Int} {w v : Wk} {x : Cl} (hx : x.ok) (hw : Inv T L w) (hv : Inv T' L v) (h : RA w v) (hr : rndB x = true) : RB (stepW w x) (stepW v x) := by
  have hk : x.k = 3 ∨ x.k = 4 := by unfold rndB at hr; simpa using hr
  have hm := rnd_mono hx hw hv hk h.rest
  obtain ⟨h1, h2, h3⟩ := h
  rcases step_kinds w x hx with ⟨k, e⟩ | ⟨k, e⟩ | ⟨k, e⟩ | ⟨k, e⟩
  · omega
  · omega
  · rcases step_kinds v x hx with ⟨k', e'⟩ | ⟨k', e'⟩ | ⟨k', e'⟩ | ⟨k', e'⟩
    · omega
    · omega
    · rw [e, e']; constructor <;> simp only [payOw] <;> omega
    · omega
  · omega
theorem RB.step {T T' L : Int} {w v : Wk} {x : Cl} (hx : x.ok) (hw : Inv T L w) (hv : Inv T' L v) (h : RB w v) (hr : rndB x = false) : RB (stepW w x) (stepW v x) := by
  have hc := hx.2.1
  obtain ⟨h1, h2, h3⟩ := h
  have w1 := hw.rest; have w2 := hw.owed; have v1 := hv.rest; have v2 := hv.owed; have w3 := hw.ow; have v3 := hv.ow
  have hn : ¬ (x.k = 3 ∨ x.k = 4) := fun hh => by
    unfold rndB at hr
    rcases hh with hh | hh <;> simp [hh] at hr
  rcases step_kinds w x hx with ⟨k, e⟩ | ⟨k, e⟩ | ⟨k, e⟩ | ⟨k, e⟩
  · rcases step_kinds v x hx with ⟨k', e'⟩ | ⟨k', e'⟩ | ⟨k', e'⟩ | ⟨k', e'⟩
    · rw [e, e']; constructor <;> simp only [payOp] <;> omega
    · omega
    · omega
    · omega
  · rcases step_kinds v x hx with ⟨k', e'⟩ | ⟨k', e'⟩ | ⟨k', e'⟩ | ⟨k', e'⟩
    · omega
    · rw [e, e']; constructor <;> simp only [payLe] <;> omega
    · omega
    · omega
  · exact absurd k hn
  · rcases step_kinds v x hx with ⟨k', e'⟩ | ⟨k', e'⟩ | ⟨k', e'⟩ | ⟨k', e'⟩
    · omega
    · omega
    · omega
    · rw [e, e']; constructor <;> simp only [payOw] <;> omega
theorem RB.behind {T T' L : Int} : ∀ {cs : List Cl} {w v : Wk}, (∀ x ∈ cs, x.ok) → Inv T L w → Inv T' L v → RB w v → cntR cs = 0 → RB (behindW w cs) (behindW v cs)
  | [], _, _, _, _, _, h, _ => h
  | x :: cs, w, v, hok, hw, hv, h, hc => by
    rw [cntR_cons] at hc
    have hx := hok x List.mem_cons_self
    have hr : rndB x = false := by
      cases hh : rndB x
      · rfl
      · rw [hh] at hc; simp at hc
    exact RB.behind (cs := cs) (fun y hy => hok y (List.mem_cons_of_mem _ hy)) (hw.step hx) (hv.step hx) (h.step hx hw hv hr) (by omega)
theorem RA.behind {T T' L : Int} : ∀ {cs : List Cl} {w v : Wk}, (∀ x ∈ cs, x.ok) → Inv T L w → Inv T' L v → RA w v → cntR cs ≤ 1 → RB (behindW w cs) (behindW v cs)
  | [], _, _, _, _, _, h, _ => h.rb
  | x :: cs, w, v, hok, hw, hv, h, hc => by
    rw [cntR_cons] at hc
    have hx := hok x List.mem_cons_self
    cases hh : rndB x
    · rw [hh] at hc
      exact RA.behind (cs := cs) (fun y hy => hok y (List.mem_cons_of_mem _ hy)) (hw.step hx) (hv.step hx) (h.step hx hw hv hh) (by simpa using hc)
    · rw [hh] at hc
      exact RB.behind (cs := cs) (fun y hy => hok y (List.mem_cons_of_mem _ hy)) (hw.step hx) (hv.step hx) (h.round hx hw hv hh) (by simp at hc; omega)
/-- Of greater takings the owner does not get less. -/
theorem greater {cs : List Cl} {L t m : Int} (hok : ∀ x ∈ cs, x.ok) (hL : 0 ≤ L) (ht : 0 ≤ t) (hm : 0 ≤ m) (hc : cntR cs ≤ 1) : (settledW L cs t).ow ≤ (settledW L cs (t + m)).ow := by
  have h0 : RA (beginW L t) (beginW L (t + m)) := ⟨by simp only [beginW]; omega, Int.le_refl _, Int.le_refl _⟩
  exact (RA.behind hok (Inv.begin ht hL) (Inv.begin (by omega) hL) h0 hc).ow
end Go.Proofs.Ythgjjlkdekfdbaa
