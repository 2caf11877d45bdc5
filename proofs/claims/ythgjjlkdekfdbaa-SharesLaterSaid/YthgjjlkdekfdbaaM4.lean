import Derived.Test.YthgjjlkdekfdbaaM3
import Derived.Test.YthgjjlkdekfdbaaT18
/-! Each cent: mathematics. -/
namespace Go.Proofs.Ythgjjlkdekfdbaa
set_option linter.unusedSimpArgs false
set_option linter.unusedVariables false
open Go.RowKit

/-- What a step does to a week's numbers. -/
theorem step_parts (w : Wk) (x : Cl) (hx : x.ok) : (stepW w x).rest = w.rest - givesW w x ∧ (stepW w x).ow = (if 3 ≤ x.k then w.ow + givesW w x else w.ow) ∧ (stepW w x).rp = (if x.k = 2 then w.rp + givesW w x else w.rp) := by
  have hk := hx.1
  obtain h | h | h | h | h : x.k = 1 ∨ x.k = 2 ∨ x.k = 3 ∨ x.k = 4 ∨ x.k = 5 := by omega
  all_goals simp [stepW, payW, partyOf, payOp, payLe, payOw, h]
theorem ow_step {T L : Int} {w : Wk} {x : Cl} (hx : x.ok) (h : Inv T L w) : w.ow ≤ (stepW w x).ow := by
  obtain ⟨_, h2, _⟩ := step_parts w x hx
  have := gives_rng hx h
  rw [h2]
  split <;> omega
theorem ow_behind {T L : Int} : ∀ {cs : List Cl} {w : Wk}, (∀ x ∈ cs, x.ok) → Inv T L w → w.ow ≤ (behindW w cs).ow
  | [], _, _, _ => Int.le_refl _
  | x :: cs, w, hok, h => Int.le_trans (ow_step (hok x List.mem_cons_self) h) (ow_behind (cs := cs) (fun y hy => hok y (List.mem_cons_of_mem _ hy)) (h.step (hok x List.mem_cons_self)))
theorem gift_inv {cs : List Cl} {L t g : Int} (ho : Ok cs L t) (hg : 0 ≤ g) : Inv t L (giftW L cs t g) ∧ (giftW L cs t g).rest = 0 ∧ min g t ≤ (giftW L cs t g).ow := by
  have h0 := Inv.gift (L := L) (t := t) (g := g) ho.t.1 ho.L.1 hg
  have h1 := h0.behind ho.cs
  refine ⟨h1.fin.1, h1.fin.2, ?_⟩
  have := ow_behind ho.cs h0
  have e : (payOw (beginW L t) (min g t)).ow = min g t := by simp only [payOw, beginW]; omega
  rw [e] at this
  exact this
/-- The week behind the first clauses. -/
def preW (L : Int) (cs : List Cl) (t : Int) (k : Nat) : Wk := behindW (beginW L t) (cs.take k)
theorem preW_inv {cs : List Cl} {L t : Int} (h : Ok cs L t) (k : Nat) : Inv t L (preW L cs t k) := (Inv.begin h.t.1 h.L.1).behind fun x hx => h.cs x (List.mem_of_mem_take hx)
theorem preW_succ {cs : List Cl} {L t : Int} {k : Nat} {x : Cl} (hx : cs[k]? = some x) : preW L cs t (k + 1) = stepW (preW L cs t k) x ∧ givesC L cs t k = givesW (preW L cs t k) x := by
  constructor
  · unfold preW
    rw [List.take_add_one, hx, Option.toList_some, behind_snoc]
  · unfold givesC preW
    rw [List.getD_eq_getElem?_getD, hx]; rfl
theorem preW_all (L : Int) (cs : List Cl) (t : Int) : (settledW L cs t).ow = (preW L cs t cs.length).ow ∧ (settledW L cs t).rp = (preW L cs t cs.length).rp := by
  unfold preW settledW
  rw [List.take_length]
  exact ⟨rfl, rfl⟩
end Go.Proofs.Ythgjjlkdekfdbaa
