import Derived.Test.YteianfbdhakhpaaQ6
/-! A region that draws its order, taken whole as a head: no operation is left for a tail. -/
namespace Go.Proofs.Yteianfbdhakhpaa
set_option linter.unusedSimpArgs false
set_option linter.unusedVariables false
open Go
section
variable {P : Program} {md : Region.Mode} {ops : Array Oper} {S : World → Prop} {Q : Exit → Act → World → Prop}

theorem headH_firstW {n i : Nat} {oi : Oper} {v : Value} {L : Array Bool → Act → World → Prop} (hi : ops[i]? = some oi) (hsel : ∀ (j : Nat) (o : Oper) cs b, ops[j]? = some o → o.op ≠ .select cs b)
    (hn : ops.size ≤ n)
    (hQ : ∀ c a w, Q (.panic c) (a.put oi.dst v) w → Q (.panic c) a w)
    (hdone : ∀ s a w, L s a w → ∀ j ∈ Region.ready md ops s, n ≤ j) :
    ∀ (f : Nat) (s : Array Bool) (a : Act) (w : World), HeadInv md ops n s →
      (∀ j oj, ops[j]? = some oj → j ≠ i → s.getD j true = false → (∀ e ∈ oj.after, Region.binds md e = true → e.on ≠ i) → oi.apart ops oj = true) →
      i ∈ Region.ready md ops s → YieldsIf P ops S oi v a → S w →
      headH P md ops Q S n L f (s.setIfInBounds i true) (a.put oi.dst v) w → headH P md ops Q S n L (f + 1) s a w := by
  have hlt : ∀ (s : Array Bool) (j : Nat), j ∈ Region.ready md ops s → j < n := fun s j hj => by
    obtain ⟨_, oj, hoj, _⟩ := mem_ready.1 hj
    exact Nat.lt_of_lt_of_le (Array.getElem?_eq_some_iff.1 hoj).1 hn
  intro f
  induction f with
  | zero =>
    intro s a w inv _ hr hy hS H
    refine ⟨List.ne_nil_of_mem hr, fun j hj => ?_⟩
    have hjn : j < n := hlt s j hj
    refine ⟨hjn, ?_⟩
    by_cases e : j = i
    · rw [e]; exact hy.wpOp hi hS ⟨hS, H⟩
    · exact absurd (hdone _ _ _ H j (ready_mono hj e)) (by omega)
  | succ f ih =>
    intro s a w inv hfree hr hy hS H
    have hun := (mem_ready.1 hr).1
    refine ⟨List.ne_nil_of_mem hr, fun j hj => ?_⟩
    have hjn : j < n := hlt s j hj
    refine ⟨hjn, ?_⟩
    by_cases e : j = i
    · rw [e]; exact hy.wpOp hi hS ⟨hS, H⟩
    · obtain ⟨hjun, oj, hoj, hall⟩ := mem_ready.1 hj
      have free : ∀ x ∈ oj.after, Region.binds md x = true → x.on ≠ i := by
        intro x hx hb hxi
        have := hall x hx hb
        rw [hxi, getD_both hun] at this
        cases this
      have h2 := wpOp_putIf hoj (hfree j oj hoj e hjun free) (fun cs b => hsel i oi cs b hi) (fun cs b => hsel j oj cs b hoj) hQ hy (H.2 j (ready_mono hj e)).2
      refine wpOp_mono (fun a' w' h3 => ⟨h3.2.1, ih (s.setIfInBounds j true) a' w' (inv.set hj hjn) ?_ (ready_mono hr (Ne.symm e)) h3.1 h3.2.1 ?_⟩) h2
      · intro k ok hk hki hkun hno
        refine hfree k ok hk hki ?_ hno
        by_cases ejk : j = k
        · rw [← ejk]; exact hjun
        · rw [getD_set_ne true ejk] at hkun; exact hkun
      · rw [Array.setIfInBounds_comm _ _ e]
        exact h3.2.2

/-- A read may be taken first. -/
theorem HeadAt.takeW {l : List Oper} {n f i : Nat} {s : Array Bool} {a : Act} {w : World} {oi : Oper} (v : Value) (hi : l.toArray[i]? = some oi)
    (hb : (Region.noSelect l.toArray && (decide (l.toArray.size ≤ n) && (decide (i < n) && (Region.free .any l.toArray s i && (Region.ready .any l.toArray s).contains i)))) = true)
    (hy : YieldsIf P l.toArray S oi v a) (hS : S w) (h : HeadAt P l Q S n f (s.setIfInBounds i true) (a.put oi.dst v) w) : HeadAt P l Q S n (f + 1) s a w := fun inv => by
  simp only [Bool.and_eq_true, decide_eq_true_eq] at hb
  obtain ⟨h1, h4, h5, h6, h7⟩ := hb
  have hr : i ∈ Region.ready .any l.toArray s := by simpa using h7
  exact headH_firstW hi (Region.noSelect_spec h1) h4 (fun c a w hh => hh) (fun s a w hL => seqB_ready hL.1) f s a w inv (Region.free_spec hi h6) hr hy hS (h (inv.set hr h5))

theorem wp_region_headW {id : Nat} {a : Act} {w : World} {l : List Oper} (n : Nat) (S : World → Prop) (hm : P.follows .mixedOrders = true) (hn : decide (n ≤ l.length) = true)
    (h : HeadAt P l Q S n n (Array.replicate l.length false) a w.drew) : (Code.region id l.toArray true).wp P Q a w := by
  simp only [decide_eq_true_eq] at hn
  have inv0 : HeadInv .any l.toArray n (Array.replicate l.length false) := by
    refine ⟨by simp, fun j oj _ hl => ?_, fun t _ ht => getD_in (by simpa using ht) (getD_replicate_false _ _)⟩
    rw [getD_replicate_false] at hl; cases hl
  refine wp_region_noPanic (wp_region_any hm ?_)
  have := headH_any (g := l.length - n) (fun s a w (hL : tailL P .any l (NoPanic Q) n s a w) => by
    have := wpAny_of_seq (md := .any) (Q' := NoPanic Q) (l.drop n) n s a w (fun j => by simp [List.getElem?_drop]) (by rw [List.length_drop]; exact hL.1) hL.2
    rwa [List.length_drop] at this) _ _ _ _ (h inv0)
  rw [show n + (l.length - n) = l.length by omega] at this
  simpa using this
end
end Go.Proofs.Yteianfbdhakhpaa
