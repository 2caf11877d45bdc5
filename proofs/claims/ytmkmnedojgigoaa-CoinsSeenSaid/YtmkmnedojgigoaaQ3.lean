import Derived.Test.YtmkmnedojgigoaaQ2
/-! A head of a region where one of two operations that change the world can come next. -/
namespace Go.Proofs.Ytmkmnedojgigoaa
open Go
section
variable {P : Program} {S : World → Prop} {Q : Exit → Act → World → Prop}
theorem HeadAt.two {l : List Oper} {n f i j : Nat} {s : Array Bool} {a : Act} {w : World} {oi oj : Oper} (hi : l.toArray[i]? = some oi) (hj : l.toArray[j]? = some oj)
    (hb : (decide (i < n) && (decide (j < n) && decide (Region.ready .any l.toArray s = [i, j]))) = true)
    (h1 : wpList P l.toArray (Upto (fun a' w' => S w' ∧ HeadAt P l Q S n f (s.setIfInBounds i true) a' w') (NoPanic Q)) [oi] a w)
    (h2 : wpList P l.toArray (Upto (fun a' w' => S w' ∧ HeadAt P l Q S n f (s.setIfInBounds j true) a' w') (NoPanic Q)) [oj] a w) : HeadAt P l Q S n (f + 1) s a w := fun inv => by
  simp only [Bool.and_eq_true, decide_eq_true_eq] at hb
  obtain ⟨h5, h6, hr⟩ := hb
  refine ⟨by rw [hr]; simp, fun k hk => ?_⟩
  have hk' := hk
  rw [hr] at hk'
  simp only [List.mem_cons, List.not_mem_nil, or_false] at hk'
  rcases hk' with rfl | rfl
  · exact ⟨h5, wpOp_mono (fun a' w' h' => ⟨h'.1, h'.2 (inv.set hk h5)⟩) (wpOp_of_list hi h1)⟩
  · exact ⟨h6, wpOp_mono (fun a' w' h' => ⟨h'.1, h'.2 (inv.set hk h6)⟩) (wpOp_of_list hj h2)⟩
end
end Go.Proofs.Ytmkmnedojgigoaa
