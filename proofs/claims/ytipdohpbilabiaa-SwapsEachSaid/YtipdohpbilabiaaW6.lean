import Derived.Test.YtipdohpbilabiaaW2
import Derived.Test.YtipdohpbilabiaaW5
/-! SwapsEach: any visit and plan. -/
namespace Go.Proofs.Ytipdohpbilabiaa
set_option linter.unusedSimpArgs false
set_option linter.unusedVariables false
open Go Go.RowKit Go.ChangeShapes Go.WideShapes Go.ChangeAt

set_option maxRecDepth 100000 in
theorem lists_open22 {H : Type} {enc : TypeId × Value → H} {W : World} {b0 : Nat} {v : Value} {d : DataW H} {p : List MemPlace} (hv : Value.okWide Try.prog W .any b0 22 v)
    (h : DataW.Trod enc Try.prog W 0 (fun _ => true) true 22 v d p) : ∃ a c LL, v = .slice a LL.length c ∧ Lss W a LL := by
  obtain ⟨a, n, c, rfl⟩ := okWide_slice Try.underlying22 hv
  obtain ⟨_, h⟩ := h
  exact lss_open22 (v := .slice a n c) (y := (d, p)) h

theorem swapsEach_row (ab ast ae ak : Option Addr) (cb cs ce ck : Nat) (X : Sw) (ap : Option Addr) (cp : Nat) (P : List (List Int)) (w : World) (hX : SwIn w ab ast ae ak X) (hP : Lss w ap P) : Calls Try.prog 6 #[.agg #[.slice ab X.bs.length cb, .slice ast X.st.length cs, .slice ae X.er.length ce, .slice ak X.ks.length ck, .int .i64 X.ch], .slice ap P.length cp] w fun e w' => e = .returned (.bool true) ∧ Below w.heap.size w w' := by
  by_cases hk : X.ks.length ≤ 1000
  · have hs := hX.swp hk
    cases hr : rdB X
    · refine EachN_bad ab ast ae ak cb cs ce ck X ap cp P.length w (fun V hV => ?_)
      have := ready_any ab ast ae ak cb cs ce ck X V (hs.below hV (Nat.le_refl _))
      rw [hr] at this
      exact this
    · cases hf : farL P
      · cases hp : plB X P
        · exact Each_far ab ast ae ak cb cs ce ck X ap cp P w hs hP hr (.inr hp)
        · exact swapsEach_any ab ast ae ak cb cs ce ck X ap cp P w hs hP hr hf hp
      · exact Each_far ab ast ae ak cb cs ce ck X ap cp P w hs hP hr (.inl hf)
  · exact EachN_bad ab ast ae ak cb cs ce ck X ap cp P.length w (fun V hV => ready_huge ab ast ae ak cb cs ce ck X V (hX.below hV (Nat.le_refl _)) (by omega))
end Go.Proofs.Ytipdohpbilabiaa
