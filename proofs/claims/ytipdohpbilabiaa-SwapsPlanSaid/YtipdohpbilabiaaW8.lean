import Derived.Test.YtipdohpbilabiaaW2
import Derived.Test.YtipdohpbilabiaaW7
/-! SwapsPlan: any visit. -/
namespace Go.Proofs.Ytipdohpbilabiaa
set_option linter.unusedSimpArgs false
set_option linter.unusedVariables false
open Go Go.RowKit

theorem swapsPlan_row (ab ast ae ak : Option Addr) (cb cs ce ck : Nat) (X : Sw) (w : World) (hX : SwIn w ab ast ae ak X) : Calls Try.prog 7 #[.agg #[.slice ab X.bs.length cb, .slice ast X.st.length cs, .slice ae X.er.length ce, .slice ak X.ks.length ck, .int .i64 X.ch]] w fun e w' => e = .returned (.bool true) ∧ Below w.heap.size w w' := by
  by_cases hk : X.ks.length ≤ 1000
  · have hs := hX.swp hk
    cases hr : rdB X
    · refine PlanN_bad ab ast ae ak cb cs ce ck X w (fun V hV => ?_)
      have := ready_any ab ast ae ak cb cs ce ck X V (hs.below hV (Nat.le_refl _))
      rw [hr] at this
      exact this
    · exact swapsPlan_any ab ast ae ak cb cs ce ck X w hs hr
  · exact PlanN_bad ab ast ae ak cb cs ce ck X w (fun V hV => ready_huge ab ast ae ak cb cs ce ck X V (hX.below hV (Nat.le_refl _)) (by omega))
end Go.Proofs.Ytipdohpbilabiaa
