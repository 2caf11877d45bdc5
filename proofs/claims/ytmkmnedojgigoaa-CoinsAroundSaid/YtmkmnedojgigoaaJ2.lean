/- CoinsAround of the commit named in COMMIT returns true: for every wheel, place and kind, in every world that holds them, and it leaves them as they were. No condition is added to the given statement. -/
import Derived.Test.YtmkmnedojgigoaaJ1
namespace Go.Proofs.Ytmkmnedojgigoaa
open Go.ChangeShapes Go.WideShapes Go.ChangeAt Go.RowKit

theorem around_holds : Rows.CoinsAroundSaid :=
  OpenClaim.holds_of_wide 9 Try.f9 rfl rfl rfl rfl rfl rfl rfl ⟨rfl, rfl, rfl, rfl, rfl⟩ rfl rfl rfl rfl rfl (by kernel_rfl) Try.func9 (by kernel_rfl)
    (of_decide_eq_true (by kernel_rfl)) (by unfold Func.isWrapper; rw [if_neg (by decide +kernel)]; exact ⟨rfl, rfl⟩)
    (fun os started H enc _ => around_lifted os started H enc)
end Go.Proofs.Ytmkmnedojgigoaa
