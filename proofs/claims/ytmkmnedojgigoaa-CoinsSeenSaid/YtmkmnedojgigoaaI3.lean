import Derived.Test.YtmkmnedojgigoaaI2
namespace Go.Proofs.Ytmkmnedojgigoaa
open Go.RowKit

theorem around_any (r : Int) (an ac : Option Addr) (cn cc : Nat) (N C : List Int) (p k : Int) (w : World) (hN : Ints w an N) (hC : Ints w ac C) : Calls Try.prog 9 #[.agg #[.int .i64 r, .slice an N.length cn, .slice ac C.length cc], .int .i64 p, .int .i64 k] w (WorksP w) := by
  cases hw : isWhl r N C
  · exact around_not _ _ _ _ _ _ _ p k w hN hC hw
  · obtain ⟨R, rfl, hv⟩ := isWhl_vw hw
    cases ho : argAr R C p k
    · exact around_arg _ _ _ _ _ _ _ p k w hN hC hw hv ho
    · simp only [argAr, Bool.and_eq_true, decide_eq_true_eq, inR_iff] at ho
      obtain ⟨a, rfl⟩ := Int.eq_ofNat_of_zero_le ho.1.1
      obtain ⟨b, rfl⟩ := Int.eq_ofNat_of_zero_le ho.2.1
      exact around_ok _ _ _ _ _ _ _ a b w hN hC hw hv (by omega) (by omega)
end Go.Proofs.Ytmkmnedojgigoaa
