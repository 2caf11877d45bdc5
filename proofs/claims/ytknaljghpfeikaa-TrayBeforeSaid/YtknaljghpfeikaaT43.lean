import Derived.Test.YtknaljghpfeikaaT42
namespace Go.Proofs.Ytknaljghpfeikaa
open Go.RowKit

theorem order_any (ar ap : Option Addr) (cr cp : Nat) (rs ps : List (Int × Int)) (p0 way step : Int) (by' : Int) (back : Bool) (w : World) (hlr : rs.length ≤ 9223372036854775807) (hlp : ps.length ≤ 9223372036854775807) (hR : rs.length ≤ 1000 → Prs w ar rs) (hP : ps.length ≤ 1000 → Prs w ap ps) :
    Calls Try.prog 4 #[.agg #[.slice ar rs.length cr, .int .i64 p0, .int .i64 way, .int .i64 step, .slice ap ps.length cp], .int .i64 by', .bool back] w (WorksP w) := by
  cases hv : rdB rs ps p0 way step
  · exact or_arg0 ar ap cr cp rs ps p0 way step by' back w hlr hlp hR hP hv
  · have hl := rdB_6 (rdB_len hv)
    have hR' := hR (by omega)
    have hP' := hP (by omega)
    by_cases hbad : by' < 0 ∨ 1000 < by' ∨ ps.length = 0
    · exact or_arg1 ar ap cr cp rs ps p0 way step by' back w hR' hP' (by omega) hv hbad
    · obtain ⟨bn, rfl⟩ : ∃ bn : Nat, by' = (bn : Int) := ⟨by'.toNat, by omega⟩
      obtain ⟨T, hT, _⟩ := tr_of (rdB_len hv)
      cases back
      · exact or_false ar ap cr cp rs ps p0 way step bn w hR' hP' hv (by omega) (by omega) T hT
      · exact or_true ar ap cr cp rs ps p0 way step bn w hR' hP' hv (by omega) (by omega) T hT
end Go.Proofs.Ytknaljghpfeikaa
