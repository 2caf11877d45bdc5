import Derived.Test.YtknaljghpfeikaaT14
namespace Go.Proofs.Ytknaljghpfeikaa
open Go.RowKit


set_option maxRecDepth 100000 in
set_option maxHeartbeats 1000000 in
theorem Served_of (ar ap : Option Addr) (cr cp : Nat) (rs ps : List (Int × Int)) (p0 way step : Int) (n : Int) (w : World) (hR : Prs w ar rs) (hP : Prs w ap ps) (r1 r2 r3 : Int) (hso : ∀ W, Prs W ar rs → Prs W ap ps → Calls Try.prog 54 #[.agg #[.slice ar rs.length cr, .int .i64 p0, .int .i64 way, .int .i64 step, .slice ap ps.length cp], .int .i64 n] W fun e w' => e = .returned (.tuple #[.int .i64 r1, .int .i64 r2, .int .i64 r3]) ∧ Below W.heap.size W w') :
    Calls Try.prog 20 #[.agg #[.slice ar rs.length cr, .int .i64 p0, .int .i64 way, .int .i64 step, .slice ap ps.length cp], .int .i64 n] w fun e w' => e = .returned (.tuple #[.int .i64 r1, .int .i64 r3]) ∧ Below w.heap.size w w' := by
  obtain ⟨W, hW, hb, hs, x0⟩ := boxes1 w #[.slice ar rs.length cr, .int .i64 p0, .int .i64 way, .int .i64 step, .slice ap ps.length cp] 25
  clear hs
  replace hR := hR.below hb (Nat.le_refl _); replace hP := hP.below hb (Nat.le_refl _)
  have c0 := x0.cell 0 rfl; have c1 := x0.cell 1 rfl; have c2 := x0.cell 2 rfl; have c3 := x0.cell 3 rfl; have c4 := x0.cell 4 rfl
  go_enter Try.func20, Try.ntmps20
  go_wp2_with fail
  refine (hso W hR hP).mono ?_
  rintro e W1 ⟨rfl, hb1⟩
  replace hb := hb.trans (hb1.mono hb.size)
  clear hW x0 c0 c1 c2 c3 c4 hb1 hso
  go_wp2
  go_ret2
  exact ⟨rfl, hb⟩

set_option maxRecDepth 100000 in
set_option maxHeartbeats 1000000 in
theorem Wait_of (ar ap : Option Addr) (cr cp : Nat) (rs ps : List (Int × Int)) (p0 way step : Int) (n : Int) (w : World) (hR : Prs w ar rs) (hP : Prs w ap ps) (r1 r2 r3 : Int) (hso : ∀ W, Prs W ar rs → Prs W ap ps → Calls Try.prog 54 #[.agg #[.slice ar rs.length cr, .int .i64 p0, .int .i64 way, .int .i64 step, .slice ap ps.length cp], .int .i64 n] W fun e w' => e = .returned (.tuple #[.int .i64 r1, .int .i64 r2, .int .i64 r3]) ∧ Below W.heap.size W w') :
    Calls Try.prog 21 #[.agg #[.slice ar rs.length cr, .int .i64 p0, .int .i64 way, .int .i64 step, .slice ap ps.length cp], .int .i64 n] w fun e w' => e = .returned (.tuple #[.int .i64 r2, .int .i64 r3]) ∧ Below w.heap.size w w' := by
  obtain ⟨W, hW, hb, hs, x0⟩ := boxes1 w #[.slice ar rs.length cr, .int .i64 p0, .int .i64 way, .int .i64 step, .slice ap ps.length cp] 25
  clear hs
  replace hR := hR.below hb (Nat.le_refl _); replace hP := hP.below hb (Nat.le_refl _)
  have c0 := x0.cell 0 rfl; have c1 := x0.cell 1 rfl; have c2 := x0.cell 2 rfl; have c3 := x0.cell 3 rfl; have c4 := x0.cell 4 rfl
  go_enter Try.func21, Try.ntmps21
  go_wp2_with fail
  refine (hso W hR hP).mono ?_
  rintro e W1 ⟨rfl, hb1⟩
  replace hb := hb.trans (hb1.mono hb.size)
  clear hW x0 c0 c1 c2 c3 c4 hb1 hso
  go_wp2
  go_ret2
  exact ⟨rfl, hb⟩

end Go.Proofs.Ytknaljghpfeikaa
