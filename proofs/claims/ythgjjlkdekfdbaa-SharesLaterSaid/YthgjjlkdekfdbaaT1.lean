import Derived.Test.YthgjjlkdekfdbaaG2
import Derived.Test.YthgjjlkdekfdbaaProg
import Derived.Test.YthgjjlkdekfdbaaChecked
import Derived.StillTailTactics
/-! Small functions: whether a contract is valid. -/
namespace Go.Proofs.Ythgjjlkdekfdbaa
set_option linter.unusedSimpArgs false
set_option linter.unusedVariables false
open Go Go.RowKit

def inI (lo x hi : Int) : Bool := decide (lo ≤ x) && decide (x ≤ hi)
def cenB (x : Int) : Bool := inI 0 x 9999
/-- Whether a clause is valid. -/
def clB (x : Cl) : Bool := inI 1 x.k 5 && inI 0 x.c 9999 && inI 0 x.p 100 && inI 0 x.m 100
/-- Whether a contract is valid. -/
def shB (cs : List Cl) (L : Int) : Bool := decide (cs.length ≤ 5) && cs.all clB && inI 0 L 9999
theorem inI_iff {lo x hi : Int} : inI lo x hi = true ↔ lo ≤ x ∧ x ≤ hi := by simp [inI]
theorem clB_ok {x : Cl} (h : clB x = true) : x.ok := by
  unfold clB at h
  simp only [Bool.and_eq_true, inI_iff] at h
  exact ⟨h.1.1.1, h.1.1.2, h.1.2, h.2⟩
theorem shB_ok {cs : List Cl} {L : Int} (h : shB cs L = true) : cs.length ≤ 5 ∧ (∀ x ∈ cs, x.ok) ∧ 0 ≤ L ∧ L ≤ 9999 := by
  unfold shB at h
  simp only [Bool.and_eq_true, inI_iff, decide_eq_true_eq, List.all_eq_true] at h
  exact ⟨h.1.1, fun x hx => clB_ok (h.1.2 x hx), h.2⟩

set_option maxRecDepth 100000 in
set_option maxHeartbeats 1000000 in
theorem isFrom_any (lo x hi : Int) (w : World) : Calls Try.prog 68 #[.int .i64 lo, .int .i64 x, .int .i64 hi] w fun e w' => e = .returned (.bool (inI lo x hi)) ∧ w = w' := by
  by_cases h1 : lo ≤ x
  · by_cases h2 : x ≤ hi
    · go_enter Try.func68, Try.ntmps68
      go_wp2
      go_ret
      exact ⟨by simp [inI, h1, h2], rfl⟩
    · have h2' : hi < x := by omega
      go_enter Try.func68, Try.ntmps68
      go_wp2
      go_ret
      exact ⟨by (simp [inI, h2]) <;> omega, rfl⟩
  · have h1' : x < lo := by omega
    go_enter Try.func68, Try.ntmps68
    go_wp2
    go_ret
    exact ⟨by (simp [inI, h1]) <;> omega, rfl⟩
set_option maxRecDepth 100000 in
set_option maxHeartbeats 1000000 in
theorem isCents_any (x : Int) (w : World) : Calls Try.prog 51 #[.int .i64 x] w fun e w' => e = .returned (.bool (cenB x)) ∧ w = w' := by
  have hf := isFrom_any 0 x 9999 w
  unfold cenB
  generalize inI 0 x 9999 = r at *
  go_enter Try.func51, Try.ntmps51
  go_wp2_with fail
  refine hf.mono ?_
  rintro e W1 ⟨rfl, rfl⟩
  go_wp2
  go_ret
  exact ⟨rfl, rfl⟩
set_option maxRecDepth 100000 in
set_option maxHeartbeats 1000000 in
theorem within67_any (x lo hi : Int) (w : World) : Calls Try.prog 67 #[.int .i64 x, .int .i64 lo, .int .i64 hi] w fun e w' => e = .returned (.bool (inI lo x hi)) ∧ w = w' := by
  by_cases h1 : lo ≤ x
  · by_cases h2 : x ≤ hi
    · go_enter Try.func67, Try.ntmps67
      go_wp2
      go_ret
      exact ⟨by simp [inI, h1, h2], rfl⟩
    · have h2' : hi < x := by omega
      go_enter Try.func67, Try.ntmps67
      go_wp2
      go_ret
      exact ⟨by (simp [inI, h2]) <;> omega, rfl⟩
  · have h1' : x < lo := by omega
    go_enter Try.func67, Try.ntmps67
    go_wp2
    go_ret
    exact ⟨by (simp [inI, h1]) <;> omega, rfl⟩
set_option maxRecDepth 100000 in
set_option maxHeartbeats 1000000 in
theorem within_any (x lo hi : Int) (w : World) : Calls Try.prog 49 #[.int .i64 x, .int .i64 lo, .int .i64 hi] w fun e w' => e = .returned (.bool (inI lo x hi)) ∧ w = w' := by
  have hf := within67_any x lo hi w
  generalize inI lo x hi = r at *
  go_enter Try.func49, Try.ntmps49
  go_wp2_with fail
  refine hf.mono ?_
  rintro e W1 ⟨rfl, rfl⟩
  go_wp2
  go_ret
  exact ⟨rfl, rfl⟩
set_option maxRecDepth 100000 in
set_option maxHeartbeats 1000000 in
theorem IsCents_any (x : Int) (w : World) : Calls Try.prog 39 #[.int .i64 x] w fun e w' => e = .returned (.bool (cenB x)) ∧ w = w' := by
  have hf := within_any x 0 9999 w
  unfold cenB
  generalize inI 0 x 9999 = r at *
  go_enter Try.func39, Try.ntmps39
  go_wp2_with fail
  refine hf.mono ?_
  rintro e W1 ⟨rfl, rfl⟩
  go_wp2
  go_ret
  exact ⟨rfl, rfl⟩
/-- Whether a number is that of a clause. -/
def hasB (cs : List Cl) (n : Int) : Bool := inI 0 n ((cs.length : Int) - 1)
set_option maxRecDepth 100000 in
set_option maxHeartbeats 1000000 in
theorem hasClause_any (ac : Option Addr) (cc : Nat) (cs : List Cl) (L : Int) (n : Int) (w : World) (hl : cs.length ≤ 1000) : Calls Try.prog 59 #[.agg #[.slice ac cs.length cc, .int .i64 L], .int .i64 n] w fun e w' => e = .returned (.bool (hasB cs n)) ∧ Below w.heap.size w w' := by
  obtain ⟨W, hW, hb, _, x0⟩ := boxes1 w #[.slice ac cs.length cc, .int .i64 L] 24
  have hf := isFrom_any 0 n ((cs.length : Int) - 1) W
  unfold hasB
  have ew : IntKind.i64.wrap ((cs.length : Int) - 1) = (cs.length : Int) - 1 := IntWalk.i64_in _ (by omega)
  generalize inI 0 n ((cs.length : Int) - 1) = r at *
  have c0 := x0.cell 0 rfl; have c1 := x0.cell 1 rfl
  go_enter Try.func59, Try.ntmps59
  go_wp2_with fail
  refine hf.mono ?_
  rintro e W1 ⟨rfl, rfl⟩
  clear hW x0 c0 c1
  go_wp2
  go_ret
  exact ⟨rfl, hb⟩
set_option maxRecDepth 100000 in
set_option maxHeartbeats 1000000 in
theorem IsClause_any (ac : Option Addr) (cc : Nat) (cs : List Cl) (L : Int) (n : Int) (w : World) (hl : cs.length ≤ 1000) : Calls Try.prog 45 #[.agg #[.slice ac cs.length cc, .int .i64 L], .int .i64 n] w fun e w' => e = .returned (.bool (hasB cs n)) ∧ Below w.heap.size w w' := by
  obtain ⟨W, hW, hb, _, x0⟩ := boxes1 w #[.slice ac cs.length cc, .int .i64 L] 24
  have hf := within_any n 0 ((cs.length : Int) - 1) W
  unfold hasB
  have ew : IntKind.i64.wrap ((cs.length : Int) - 1) = (cs.length : Int) - 1 := IntWalk.i64_in _ (by omega)
  generalize inI 0 n ((cs.length : Int) - 1) = r at *
  have c0 := x0.cell 0 rfl; have c1 := x0.cell 1 rfl
  go_enter Try.func45, Try.ntmps45
  go_wp2_with fail
  refine hf.mono ?_
  rintro e W1 ⟨rfl, rfl⟩
  clear hW x0 c0 c1
  go_wp2
  go_ret
  exact ⟨rfl, hb⟩
set_option maxRecDepth 100000 in
set_option maxHeartbeats 2000000 in
theorem isValid_any (x : Cl) (w : World) : Calls Try.prog 66 #[.agg #[.int .i64 x.k, .int .i64 x.c, .int .i64 x.p, .int .i64 x.m]] w fun e w' => e = .returned (.bool (clB x)) ∧ Below w.heap.size w w' := by
  obtain ⟨W, hW, hb, _, x0⟩ := boxes1 w #[.int .i64 x.k, .int .i64 x.c, .int .i64 x.p, .int .i64 x.m] 56
  have h1 := isFrom_any 1 x.k 5 W
  have h2 := isCents_any x.c W
  have h3 := isFrom_any 0 x.p 100 W
  have h4 := isFrom_any 0 x.m 100 W
  unfold cenB at h2
  unfold clB
  generalize inI 1 x.k 5 = r1 at *
  generalize inI 0 x.c 9999 = r2 at *
  generalize inI 0 x.p 100 = r3 at *
  generalize inI 0 x.m 100 = r4 at *
  have c0 := x0.cell 0 rfl; have c1 := x0.cell 1 rfl; have c2 := x0.cell 2 rfl; have c3 := x0.cell 3 rfl
  clear x0
  go_enter Try.func66, Try.ntmps66
  cases r1
  · go_wp2_with fail
    refine h1.mono ?_
    rintro e W1 ⟨rfl, rfl⟩
    go_wp2
    go_ret
    exact ⟨rfl, hb⟩
  · cases r2
    · go_wp2_with fail
      refine h1.mono ?_
      rintro e W1 ⟨rfl, rfl⟩
      go_wp2_with fail
      refine h2.mono ?_
      rintro e W1 ⟨rfl, rfl⟩
      go_wp2
      go_ret
      exact ⟨rfl, hb⟩
    · cases r3
      · go_wp2_with fail
        refine h1.mono ?_
        rintro e W1 ⟨rfl, rfl⟩
        go_wp2_with fail
        refine h2.mono ?_
        rintro e W1 ⟨rfl, rfl⟩
        go_wp2_with fail
        refine h3.mono ?_
        rintro e W1 ⟨rfl, rfl⟩
        go_wp2
        go_ret
        exact ⟨rfl, hb⟩
      · go_wp2_with fail
        refine h1.mono ?_
        rintro e W1 ⟨rfl, rfl⟩
        go_wp2_with fail
        refine h2.mono ?_
        rintro e W1 ⟨rfl, rfl⟩
        go_wp2_with fail
        refine h3.mono ?_
        rintro e W1 ⟨rfl, rfl⟩
        go_wp2_with fail
        refine h4.mono ?_
        rintro e W1 ⟨rfl, rfl⟩
        go_wp2
        go_ret
        exact ⟨by simp, hb⟩
end Go.Proofs.Ythgjjlkdekfdbaa
