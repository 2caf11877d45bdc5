import Derived.Test.YthgjjlkdekfdbaaT17
import Derived.Test.YthgjjlkdekfdbaaT18
import Derived.Test.YthgjjlkdekfdbaaM4
/-! What a clause gives, as the reference has it. -/
namespace Go.Proofs.Ythgjjlkdekfdbaa
set_option linter.unusedSimpArgs false
set_option linter.unusedVariables false
open Go Go.RowKit

set_option maxRecDepth 100000 in
set_option maxHeartbeats 2000000 in
theorem given_1 (c p m rest got owed : Int) (w : World) (n : Int) (hn : n = min rest c) : Calls Try.prog 69 #[.agg #[.int .i64 1, .int .i64 c, .int .i64 p, .int .i64 m], .int .i64 rest, .int .i64 got, .int .i64 owed] w fun e w' => e = .returned (.int .i64 n) ∧ Below w.heap.size w w' := by
  obtain ⟨W, hW, hb, _, x0⟩ := boxes1 w #[.int .i64 1, .int .i64 c, .int .i64 p, .int .i64 m] 56
  have c0 := x0.cell 0 rfl; have c1 := x0.cell 1 rfl; have c2 := x0.cell 2 rfl; have c3 := x0.cell 3 rfl
  by_cases h : rest ≤ c
  · obtain rfl : n = rest := by omega
    clear hn
    go_enter Try.func69, Try.ntmps69
    go_wp2
    go_ret
    exact ⟨rfl, hb⟩
  · have h' : c < rest := by omega
    obtain rfl : n = c := by omega
    clear hn
    go_enter Try.func69, Try.ntmps69
    go_wp2
    go_ret
    exact ⟨rfl, hb⟩
set_option maxRecDepth 100000 in
set_option maxHeartbeats 2000000 in
theorem given_2 (c p m rest got owed : Int) (w : World) (n : Int) (hn : n = min rest (min c owed)) : Calls Try.prog 69 #[.agg #[.int .i64 2, .int .i64 c, .int .i64 p, .int .i64 m], .int .i64 rest, .int .i64 got, .int .i64 owed] w fun e w' => e = .returned (.int .i64 n) ∧ Below w.heap.size w w' := by
  obtain ⟨W, hW, hb, _, x0⟩ := boxes1 w #[.int .i64 2, .int .i64 c, .int .i64 p, .int .i64 m] 56
  have c0 := x0.cell 0 rfl; have c1 := x0.cell 1 rfl; have c2 := x0.cell 2 rfl; have c3 := x0.cell 3 rfl
  by_cases h : rest ≤ c
  · by_cases h2 : rest ≤ owed
    · obtain rfl : n = rest := by omega
      clear hn
      go_enter Try.func69, Try.ntmps69
      go_wp2
      go_ret
      exact ⟨rfl, hb⟩
    · have h2' : owed < rest := by omega
      obtain rfl : n = owed := by omega
      clear hn
      go_enter Try.func69, Try.ntmps69
      go_wp2
      go_ret
      exact ⟨rfl, hb⟩
  · have h' : c < rest := by omega
    by_cases h2 : c ≤ owed
    · obtain rfl : n = c := by omega
      clear hn
      go_enter Try.func69, Try.ntmps69
      go_wp2
      go_ret
      exact ⟨rfl, hb⟩
    · have h2' : owed < c := by omega
      obtain rfl : n = owed := by omega
      clear hn
      go_enter Try.func69, Try.ntmps69
      go_wp2
      go_ret
      exact ⟨rfl, hb⟩
set_option maxRecDepth 100000 in
set_option maxHeartbeats 2000000 in
theorem given_3 (c p m rest got owed : Int) (hp : 0 ≤ p * rest) (hp2 : p * rest ≤ 1000000000000) (w : World) (n : Int) (hn : n = p * rest / 500 * 5) : Calls Try.prog 69 #[.agg #[.int .i64 3, .int .i64 c, .int .i64 p, .int .i64 m], .int .i64 rest, .int .i64 got, .int .i64 owed] w fun e w' => e = .returned (.int .i64 n) ∧ Below w.heap.size w w' := by
  obtain ⟨W, hW, hb, _, x0⟩ := boxes1 w #[.int .i64 3, .int .i64 c, .int .i64 p, .int .i64 m] 56
  have c0 := x0.cell 0 rfl; have c1 := x0.cell 1 rfl; have c2 := x0.cell 2 rfl; have c3 := x0.cell 3 rfl
  have ep : IntKind.i64.wrap (p * rest) = p * rest := IntWalk.i64_in _ (by omega)
  have e0 : (p * rest).tdiv 500 = p * rest / 500 := Int.tdiv_eq_ediv_of_nonneg hp
  obtain ⟨q, hq⟩ : ∃ q, q = p * rest / 500 := ⟨_, rfl⟩
  have hq1 : 0 ≤ q ∧ q ≤ 1000000000000 := by omega
  rw [← hq] at e0 hn
  have e1 : IntKind.i64.wrap q = q := IntWalk.i64_in _ (by omega)
  have e2 : IntKind.i64.wrap (q * 5) = q * 5 := IntWalk.i64_in _ (by omega)
  clear hq
  subst hn
  go_enter Try.func69, Try.ntmps69
  go_wp2
  go_ret
  exact ⟨rfl, hb⟩
set_option maxRecDepth 100000 in
set_option maxHeartbeats 2000000 in
theorem given_4 (c p m rest got owed a : Int) (ha : a = min rest c) (hr : 0 ≤ rest ∧ rest ≤ 1000000) (hc : 0 ≤ c ∧ c ≤ 1000000) (h1 : 0 ≤ p * a ∧ p * a ≤ 1000000000) (h2 : 0 ≤ m * (rest - a) ∧ m * (rest - a) ≤ 1000000000) (w : World) (n : Int) (hn : n = (p * a + m * (rest - a)) / 500 * 5) : Calls Try.prog 69 #[.agg #[.int .i64 4, .int .i64 c, .int .i64 p, .int .i64 m], .int .i64 rest, .int .i64 got, .int .i64 owed] w fun e w' => e = .returned (.int .i64 n) ∧ Below w.heap.size w w' := by
  obtain ⟨W, hW, hb, _, x0⟩ := boxes1 w #[.int .i64 4, .int .i64 c, .int .i64 p, .int .i64 m] 56
  have c0 := x0.cell 0 rfl; have c1 := x0.cell 1 rfl; have c2 := x0.cell 2 rfl; have c3 := x0.cell 3 rfl
  have f0 : IntKind.i64.wrap (rest - a) = rest - a := IntWalk.i64_in _ (by omega)
  have f1 : IntKind.i64.wrap (p * a) = p * a := IntWalk.i64_in _ (by omega)
  have f2 : IntKind.i64.wrap (m * (rest - a)) = m * (rest - a) := IntWalk.i64_in _ (by omega)
  have f3 : IntKind.i64.wrap (p * a + m * (rest - a)) = p * a + m * (rest - a) := IntWalk.i64_in _ (by omega)
  have e0 : (p * a + m * (rest - a)).tdiv 500 = (p * a + m * (rest - a)) / 500 := Int.tdiv_eq_ediv_of_nonneg (by omega)
  obtain ⟨q, hq⟩ : ∃ q, q = (p * a + m * (rest - a)) / 500 := ⟨_, rfl⟩
  have hq1 : 0 ≤ q ∧ q ≤ 1000000000000 := by omega
  rw [← hq] at e0 hn
  have e1 : IntKind.i64.wrap q = q := IntWalk.i64_in _ (by omega)
  have e2 : IntKind.i64.wrap (q * 5) = q * 5 := IntWalk.i64_in _ (by omega)
  clear hq h1 h2
  subst hn
  by_cases h : rest ≤ c
  · obtain rfl : a = rest := by omega
    clear ha
    rw [Int.sub_self, Int.mul_zero, Int.add_zero] at e0
    go_enter Try.func69, Try.ntmps69
    go_wp2
    go_ret
    exact ⟨rfl, hb⟩
  · have h' : c < rest := by omega
    obtain rfl : a = c := by omega
    clear ha
    go_enter Try.func69, Try.ntmps69
    go_wp2
    go_ret
    exact ⟨rfl, hb⟩
set_option maxRecDepth 100000 in
set_option maxHeartbeats 2000000 in
theorem given_5 (c p m rest got owed : Int) (hc : 0 ≤ c ∧ c ≤ 1000000) (hg : 0 ≤ got ∧ got ≤ 1000000) (hr : 0 ≤ rest) (w : World) (n : Int) (hn : n = min rest (max 0 (c - got))) : Calls Try.prog 69 #[.agg #[.int .i64 5, .int .i64 c, .int .i64 p, .int .i64 m], .int .i64 rest, .int .i64 got, .int .i64 owed] w fun e w' => e = .returned (.int .i64 n) ∧ Below w.heap.size w w' := by
  obtain ⟨W, hW, hb, _, x0⟩ := boxes1 w #[.int .i64 5, .int .i64 c, .int .i64 p, .int .i64 m] 56
  have c0 := x0.cell 0 rfl; have c1 := x0.cell 1 rfl; have c2 := x0.cell 2 rfl; have c3 := x0.cell 3 rfl
  have e0 : IntKind.i64.wrap (c - got) = c - got := IntWalk.i64_in _ (by omega)
  by_cases h : got < c
  · have h2 : 0 < c - got := by omega
    by_cases h3 : rest ≤ c - got
    · obtain rfl : n = rest := by omega
      clear hn
      go_enter Try.func69, Try.ntmps69
      go_wp2
      go_ret
      exact ⟨rfl, hb⟩
    · have h3' : c - got < rest := by omega
      obtain rfl : n = c - got := by omega
      clear hn
      go_enter Try.func69, Try.ntmps69
      go_wp2
      go_ret
      exact ⟨rfl, hb⟩
  · have h' : c ≤ got := by omega
    have h2 : c - got ≤ 0 := by omega
    by_cases h3 : rest ≤ 0
    · obtain rfl : n = 0 := by omega
      clear hn
      go_enter Try.func69, Try.ntmps69
      go_wp2
      go_ret
      exact ⟨ret_int (by omega), hb⟩
    · have h3' : 0 < rest := by omega
      obtain rfl : n = 0 := by omega
      clear hn
      go_enter Try.func69, Try.ntmps69
      go_wp2
      go_ret
      exact ⟨rfl, hb⟩
theorem Given_any {T L : Int} (u : Wk) (x : Cl) (hx : x.ok) (hi : Inv T L u) (hT : T ≤ 1000000) (hL : L ≤ 1000000) (w : World) : Calls Try.prog 69 #[.agg #[.int .i64 x.k, .int .i64 x.c, .int .i64 x.p, .int .i64 x.m], .int .i64 u.rest, .int .i64 u.ow, .int .i64 u.owed] w fun e w' => e = .returned (.int .i64 (givesW u x)) ∧ Below w.heap.size w w' := by
  have hwb := hi.wb hT hL
  have hpt := fun h => asks_part hx hi h
  obtain ⟨k, c, p, m⟩ := x
  obtain ⟨h, hc, hp, hm⟩ := hx
  simp only at h hc hp hm
  have hr := hwb.rest; have hg := hwb.ow
  obtain rfl | rfl | rfl | rfl | rfl : k = 1 ∨ k = 2 ∨ k = 3 ∨ k = 4 ∨ k = 5 := by omega
  · exact given_1 c p m _ _ _ w _ (by simp [givesW, asks])
  · exact given_2 c p m _ _ _ w _ (by simp [givesW, asks])
  · have hq := part_le hr.1 hp
    have := hpt (.inl rfl)
    have e : asks ⟨3, c, p, m⟩ u = p * u.rest / 500 * 5 := by simp [asks, Int.mul_comm]
    rw [Int.mul_comm] at hq
    exact given_3 c p m _ _ _ hq.1 (by omega) w _ (by unfold givesW; rw [← e]; omega)
  · have := hpt (.inr rfl)
    obtain ⟨a, ha⟩ : ∃ a, a = min u.rest c := ⟨_, rfl⟩
    have e : asks ⟨4, c, p, m⟩ u = (p * a + m * (u.rest - a)) / 500 * 5 := by rw [ha]; simp [asks, Int.mul_comm]
    have h1 := part_le (a := a) (by omega) hp
    have h2 := part_le (a := u.rest - a) (by omega) hm
    rw [Int.mul_comm] at h1 h2
    exact given_4 c p m _ _ _ a ha hr (by omega) (by omega) (by omega) w _ (by unfold givesW; rw [← e]; omega)
  · exact given_5 c p m _ _ _ (by omega) hg hr.1 w _ (by simp [givesW, asks])
end Go.Proofs.Ythgjjlkdekfdbaa
