import Derived.Test.YtknaljghpfeikaaT5
namespace Go.Proofs.Ytknaljghpfeikaa
open Go.RowKit

theorem under77 : Try.prog.underlying 77 = some (.array 12 4) := by kernel_rfl
theorem info4 : (Try.prog.info? 4).map (fun i => (i.zero, i.size, i.bytes)) = some (some (.bool false), 1, 1) := by kernel_rfl
theorem run_part4 (xs : Array Value) (j : Nat) (x : Bool) (h : xs[j]? = some (.bool x)) (w : World) : (part 4 xs j).run Try.prog w = .ok (.bool x) w := by
  obtain ⟨j0, hj, jz0, jz1, jz2⟩ := info_parts info4
  unfold part
  simp [go_sem, sizeOf, typeInfo, hj, jz1, h]
theorem eq_bools (d : Nat) (xs ys : Array Value) (s : Nat → Bool) (w : World) : ∀ is : List Nat, (∀ i ∈ is, xs[i]? = some (.bool (s i)) ∧ ys[i]? = some (.bool false)) →
    (Op.eqItems (d + 1) 4 1 xs ys is).run Try.prog w = .ok (is.all fun i => !s i) w
  | [], _ => by simp [Op.eqItems]
  | i :: is, h => by
    obtain ⟨h1, h2⟩ := h i (by simp)
    have ih := eq_bools d xs ys s w is (fun k hk => h k (by simp [hk]))
    simp only [Op.eqItems, Sem.run_bind, Nat.mul_one, run_part4 xs i _ h1, run_part4 ys i _ h2, Result.andThen_ok, run_equalIn_bool' w d 4 (s i) false Try.underlying4]
    cases hs : s i
    · simp [hs, ih]
    · simp [hs]
theorem pins_eq (s : Nat → Bool) (w : World) : (binOp .eql 77 (.agg #[.bool (s 0), .bool (s 1), .bool (s 2), .bool (s 3), .bool (s 4), .bool (s 5), .bool (s 6), .bool (s 7), .bool (s 8), .bool (s 9), .bool (s 10), .bool (s 11)])
    (.agg #[.bool false, .bool false, .bool false, .bool false, .bool false, .bool false, .bool false, .bool false, .bool false, .bool false, .bool false, .bool false])).run Try.prog w = .ok (.bool (noneSet s)) w := by
  obtain ⟨j0, hj, jz0, jz1, jz2⟩ := info_parts info4
  rw [run_eql_struct, show (10000 : Nat) = 9998 + 1 + 1 from rfl, run_equalIn_array w (9998 + 1) _ _ under77 hj, show Try.prog.cellsOf 4 = 1 by kernel_rfl, eq_bools 9998 _ _ s w (List.range 12) ?_]
  · rfl
  · intro i hi
    have h12 : i < 12 := by simpa using hi
    rcases twelve h12 with rfl | rfl | rfl | rfl | rfl | rfl | rfl | rfl | rfl | rfl | rfl | rfl <;> exact ⟨rfl, rfl⟩

/-- What a call of a method finds. -/
structure At (g : Nat) (ar ap : Option Addr) (cr cp : Nat) (rs ps : List (Int × Int)) (p0 way step : Int) (T : Tr) (B : Nat) (w0 w : World) (c : Car) (a : Option Addr) (cv : Nat) : Prop where
  car : CarAt w g ar ap cr cp rs ps p0 way step (.slice a c.plays.length cv) c
  own : w.ownsRow B 39 2 (.slice a c.plays.length cv) c.plays.length (pcells c.plays)
  ne : (Value.slice a c.plays.length cv).ownBlock ≠ some g
  hB : B ≤ g
  hR : Prs w0 ar rs
  hP : Prs w0 ap ps
  b0 : Below B w0 w
  s0 : w0.heap.size ≤ B
  T1 : T.rcs = rs
  T2 : T.prs = ps
  T3 : T.step = step
  hv : VT T
  inv : Inv T c
  tm : 0 ≤ c.time ∧ c.time ≤ 8000000000000
  st : c.steps ≤ 99999
  pl : c.plays.length ≤ 99999

/-- A method that changes the carriage alone. -/
theorem PlayP.of {g : Nat} {ar ap : Option Addr} {cr cp : Nat} {rs ps : List (Int × Int)} {p0 way step : Int} {T : Tr} {B : Nat} {w0 w : World} {c c' : Car} {a : Option Addr} {cv : Nat} (h : At g ar ap cr cp rs ps p0 way step T B w0 w c a cv) (hpl : c'.plays = c.plays) {e : Ending} {w' : World}
    (hp : CarP g ar ap cr cp rs ps p0 way step (.slice a c.plays.length cv) c' w e w') : PlayP g ar ap cr cp rs ps p0 way step c' B w e w' := by
  obtain ⟨h1, h2, h3⟩ := hp
  have hl := Bx.lt h.car
  have hB := h.hB
  refine ⟨h1, (Below.refl B w).grown h2 (by omega) (fun k hk => by cases hk; exact hB), a, cv, ?_, ?_, ?_⟩
  · rw [hpl]; exact h3
  · rw [hpl]; exact h.own.kept h2 (.inr h.ne)
  · rw [hpl]; exact h.ne
end Go.Proofs.Ytknaljghpfeikaa
