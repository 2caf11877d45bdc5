import Derived.Test.YtknaljghpfeikaaT1
namespace Go.Proofs.Ytknaljghpfeikaa
open Go.RowKit

/-- The cells of a carriage at work. -/
def carV (ar ap : Option Addr) (cr cp : Nat) (rs ps : List (Int × Int)) (p0 way step : Int) (v : Value) (c : Car) : Array Value :=
  #[.int .i64 (c.pos : Nat), .int .i64 (if c.up then 1 else -1), .int .i64 c.side, v, .int .i64 (c.steps : Nat), .int .i64 c.fin, .slice ar rs.length cr, .int .i64 p0, .int .i64 way, .int .i64 step, .slice ap ps.length cp,
    .bool (c.pins 0), .bool (c.pins 1), .bool (c.pins 2), .bool (c.pins 3), .bool (c.pins 4), .bool (c.pins 5), .bool (c.pins 6), .bool (c.pins 7), .bool (c.pins 8), .bool (c.pins 9), .bool (c.pins 10), .bool (c.pins 11), .int .i64 c.heard, .int .i64 c.time, .bool c.going]

set_option maxRecDepth 100000 in
set_option maxHeartbeats 1000000 in
theorem seconds_any (r : Int × Int) (k : Nat) (w : World) (_hk : k ≤ 100) : Calls Try.prog 94 #[.agg #[.int .i64 r.1, .int .i64 r.2], .int .i64 (k : Nat)] w fun e w' => e = .returned (.int .i64 (if k % 2 = 0 then r.1 else r.2)) ∧ Below w.heap.size w w' := by
  obtain ⟨W, hW, hb, hs, x0⟩ := boxes1 w #[.int .i64 r.1, .int .i64 r.2] 34
  clear hs
  have c0 := x0.cell 0 rfl; have c1 := x0.cell 1 rfl
  by_cases h : k % 2 = 0
  · have hm : Int.tmod (k : Int) 2 = 0 := by rw [show Int.tmod (k : Int) 2 = ((k % 2 : Nat) : Int) from rfl, h]; rfl
    rw [if_pos h]
    go_enter Try.func94, Try.ntmps94
    go_wp2
    go_ret
    exact ⟨rfl, hb⟩
  · have hm : Int.tmod (k : Int) 2 = 1 := by rw [show Int.tmod (k : Int) 2 = ((k % 2 : Nat) : Int) from rfl, show k % 2 = 1 by omega]; rfl
    rw [if_neg h]
    go_enter Try.func94, Try.ntmps94
    go_wp2
    go_ret
    exact ⟨rfl, hb⟩

/-- A carriage that lies at a block. -/
def CarAt (W : World) (g : Nat) (ar ap : Option Addr) (cr cp : Nat) (rs ps : List (Int × Int)) (p0 way step : Int) (v : Value) (c : Car) : Prop := Bx W g (carV ar ap cr cp rs ps p0 way step v c) 79

set_option maxRecDepth 100000 in
set_option maxHeartbeats 1000000 in
theorem reached_any (ar ap : Option Addr) (cr cp : Nat) (rs ps : List (Int × Int)) (p0 way step : Int) (g : Nat) (v : Value) (c : Car) (w : World) (hc : CarAt w g ar ap cr cp rs ps p0 way step v c) (hp : c.pos ≤ 100) :
    Calls Try.prog 86 #[.pointer (some ⟨g, 0, none⟩)] w fun e w' => e = .returned (.int .i64 (sideAt c.up c.pos : Nat)) ∧ w = w' := by
  unfold CarAt carV at hc
  have c0 := hc.cell 0 rfl; have c1 := hc.cell 1 rfl
  unfold sideAt
  cases hu : c.up
  · rw [hu] at c1
    go_enter Try.func86, Try.ntmps86
    go_wp2
    go_ret
    exact ⟨by simp, rfl⟩
  · rw [hu] at c1
    go_enter Try.func86, Try.ntmps86
    go_wp2
    go_ret
    exact ⟨by simp, rfl⟩

set_option maxRecDepth 100000 in
set_option maxHeartbeats 2000000 in
theorem nextPress_any (ar ap : Option Addr) (cr cp : Nat) (rs ps : List (Int × Int)) (p0 way step : Int) (g : Nat) (v : Value) (c : Car) (w : World) (hc : CarAt w g ar ap cr cp rs ps p0 way step v c) (hP : Prs w ap ps) :
    Calls Try.prog 89 #[.pointer (some ⟨g, 0, none⟩)] w fun e w' => e = .returned (.int .i64 (nextP ps c.time)) ∧ Below w.heap.size w w' := by
  unfold CarAt carV at hc
  have lp := hP.1
  have lpI : (ps.length : Int) ≤ 4611686018427387903 := by omega
  have c10 := hc.cell 10 rfl
  have Hc := hid hc; clear hc
  go_enter Try.func89, Try.ntmps89
  go_wp2
  clear c10
  go_loopw [3, 12] (fun v3 v12 wr => ∃ k : Nat, k ≤ ps.length ∧ v12 = .int .i64 (k : Int) ∧ v3 = .int .i64 ((ps.take k).foldl (next1 c.time) maxI) ∧ Below w.heap.size w wr) (fun _ v12 _ => ps.length - (intOf v12).toNat)
  case atStart => exact ⟨0, Nat.zero_le _, rfl, rfl, Below.refl _ _⟩
  case round =>
    obtain ⟨k, hk, rfl, rfl, hb⟩ := hrel
    by_cases hlt : k < ps.length
    · obtain ⟨b, off, x, y, rfl, hbs, hc1, hc2, _, _, hx, _⟩ := (hP.below hb (Nat.le_refl _)).at hlt
      have hkI : (k : Int) < (ps.length : Int) := by omega
      have hk0 : (0 : Int) ≤ (k : Int) := by omega
      have c24 := (Bx.below Hc.out hb).cell 24 rfl
      have hb1 := below_one (w := wr) (.cells #[.int .i64 x, .int .i64 y] 40)
      have xp := Bx.new wr #[.int .i64 x, .int .i64 y] 40
      have hb2 := hb.trans (hb1.mono hb.size)
      have c24' := Below.keep hb1 c24
      have hnx : (ps.take (k + 1)).foldl (next1 c.time) maxI = next1 c.time ((ps.take k).foldl (next1 c.time) maxI) (x, y) := by
        rw [List.take_add_one, hx.out]; simp
      obtain ⟨m, hm⟩ : ∃ m, m = (ps.take k).foldl (next1 c.time) maxI := ⟨_, rfl⟩
      rw [← hm] at hnx ⊢
      have Hnx := hid hnx
      obtain ⟨t, ht⟩ : ∃ t, t = c.time := ⟨_, rfl⟩
      rw [← ht] at c24' Hnx
      clear hm hnx hx c24 hb1
      by_cases hty : t < y
      · have hr : (ps.take (k + 1)).foldl (next1 t) maxI = min m y := by rw [Hnx.out]; unfold next1; rw [if_pos hty]
        have HR := hid hr; clear hr
        go_upto_region 5 with fail
        generalize wr.alloc (.cells #[.int .i64 x, .int .i64 y] 40) = V at *
        generalize wr.heap.size = h at *
        have g0 := xp.cell 0 rfl; have g1 := xp.cell 1 rfl
        go_quiet ((fail))
        go_wp2
        go_roundw
        case rel => exact ⟨k + 1, by omega, by go_num, by rw [← ht, HR.out]; (try (congr 1; split <;> omega)), hb2.trans ((below_drewN (Below.refl _ _) _).mono hb2.size)⟩
        case measure => simp [intOf]; omega
      · have hr : (ps.take (k + 1)).foldl (next1 t) maxI = m := by rw [Hnx.out]; unfold next1; rw [if_neg hty]
        have HR := hid hr; clear hr
        have hty2 : y ≤ t := by omega
        clear hty
        go_upto_region 5 with fail
        generalize wr.alloc (.cells #[.int .i64 x, .int .i64 y] 40) = V at *
        generalize wr.heap.size = h at *
        have g0 := xp.cell 0 rfl; have g1 := xp.cell 1 rfl
        go_quiet ((fail))
        go_wp2
        go_roundw
        case rel => exact ⟨k + 1, by omega, by go_num, by rw [← ht, HR.out]; (try (congr 1; split <;> omega)), hb2.trans ((below_drewN (Below.refl _ _) _).mono hb2.size)⟩
        case measure => simp [intOf]; omega
    · have hkI : (ps.length : Int) ≤ (k : Int) := by omega
      have hfin : (ps.take k).foldl (next1 c.time) maxI = nextP ps c.time := by rw [List.take_of_length_le (by omega)]; rfl
      rw [hfin]
      obtain ⟨z, hz⟩ : ∃ z, z = nextP ps c.time := ⟨_, rfl⟩
      rw [← hz]
      have HZ := hid hz
      clear hfin hz
      go_wp2
      go_ret
      exact ⟨by rw [← HZ.out]; rfl, hb⟩
end Go.Proofs.Ytknaljghpfeikaa
