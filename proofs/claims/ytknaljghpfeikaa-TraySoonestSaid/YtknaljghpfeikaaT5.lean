import Derived.Test.YtknaljghpfeikaaT1
namespace Go.Proofs.Ytknaljghpfeikaa
open Go.RowKit

/-- The cells of a carriage at work. -/
def carV (ar ap : Option Addr) (cr cp : Nat) (rs ps : List (Int × Int)) (p0 way step : Int) (v : Value) (c : Car) : Array Value :=
  #[.int .i64 (c.pos : Nat), .int .i64 (if c.up then 1 else -1), .int .i64 c.side, v, .int .i64 (c.steps : Nat), .int .i64 c.fin, .slice ar rs.length cr, .int .i64 p0, .int .i64 way, .int .i64 step, .slice ap ps.length cp,
    .bool (c.pins 0), .bool (c.pins 1), .bool (c.pins 2), .bool (c.pins 3), .bool (c.pins 4), .bool (c.pins 5), .bool (c.pins 6), .bool (c.pins 7), .bool (c.pins 8), .bool (c.pins 9), .bool (c.pins 10), .bool (c.pins 11), .int .i64 c.heard, .int .i64 c.time, .bool c.going]

set_option maxRecDepth 100000 in
set_option maxHeartbeats 1000000 in
theorem seconds_any (r : Int × Int) (k : Nat) (w : World) (_hk : k ≤ 100) : Calls Try.prog 94 #[.agg #[.int .i64 r.1, .int .i64 r.2], .int .i64 (k : Nat)] w fun e w' => e = .returned (.int .i64 (if k % 2 = 0 then r.1 else r.2)) ∧ Below w.heap.size w w' := by
  obtain ⟨W, hW, hb, hs, x0⟩ := boxes1 w #[.int .i64 r.1, .int .i64 r.2] 34
  clear hs
  have c0 := x0.cell 0 rfl; have c1 := x0.cell 1 rfl
  by_cases h : k % 2 = 0
  · have hm : Int.tmod (k : Int) 2 = 0 := by rw [show Int.tmod (k : Int) 2 = ((k % 2 : Nat) : Int) from rfl, h]; rfl
    rw [if_pos h]
    go_enter Try.func94, Try.ntmps94
    go_wp2
    go_ret
    exact ⟨rfl, hb⟩
  · have hm : Int.tmod (k : Int) 2 = 1 := by rw [show Int.tmod (k : Int) 2 = ((k % 2 : Nat) : Int) from rfl, show k % 2 = 1 by omega]; rfl
    rw [if_neg h]
    go_enter Try.func94, Try.ntmps94
    go_wp2
    go_ret
    exact ⟨rfl, hb⟩

/-- A carriage that lies at a block. -/
def CarAt (W : World) (g : Nat) (ar ap : Option Addr) (cr cp : Nat) (rs ps : List (Int × Int)) (p0 way step : Int) (v : Value) (c : Car) : Prop := Bx W g (carV ar ap cr cp rs ps p0 way step v c) 79

set_option maxRecDepth 100000 in
set_option maxHeartbeats 1000000 in
theorem reached_any (ar ap : Option Addr) (cr cp : Nat) (rs ps : List (Int × Int)) (p0 way step : Int) (g : Nat) (v : Value) (c : Car) (w : World) (hc : CarAt w g ar ap cr cp rs ps p0 way step v c) (hp : c.pos ≤ 100) :
    Calls Try.prog 86 #[.pointer (some ⟨g, 0, none⟩)] w fun e w' => e = .returned (.int .i64 (sideAt c.up c.pos : Nat)) ∧ w = w' := by
  unfold CarAt carV at hc
  have c0 := hc.cell 0 rfl; have c1 := hc.cell 1 rfl
  unfold sideAt
  cases hu : c.up
  · rw [hu] at c1
    go_enter Try.func86, Try.ntmps86
    go_wp2
    go_ret
    exact ⟨by simp, rfl⟩
  · rw [hu] at c1
    go_enter Try.func86, Try.ntmps86
    go_wp2
    go_ret
    exact ⟨by simp, rfl⟩

set_option maxRecDepth 100000 in
set_option maxHeartbeats 2000000 in
theorem nextPress_any (ar ap : Option Addr) (cr cp : Nat) (rs ps : List (Int × Int)) (p0 way step : Int) (g : Nat) (v : Value) (c : Car) (w : World) (hc : CarAt w g ar ap cr cp rs ps p0 way step v c) (hP : Prs w ap ps) :
    Calls Try.prog 89 #[.pointer (some ⟨g, 0, none⟩)] w fun e w' => e = .returned (.int .i64 (nextP ps c.time)) ∧ Below w.heap.size w w' := by
  unfold CarAt carV at hc
  have lp := hP.1
  have lpI : (ps.length : Int) ≤ 4611686018427387903 := by omega
  have c10 := hc.cell 10 rfl
  have Hc := hid hc; clear hc
  go_enter Try.func89, Try.ntmps89
  go_wp2
  clear c10
  go_loopw [3, 12] (fun v3 v12 wr => ∃ k : Nat, k ≤ ps.length ∧ v12 = .int .i64 (k : Int) ∧ v3 = .int .i64 ((ps.take k).foldl (next1 c.time) maxI) ∧ Below w.heap.size w wr) (fun _ v12 _ => ps.length - (intOf v12).toNat)
  case atStart => exact ⟨0, Nat.zero_le _, rfl, rfl, Below.refl _ _⟩
  case round =>
    obtain ⟨k, hk, rfl, rfl, hb⟩ := hrel
    by_cases hlt : k < ps.length
    · obtain ⟨b, off, x, y, rfl, hbs, hc1, hc2, _, _, hx, _⟩ := (hP.below hb (Nat.le_refl _)).at hlt
      have hkI : (k : Int) < (ps.length : Int) := by omega
      have hk0 : (0 : Int) ≤ (k : Int) := by omega
      have c24 := (Bx.below Hc.out hb).cell 24 rfl
      have hb1 := below_one (w := wr) (.cells #[.int .i64 x, .int .i64 y] 40)
      have xp := Bx.new wr #[.int .i64 x, .int .i64 y] 40
      have hb2 := hb.trans (hb1.mono hb.size)
      have c24' := Below.keep hb1 c24
      have hnx : (ps.take (k + 1)).foldl (next1 c.time) maxI = next1 c.time ((ps.take k).foldl (next1 c.time) maxI) (x, y) := by
        rw [List.take_add_one, hx.out]; simp
      obtain ⟨m, hm⟩ : ∃ m, m = (ps.take k).foldl (next1 c.time) maxI := ⟨_, rfl⟩
      rw [← hm] at hnx ⊢
      have Hnx := hid hnx
      obtain ⟨t, ht⟩ : ∃ t, t = c.time := ⟨_, rfl⟩
      rw [← ht] at c24' Hnx
      clear hm hnx hx c24 hb1
      by_cases hty : t < y
      · have hr : (ps.take (k + 1)).foldl (next1 t) maxI = min m y := by rw [Hnx.out]; unfold next1; rw [if_pos hty]
        have HR := hid hr; clear hr
        go_upto_region 5 with fail
        generalize wr.alloc (.cells #[.int .i64 x, .int .i64 y] 40) = V at *
        generalize wr.heap.size = h at *
        have g0 := xp.cell 0 rfl; have g1 := xp.cell 1 rfl
        go_quiet ((fail))
        go_wp2
        go_roundw
        case rel => exact ⟨k + 1, by omega, by go_num, by rw [← ht, HR.out]; (try (congr 1; split <;> omega)), hb2.trans ((below_drewN (Below.refl _ _) _).mono hb2.size)⟩
        case measure => simp [intOf]; omega
      · have hr : (ps.take (k + 1)).foldl (next1 t) maxI = m := by rw [Hnx.out]; unfold next1; rw [if_neg hty]
        have HR := hid hr; clear hr
        have hty2 : y ≤ t := by omega
        clear hty
        go_upto_region 5 with fail
        generalize wr.alloc (.cells #[.int .i64 x, .int .i64 y] 40) = V at *
        generalize wr.heap.size = h at *
        have g0 := xp.cell 0 rfl; have g1 := xp.cell 1 rfl
        go_quiet ((fail))
        go_wp2
        go_roundw
        case rel => exact ⟨k + 1, by omega, by go_num, by rw [← ht, HR.out]; (try (congr 1; split <;> omega)), hb2.trans ((below_drewN (Below.refl _ _) _).mono hb2.size)⟩
        case measure => simp [intOf]; omega
    · have hkI : (ps.length : Int) ≤ (k : Int) := by omega
      have hfin : (ps.take k).foldl (next1 c.time) maxI = nextP ps c.time := by rw [List.take_of_length_le (by omega)]; rfl
      rw [hfin]
      obtain ⟨z, hz⟩ : ∃ z, z = nextP ps c.time := ⟨_, rfl⟩
      rw [← hz]
      have HZ := hid hz
      clear hfin hz
      go_wp2
      go_ret
      exact ⟨by rw [← HZ.out]; rfl, hb⟩
end Go.Proofs.Ytknaljghpfeikaa
namespace Go.Proofs.Ytknaljghpfeikaa
open Go.RowKit

theorem gnone {w w' : World} (h : w.grownBy w' none) (g : Nat) : w.grownBy w' (some g) := ⟨h.os, h.tape, h.output, h.size, fun k hk _ => h.block k hk (by simp)⟩
theorem gset (w : World) (a : Addr) (v : Value) : w.grownBy (w.setCell a v) (some a.block) :=
  ⟨rfl, rfl, rfl, by simp, fun k _ hk => heap_setCell_other w a k v (fun e => hk (by simp [e]))⟩
theorem gtr {a b c : World} {r : Option Nat} (h : a.grownBy b r) (k : b.grownBy c r) : a.grownBy c r := h.trans k
theorem gbel {a b : World} {g : Nat} (h : Below a.heap.size a b) : a.grownBy b (some g) := gnone (Below.gr' h) g
/-- What a method does: it changes the carriage alone. -/
def CarP (g : Nat) (ar ap : Option Addr) (cr cp : Nat) (rs ps : List (Int × Int)) (p0 way step : Int) (v : Value) (c : Car) (w : World) (e : Ending) (w' : World) : Prop :=
  e = .returned (.tuple #[]) ∧ w.grownBy w' (some g) ∧ CarAt w' g ar ap cr cp rs ps p0 way step v c

set_option maxRecDepth 100000 in
set_option maxHeartbeats 2000000 in
theorem arrive_any (ar ap : Option Addr) (cr cp : Nat) (rs ps : List (Int × Int)) (p0 way step : Int) (g : Nat) (v : Value) (c : Car) (w : World) (hc : CarAt w g ar ap cr cp rs ps p0 way step v c) (hp : c.pos ≤ 100) (hs : c.steps ≤ 100000) (hu : c.up = false → 0 < c.pos) :
    Calls Try.prog 87 #[.pointer (some ⟨g, 0, none⟩)] w (CarP g ar ap cr cp rs ps p0 way step v (arriveC c) w) := by
  have h1 : CarAt (w.setCell ⟨g, 25, none⟩ (.bool false)) g ar ap cr cp rs ps p0 way step v { c with going := false } := Bx.set hc 25 _
  have hg1 := gset w ⟨g, 25, none⟩ (.bool false)
  have fr := Bx.free hc 25
  have hc25 := Bx.cell hc 25 rfl
  go_enter Try.func87, Try.ntmps87
  go_upto_region 1 with fail
  generalize w.setCell ⟨g, 25, none⟩ (.bool false) = w1 at *
  obtain ⟨q, hq⟩ : ∃ q : Nat, q = (arriveC c).pos := ⟨_, rfl⟩
  have hqI : (c.pos : Int) + (if c.up then 1 else -1) = (q : Int) := by
    rw [hq]
    show (c.pos : Int) + _ = ((if c.up then c.pos + 1 else c.pos - 1 : Nat) : Int)
    cases hup : c.up
    · have := hu hup; simp; omega
    · simp
  obtain ⟨d, hd⟩ : ∃ d : Int, d = if c.up then 1 else -1 := ⟨_, rfl⟩
  have hd1 : d = 1 ∨ d = -1 := by rw [hd]; split <;> simp
  rw [← hd] at hqI
  have u0 := Ext.cell (Bx.cell h1 0 (v := .int .i64 (c.pos : Nat)) rfl)
  have u1 := Ext.cell (Bx.cell h1 1 (v := .int .i64 d) (by rw [hd]; rfl))
  have HQ := hid hq
  clear hq hd fr hc25
  refine wp_region_ext_tail 17 (by kernel_rfl) (by kernel_rfl) ?_
  simp only [List.take_succ_cons, List.take_zero, List.drop_succ_cons, List.drop_zero]
  repeat (quiet_step (first | fail))
  refine wpQuiet_nil ?_
  intro _ hw'
  obtain ⟨t, rfl⟩ := hw'
  have hb := t.below
  have h2 := Bx.below h1 hb
  have hg2 := gtr hg1 (gbel hb)
  clear u0 u1
  generalize t.w = w2 at *
  have fr0 := Bx.free h2 0
  have k0 := Bx.cell h2 0 (v := .int .i64 (c.pos : Nat)) rfl
  have h3 : CarAt (w2.setCell ⟨g, 0, none⟩ (.int .i64 (q : Nat))) g ar ap cr cp rs ps p0 way step v { c with going := false, pos := q } := Bx.set h2 0 _
  have hg3 := gtr hg2 (gset w2 ⟨g, 0, none⟩ (.int .i64 (q : Nat)))
  go_upto_region 2 with fail
  (try rw [hqI])
  clear k0 fr0
  generalize w2.setCell ⟨g, 0, none⟩ (.int .i64 (q : Nat)) = w3 at *
  have k4 := Bx.cell h3 4 (v := .int .i64 (c.steps : Nat)) rfl
  have fr4 := Bx.free h3 4
  have hfin : arriveC c = { c with going := false, pos := q, steps := c.steps + 1 } := by rw [HQ.out]; rfl
  have h4 : CarAt (w3.setCell ⟨g, 4, none⟩ (.int .i64 ((c.steps : Int) + 1))) g ar ap cr cp rs ps p0 way step v (arriveC c) := by rw [hfin]; exact Bx.set h3 4 _
  have hg4 := gtr hg3 (gset w3 ⟨g, 4, none⟩ (.int .i64 ((c.steps : Int) + 1)))
  clear hfin hqI
  go_wp2
  go_end0
  exact ⟨rfl, hg4, h4⟩

set_option maxRecDepth 100000 in
set_option maxHeartbeats 3000000 in
theorem leave_any (ar ap : Option Addr) (cr cp : Nat) (rs ps : List (Int × Int)) (p0 way step : Int) (g : Nat) (v : Value) (c : Car) (w : World) (hc : CarAt w g ar ap cr cp rs ps p0 way step v c) (T : Tr) (hT : T.rcs = rs ∧ T.step = step) (hv : VT T) (hp : c.pos < T.rcs.length) (ht : 0 ≤ c.time ∧ c.time ≤ 9000000000000) :
    Calls Try.prog 88 #[.pointer (some ⟨g, 0, none⟩)] w (CarP g ar ap cr cp rs ps p0 way step v (leaveC T c) w) := by
  obtain ⟨d, hd⟩ : ∃ d : Int, d = if c.up then 1 else -1 := ⟨_, rfl⟩
  have hd1 : d = 1 ∨ d = -1 := by rw [hd]; split <;> simp
  have hn6 := hv.n6
  have hst := hv.st
  rw [hT.2] at hst
  have hN : inR 0 ((c.pos : Int) + d) ((rs.length : Int) - 1) = hasNext T.rcs.length c.up c.pos := by
    rw [Bool.eq_iff_iff, inR_iff, hd, ← hT.1]
    unfold hasNext
    cases c.up
    · simp; omega
    · simp; omega
  have hlen : (rs.length : Int) ≤ 6 := by rw [← hT.1]; omega
  have hpI : (c.pos : Int) ≤ 6 := by omega
  have u0 := Ext.cell (Bx.cell hc 0 (v := .int .i64 (c.pos : Nat)) rfl)
  have u1 := Ext.cell (Bx.cell hc 1 (v := .int .i64 d) (by rw [hd]; rfl))
  have u6 := Ext.cell (Bx.cell hc 6 (v := .slice ar rs.length cr) rfl)
  have ew1 : IntKind.i64.wrap ((c.pos : Int) + d) = (c.pos : Int) + d := IntWalk.i64_in _ (by omega)
  have ew2 : IntKind.i64.wrap ((rs.length : Int) - 1) = (rs.length : Int) - 1 := IntWalk.i64_in _ (by omega)
  have ew3 : IntKind.i64.wrap (c.time + step) = c.time + step := IntWalk.i64_in _ (by omega)
  have HD := hid hd
  by_cases hh : hasNext T.rcs.length c.up c.pos = true
  · rw [hh] at hN
    have hfin : leaveC T c = { c with going := true, time := c.time + step } := by unfold leaveC; rw [if_pos hh, hT.2]
    rw [hfin]
    clear hfin hh hd
    go_enter Try.func88, Try.ntmps88
    go_upto_region 0 with fail
    refine wp_region_ext_lit (by kernel_rfl) (by kernel_rfl) ?_
    repeat (quiet_step (first | (go_at_call 72; exact quiet_ext ((isFrom_any _ _ _ _).mono (fun e w' h => ⟨h.1, Below.of_eq h.2⟩)))))
    refine wpQuiet_nil ?_
    intro _ hw'
    obtain ⟨t, rfl⟩ := hw'
    have hb := t.below
    have h2 := Bx.below hc hb
    have hg2 : w.grownBy t.w (some g) := gbel hb
    clear u0 u1 u6
    generalize t.w = w2 at *
    (try rw [hN])
    have fr := Bx.free h2 25
    have k25 := Bx.cell h2 25 (v := .bool c.going) rfl
    have h3 : CarAt (w2.setCell ⟨g, 25, none⟩ (.bool true)) g ar ap cr cp rs ps p0 way step v { c with going := true } := Bx.set h2 25 _
    have hg3 := gtr hg2 (gset w2 ⟨g, 25, none⟩ (.bool true))
    go_upto_region 3 with fail
    generalize w2.setCell ⟨g, 25, none⟩ (.bool true) = w3 at *
    have v9 := Ext.cell (Bx.cell h3 9 (v := .int .i64 step) rfl)
    have v24 := Ext.cell (Bx.cell h3 24 (v := .int .i64 c.time) rfl)
    refine wp_region_ext_tail 12 (by kernel_rfl) (by kernel_rfl) ?_
    simp only [List.take_succ_cons, List.take_zero, List.drop_succ_cons, List.drop_zero]
    repeat (quiet_step (first | fail))
    refine wpQuiet_nil ?_
    intro _ hw'
    obtain ⟨t2, rfl⟩ := hw'
    have hb3 := t2.below
    have h4 := Bx.below h3 hb3
    have hg4 := gtr hg3 (gbel hb3)
    clear v9 v24
    generalize t2.w = w4 at *
    have fr2 := Bx.free h4 24
    have k24 := Bx.cell h4 24 (v := .int .i64 c.time) rfl
    have h5 : CarAt (w4.setCell ⟨g, 24, none⟩ (.int .i64 (c.time + step))) g ar ap cr cp rs ps p0 way step v { c with going := true, time := c.time + step } := Bx.set h4 24 _
    have hg5 := gtr hg4 (gset w4 ⟨g, 24, none⟩ (.int .i64 (c.time + step)))
    go_wp2
    go_end0
    exact ⟨rfl, hg5, h5⟩
  · have hhf : hasNext T.rcs.length c.up c.pos = false := by simpa using hh
    rw [hhf] at hN
    have hfin : leaveC T c = { c with up := !c.up } := by unfold leaveC; rw [if_neg hh]
    rw [hfin]
    clear hfin hh hhf hd
    go_enter Try.func88, Try.ntmps88
    go_upto_region 0 with fail
    refine wp_region_ext_lit (by kernel_rfl) (by kernel_rfl) ?_
    repeat (quiet_step (first | (go_at_call 72; exact quiet_ext ((isFrom_any _ _ _ _).mono (fun e w' h => ⟨h.1, Below.of_eq h.2⟩)))))
    refine wpQuiet_nil ?_
    intro _ hw'
    obtain ⟨t, rfl⟩ := hw'
    have hb := t.below
    have h2 := Bx.below hc hb
    have hg2 : w.grownBy t.w (some g) := gbel hb
    clear u0 u1 u6
    generalize t.w = w2 at *
    (try rw [hN])
    have fr := Bx.free h2 1
    have k1 := Bx.cell h2 1 (v := .int .i64 d) (by rw [HD.out]; rfl)
    have hneg : -d = if (!c.up) = true then 1 else -1 := by rw [HD.out]; cases c.up <;> rfl
    have h3 : CarAt (w2.setCell ⟨g, 1, none⟩ (.int .i64 (-d))) g ar ap cr cp rs ps p0 way step v { c with up := !c.up } := by rw [hneg]; exact Bx.set h2 1 _
    have hg3 := gtr hg2 (gset w2 ⟨g, 1, none⟩ (.int .i64 (-d)))
    clear hneg
    go_wp2
    go_end0
    exact ⟨rfl, hg3, h3⟩
end Go.Proofs.Ytknaljghpfeikaa
namespace Go.Proofs.Ytknaljghpfeikaa
open Go.RowKit

theorem Bx.gb {w w' : World} {b : Nat} {vs : Array Value} {T : TypeId} {row : Option Nat} (h : Bx w b vs T) (hg : w.grownBy w' row) (hne : ∀ k, row = some k → b ≠ k) : Bx w' b vs T := by
  have := hg.block b h.lt (fun e => hne b e.symm rfl)
  unfold Bx at *; rw [this]; exact h
theorem under28 : Try.prog.underlying 28 = some (.slice 39) := by kernel_rfl
theorem info39 : (Try.prog.info? 39).map (fun i => (i.zero, i.size, i.bytes)) = some (some (.agg #[.int .i64 0, .int .i64 0]), 2, 16) := by kernel_rfl
theorem car_off {ar ap : Option Addr} {cr cp : Nat} {rs ps : List (Int × Int)} {p0 way step : Int} {v : Value} (c : Car) {k : Nat} (hk : k < 12) :
    (carV ar ap cr cp rs ps p0 way step v c).setIfInBounds (11 + k) (.bool false) = carV ar ap cr cp rs ps p0 way step v { c with pins := fun i => c.pins i && !decide (i = k) } := by
  rcases twelve hk with rfl | rfl | rfl | rfl | rfl | rfl | rfl | rfl | rfl | rfl | rfl | rfl <;> simp [carV]
theorem car_on {ar ap : Option Addr} {cr cp : Nat} {rs ps : List (Int × Int)} {p0 way step : Int} {v : Value} (c : Car) {k : Nat} (hk : k < 12) :
    (carV ar ap cr cp rs ps p0 way step v c).setIfInBounds (11 + k) (.bool true) = carV ar ap cr cp rs ps p0 way step v { c with pins := fun i => decide (i = k) || c.pins i } := by
  rcases twelve hk with rfl | rfl | rfl | rfl | rfl | rfl | rfl | rfl | rfl | rfl | rfl | rfl <;> simp [carV]
theorem car_pin {ar ap : Option Addr} {cr cp : Nat} {rs ps : List (Int × Int)} {p0 way step : Int} {v : Value} (c : Car) {k : Nat} (hk : k < 12) :
    (carV ar ap cr cp rs ps p0 way step v c)[11 + k]? = some (.bool (c.pins k)) := by
  rcases twelve hk with rfl | rfl | rfl | rfl | rfl | rfl | rfl | rfl | rfl | rfl | rfl | rfl <;> rfl

/-- The carriage with the row of its plays, above B. -/
def PlayP (g : Nat) (ar ap : Option Addr) (cr cp : Nat) (rs ps : List (Int × Int)) (p0 way step : Int) (c' : Car) (B : Nat) (w : World) (e : Ending) (w' : World) : Prop :=
  e = .returned (.tuple #[]) ∧ Below B w w' ∧ ∃ (a : Option Addr) (cv : Nat), CarAt w' g ar ap cr cp rs ps p0 way step (.slice a c'.plays.length cv) c' ∧
    w'.ownsRow B 39 2 (.slice a c'.plays.length cv) c'.plays.length (pcells c'.plays) ∧ (Value.slice a c'.plays.length cv).ownBlock ≠ some g

set_option maxRecDepth 100000 in
set_option maxHeartbeats 4000000 in
theorem play_any (ar ap : Option Addr) (cr cp : Nat) (rs ps : List (Int × Int)) (p0 way step : Int) (g : Nat) (a : Option Addr) (cv : Nat) (c : Car) (k : Nat) (B : Nat) (w : World) (hc : CarAt w g ar ap cr cp rs ps p0 way step (.slice a c.plays.length cv) c) (hk : k < 12)
    (hown : w.ownsRow B 39 2 (.slice a c.plays.length cv) c.plays.length (pcells c.plays)) (hne : (Value.slice a c.plays.length cv).ownBlock ≠ some g) (hB : B ≤ g) (hnb : c.plays.length ≤ 100000)
    (w0 : World) (hR : Prs w0 ar rs) (hb0 : Below B w0 w) (hB0 : w0.heap.size ≤ B) (T : Tr) (hT : T.rcs = rs) (hv : VT T) (hkr : k / 2 < rs.length) (ht : 0 ≤ c.time ∧ c.time ≤ 9000000000000) :
    Calls Try.prog 90 #[.pointer (some ⟨g, 0, none⟩), .int .i64 (k : Nat)] w (PlayP g ar ap cr cp rs ps p0 way step (playC T c k) B w) := by
  obtain ⟨i0, hi0, iz0, iz1, iz2⟩ := info_parts info39
  have hkI : (k : Int) < 12 := by omega
  have hk0 : (0 : Int) ≤ (k : Int) := by omega
  have h1 : CarAt (w.setCell ⟨g, 11 + k, none⟩ (.bool false)) g ar ap cr cp rs ps p0 way step (.slice a c.plays.length cv) { c with pins := fun i => c.pins i && !decide (i = k) } := by
    have := Bx.set hc (11 + k) (.bool false)
    rw [car_off c hk] at this
    exact this
  have hg1 := gset w ⟨g, 11 + k, none⟩ (.bool false)
  have fr := Bx.free hc (11 + k)
  have kc := Bx.cell hc (11 + k) (car_pin c hk)
  go_enter Try.func90, Try.ntmps90
  go_upto_region 1 with fail
  generalize w.setCell ⟨g, 11 + k, none⟩ (.bool false) = w1 at *
  have hor : (Value.slice a c.plays.length cv).ownBlock = none ∨ (Value.slice a c.plays.length cv).ownBlock ≠ some g := .inr hne
  have hown1 := hown.kept hg1 hor
  obtain ⟨pn, hpn⟩ : ∃ f : Nat → Bool, f = fun i => c.pins i && !decide (i = k) := ⟨_, rfl⟩
  rw [← hpn] at h1
  have fr2 := Bx.free h1 2
  have k2 := Bx.cell h1 2 (v := .int .i64 c.side) rfl
  have h2 : CarAt (w1.setCell ⟨g, 2, none⟩ (.int .i64 (k : Nat))) g ar ap cr cp rs ps p0 way step (.slice a c.plays.length cv) { c with pins := pn, side := k } := Bx.set h1 2 _
  have hg2 := gtr hg1 (gset w1 ⟨g, 2, none⟩ (.int .i64 (k : Nat)))
  have hown2 := hown1.kept (gset w1 ⟨g, 2, none⟩ (.int .i64 (k : Nat))) hor
  clear fr kc
  go_upto_region 2 with fail
  generalize w1.setCell ⟨g, 2, none⟩ (.int .i64 (k : Nat)) = w2 at *
  clear fr2 k2 hown1 h1 hg1
  have hbd : Below w2.heap.size w2 w2.drew := (Below.refl _ _).drew
  have hown3 := own_below2 hown2 hbd
  have h3 := Bx.below h2 hbd
  have hg3 : w.grownBy w2.drew (some g) := gtr hg2 (gbel hbd)
  clear hbd hown2 h2 hg2
  obtain ⟨n, hn⟩ : ∃ n, n = c.plays.length := ⟨_, rfl⟩
  rw [← hn] at h3 hown3 hne hor
  have hnb2 : n ≤ 100000 := by rw [hn]; exact hnb
  have HN := hid hn
  clear hn
  refine wp_region_head 14 (fun w' => CarAt w' g ar ap cr cp rs ps p0 way step (.slice a n cv) { c with pins := pn, side := k }) (by kernel_rfl) rfl ?_
  generalize w2.drew = Y0 at *
  refine HeadAt.take (i := 0) (.pointer (some ⟨g, 0, none⟩)) rfl (by kernel_rfl) (.inl ⟨rfl, fun _ _ => by simp [go_sem]⟩) h3 ?_
  refine HeadAt.take (i := 1) (.pointer (some ⟨g, 0, none⟩)) rfl (by kernel_rfl) (.inl ⟨rfl, fun _ _ => by simp [go_sem]⟩) h3 ?_
  refine HeadAt.take (i := 2) (.pointer (some ⟨g, 0, none⟩)) rfl (by kernel_rfl) (.inl ⟨rfl, fun _ _ => by simp [go_sem]⟩) h3 ?_
  refine HeadAt.take (i := 3) (.pointer (some ⟨g, 0, none⟩)) rfl (by kernel_rfl) (.inl ⟨rfl, fun _ _ => by simp [go_sem]⟩) h3 ?_
  refine HeadAt.take (i := 4) (.pointer (some ⟨g, 3, none⟩)) rfl (by kernel_rfl) (.inl ⟨rfl, fun _ _ => by simp [go_sem]⟩) h3 ?_
  refine HeadAt.take (i := 5) (.slice a n cv) rfl (by kernel_rfl) (.inl ⟨rfl, fun w' z => ?_⟩) h3 ?_
  · (have z0 := Bx.cell z 3 (v := .slice a n cv) rfl; simp [go_sem, z0])
  refine HeadAt.take (i := 6) (.int .i64 (k : Nat)) rfl (by kernel_rfl) (.inl ⟨rfl, fun _ _ => by simp [go_sem]⟩) h3 ?_
  refine HeadAt.take (i := 7) (.pointer (some ⟨g, 0, none⟩)) rfl (by kernel_rfl) (.inl ⟨rfl, fun _ _ => by simp [go_sem]⟩) h3 ?_
  refine HeadAt.take (i := 8) (.pointer (some ⟨g, 0, none⟩)) rfl (by kernel_rfl) (.inl ⟨rfl, fun _ _ => by simp [go_sem]⟩) h3 ?_
  refine HeadAt.take (i := 9) (.pointer (some ⟨g, 24, none⟩)) rfl (by kernel_rfl) (.inl ⟨rfl, fun _ _ => by simp [go_sem]⟩) h3 ?_
  refine HeadAt.take (i := 10) (.int .i64 c.time) rfl (by kernel_rfl) (.inl ⟨rfl, fun w' z => ?_⟩) h3 ?_
  · (have z0 := Bx.cell z 24 (v := .int .i64 c.time) rfl; simp [go_sem, z0])
  refine HeadAt.take (i := 11) (.agg #[.int .i64 (k : Nat), .int .i64 c.time]) rfl (by kernel_rfl) (.inl ⟨rfl, fun _ _ => by simp [go_sem]⟩) h3 ?_
  have hb4 := below_one (w := Y0) (.cells #[.int .i64 (k : Nat), .int .i64 c.time] 39)
  have h4 := Bx.below h3 hb4
  have hown4 := hown3.alloc (.cells #[.int .i64 (k : Nat), .int .i64 c.time] 39)
  have hcl := Cls.of_bx (Bx.new Y0 #[.int .i64 (k : Nat), .int .i64 c.time] 39)
  have hlt := h4.lt
  have hlt0 := Bx.lt h3
  have hgY := gtr hg3 (gbel hb4)
  refine HeadAt.one (i := 12) rfl (by kernel_rfl) ?_
  generalize hK : Upto _ _ = K0
  (try simp only [Act.put, List.getElem_toArray, List.getElem_cons_succ, List.getElem_cons_zero, List.setIfInBounds_toArray, List.set_cons_succ, List.set_cons_zero])
  go_wp2_with fail
  subst hK
  refine ⟨h4, ?_⟩
  refine HeadAt.one (i := 13) rfl (by kernel_rfl) ?_
  generalize hK : Upto _ _ = K0
  (try simp only [List.getElem_toArray, List.getElem_cons_succ, List.getElem_cons_zero])
  go_wp2_with (at_builtin; refine wpList_appAt rfl (.tmp 20) (.tmp 27) 28 rfl B 39 i0 (.agg #[.int .i64 0, .int .i64 0]) 2 16 under28 hi0 iz0 iz1 iz2 rfl (by decide) (.slice a n cv) n (pcells c.plays) rfl hown4 (some ⟨Y0.heap.size, 0, none⟩) 1 1 [.int .i64 (k : Nat), .int .i64 c.time] rfl rfl hcl (by simp; exact ⟨rfl, rfl⟩) (by unfold maxLen; omega) (by omega) (by omega) ?_; intro v5 W5 hown5 hg5 hat)
  obtain ⟨a5, c5, rfl⟩ := own_slice2 hown5
  have h5 := Bx.gb h4 hg5 (fun j hj e => hne (by rw [hj, e]))
  have hne5 : (Value.slice a5 (n + 1) c5).ownBlock ≠ some g := by
    rcases hat with h | h
    · rw [h]; exact hne
    · rw [h]; intro e; injection e with e; omega
  have hlw := Bx.lt hc
  have hbw : Below B w (Y0.alloc (.cells #[.int .i64 (k : Nat), .int .i64 c.time] 39)) := (Below.refl B w).grown hgY (by omega) (fun j hj => by cases hj; exact hB)
  have hb5 : Below B w W5 := hbw.grown hg5 (by omega) (own_ge2 hown4)
  have hpc : pcells (c.plays ++ [(((k : Nat) : Int), c.time)]) = pcells c.plays ++ [.int .i64 (k : Nat), .int .i64 c.time] := by rw [pcells_app]; rfl
  rw [← hpc] at hown5
  subst hK
  refine ⟨h5, ?_⟩
  have fr3 := Bx.free h5 3
  have k3 := Bx.cell h5 3 (v := .slice a n cv) rfl
  have h6 : CarAt (W5.setCell ⟨g, 3, none⟩ (.slice a5 (n + 1) c5)) g ar ap cr cp rs ps p0 way step (.slice a5 (n + 1) c5) { c with pins := pn, side := k, plays := c.plays ++ [(((k : Nat) : Int), c.time)] } := Bx.set h5 3 _
  have hown6 := hown5.kept (gset W5 ⟨g, 3, none⟩ (.slice a5 (n + 1) c5)) (.inr hne5)
  have hb6 := hb5.setCell (p := ⟨g, 3, none⟩) hB (.slice a5 (n + 1) c5)
  clear hpc hown4 hcl hg5 hat hown5 hb5 hbw h4 hb4 hgY h3 hown3 hg3
  refine HeadAt.done (by kernel_rfl) ?_
  (try simp only [List.drop_succ_cons, List.drop_zero])
  go_wp2_with fail
  refine NoPanic.normal ?_
  have hb6' := hb0.trans hb6
  generalize W5.setCell ⟨g, 3, none⟩ (.slice a5 (n + 1) c5) = w6 at *
  clear fr3 k3 h5
  obtain ⟨kk, hkk⟩ : ∃ q, q = k / 2 := ⟨_, rfl⟩
  rw [← hkk] at hkr
  have hkq : Int.tdiv (k : Int) 2 = (kk : Int) := by rw [hkk]; rfl
  obtain ⟨b, off, x, y, rfl, hbs, hc1, hc2, _, _, hx, _⟩ := (hR.below hb6' hB0).at hkr
  have hkkI : (kk : Int) < (rs.length : Int) := by omega
  have hkk0 : (0 : Int) ≤ (kk : Int) := by omega
  have ewk : IntKind.i64.wrap (kk : Int) = (kk : Int) := IntWalk.i64_in _ (by omega)
  obtain ⟨sc, hsc⟩ : ∃ q, q = secs T k := ⟨_, rfl⟩
  have hse := fun W => seconds_any (x, y) k W (by omega)
  have hsv : (if k % 2 = 0 then (x, y).1 else (x, y).2) = sc := by
    have e : rs.getD kk (0, 0) = (x, y) := by rw [List.getD_eq_getElem?_getD, hx.out]; rfl
    rw [hsc]
    unfold secs
    rw [hT, ← hkk, e]
  rw [hsv] at hse
  have hscb := secs_le hv (k := k) (by rw [hT]; omega)
  rw [← hsc] at hscb
  have ew : IntKind.i64.wrap (c.time + sc) = c.time + sc := IntWalk.i64_in _ (by omega)
  have HSC := hid hsc; have HPN := hid hpn
  clear hsv hsc hx hpn hkk
  go_upto_region 3 with fail
  have v6 := Ext.cell (Bx.cell h6 6 (v := .slice (some ⟨b, off, none⟩) rs.length cr) rfl)
  have v24 := Ext.cell (Bx.cell h6 24 (v := .int .i64 c.time) rfl)
  have d1 := Ext.cell hc1; have d2 := Ext.cell hc2
  refine wp_region_ext_tail 16 (by kernel_rfl) (by kernel_rfl) ?_
  simp only [List.take_succ_cons, List.take_zero, List.drop_succ_cons, List.drop_zero]
  repeat (quiet_step (first | (go_at_call 94; exact quiet_ext (hse _))))
  refine wpQuiet_nil ?_
  intro _ hw'
  obtain ⟨t, rfl⟩ := hw'
  have hb := t.below
  have h7 := Bx.below h6 hb
  have hown7 := own_below2 hown6 hb
  have hs6 : B ≤ w6.heap.size := by have := Bx.lt h6; omega
  have hb7 := hb6.trans (hb.mono hs6)
  clear v6 v24 d1 d2 hc1 hc2 hse h6 hown6 hb6 hb6'
  generalize t.w = w7 at *
  have fr24 := Bx.free h7 24
  have k24 := Bx.cell h7 24 (v := .int .i64 c.time) rfl
  have h8 : CarAt (w7.setCell ⟨g, 24, none⟩ (.int .i64 (c.time + sc))) g (some ⟨b, off, none⟩) ap cr cp rs ps p0 way step (.slice a5 (n + 1) c5) { c with pins := pn, side := k, plays := c.plays ++ [(((k : Nat) : Int), c.time)], time := c.time + sc } := Bx.set h7 24 _
  have hown8 := hown7.kept (gset w7 ⟨g, 24, none⟩ (.int .i64 (c.time + sc))) (.inr hne5)
  have hb8 := hb7.setCell (p := ⟨g, 24, none⟩) hB (.int .i64 (c.time + sc))
  go_upto_region 4 with fail
  generalize w7.setCell ⟨g, 24, none⟩ (.int .i64 (c.time + sc)) = w8 at *
  clear fr24 k24 h7 hown7 hb7
  have fr5 := Bx.free h8 5
  have k5 := Bx.cell h8 5 (v := .int .i64 c.fin) rfl
  have k24 := Bx.cell h8 24 (v := .int .i64 (c.time + sc)) rfl
  have hpl : playC T c k = { c with pins := pn, side := k, plays := c.plays ++ [(((k : Nat) : Int), c.time)], time := c.time + sc, fin := c.time + sc } := by rw [HPN.out, HSC.out]; rfl
  have h9 : CarAt (w8.setCell ⟨g, 5, none⟩ (.int .i64 (c.time + sc))) g (some ⟨b, off, none⟩) ap cr cp rs ps p0 way step (.slice a5 (n + 1) c5) (playC T c k) := by rw [hpl]; exact Bx.set h8 5 _
  have hown9 := hown8.kept (gset w8 ⟨g, 5, none⟩ (.int .i64 (c.time + sc))) (.inr hne5)
  have hb9 := hb8.setCell (p := ⟨g, 5, none⟩) hB (.int .i64 (c.time + sc))
  have hln : (playC T c k).plays.length = n + 1 := by rw [hpl]; show (c.plays ++ [_]).length = _; rw [List.length_append, HN.out]; rfl
  have hpls : (playC T c k).plays = c.plays ++ [(((k : Nat) : Int), c.time)] := by rw [hpl]
  have HL := hid (And.intro hln hpls)
  clear hpl hln hpls h8 hown8 hb8
  go_wp2
  go_end0
  exact ⟨rfl, hb9, a5, c5, by rw [HL.out.1]; exact h9, by rw [HL.out.1, HL.out.2]; exact hown9, by rw [HL.out.1]; exact hne5⟩
end Go.Proofs.Ytknaljghpfeikaa
namespace Go.Proofs.Ytknaljghpfeikaa
open Go.RowKit

set_option maxRecDepth 100000 in
set_option maxHeartbeats 4000000 in
theorem hear_any (ar ap : Option Addr) (cr cp : Nat) (rs ps : List (Int × Int)) (p0 way step : Int) (g : Nat) (v : Value) (c : Car) (B : Nat) (w : World) (hc : CarAt w g ar ap cr cp rs ps p0 way step v c) (hB : B ≤ g)
    (w0 : World) (hP : Prs w0 ap ps) (hb0 : Below B w0 w) (hB0 : w0.heap.size ≤ B) (T : Tr) (hT : T.prs = ps) (hpx : ∀ p ∈ ps, 0 ≤ p.1 ∧ p.1 < 12) :
    Calls Try.prog 74 #[.pointer (some ⟨g, 0, none⟩)] w (CarP g ar ap cr cp rs ps p0 way step v (hearC T c) w) := by
  have lp := hP.1
  have lpI : (ps.length : Int) ≤ 4611686018427387903 := by omega
  have c10 := Bx.cell hc 10 (v := .slice ap ps.length cp) rfl
  have hgw := Bx.lt hc
  have Hc := hid hc; clear hc
  go_enter Try.func74, Try.ntmps74
  go_wp2
  clear c10
  go_loopw [10] (fun v10 wr => ∃ j : Nat, j ≤ ps.length ∧ v10 = .int .i64 (j : Int) ∧ w.grownBy wr (some g) ∧ CarAt wr g ar ap cr cp rs ps p0 way step v { c with pins := hearS (ps.take j) c.heard c.time c.pins }) (fun v10 _ => ps.length - (intOf v10).toNat)
  case atStart => exact ⟨0, Nat.zero_le _, rfl, World.grownBy.refl _ _, Hc.out⟩
  case round =>
    obtain ⟨j, hj, rfl, hg, hcr⟩ := hrel
    have hbr : Below B w0 wr := hb0.grown hg (by omega) (fun k hk => by cases hk; exact hB)
    obtain ⟨pn, hpn⟩ : ∃ f, f = hearS (ps.take j) c.heard c.time c.pins := ⟨_, rfl⟩
    rw [← hpn] at hcr
    by_cases hlt : j < ps.length
    · obtain ⟨b, off, x, y, rfl, hbs, hc1, hc2, _, _, hx, _⟩ := (hP.below hbr hB0).at hlt
      have hjI : (j : Int) < (ps.length : Int) := by omega
      have hj0 : (0 : Int) ≤ (j : Int) := by omega
      have hxx := hpx (x, y) (List.mem_of_getElem? hx.out)
      obtain ⟨kx, rfl⟩ : ∃ k : Nat, x = (k : Int) := ⟨x.toNat, by have := hxx.1; dsimp only at this; omega⟩
      have hk12 : kx < 12 := by have := hxx.2; dsimp only at this; omega
      have hnx : hearS (ps.take (j + 1)) c.heard c.time c.pins = hear1 c.heard c.time pn ((kx : Int), y) := by
        rw [hpn, List.take_add_one, hx.out]; simp [hearS]
      have Hnx := hid hnx
      have hkI : (kx : Int) < 12 := by omega
      have hk0 : (0 : Int) ≤ (kx : Int) := by omega
      have hb1 := below_one (w := wr) (.cells #[.int .i64 (kx : Int), .int .i64 y] 40)
      have xp := Bx.new wr #[.int .i64 (kx : Int), .int .i64 y] 40
      have hc1' := Bx.below hcr hb1
      have hg1 := gtr hg (gbel (g := g) hb1)
      have hgr := Bx.lt hcr
      clear hnx hpn hx hxx hb1 hcr hg
      go_upto_region 3 with fail
      generalize wr.alloc (.cells #[.int .i64 (kx : Int), .int .i64 y] 40) = V at *
      generalize wr.heap.size = h at *
      have g0 := xp.cell 0 rfl; have g1 := xp.cell 1 rfl
      have v23 := Bx.cell hc1' 23 (v := .int .i64 c.heard) rfl
      have v24 := Bx.cell hc1' 24 (v := .int .i64 c.time) rfl
      by_cases h1 : c.heard < y
      · by_cases h2 : y ≤ c.time
        · have hr : hearS (ps.take (j + 1)) c.heard c.time c.pins = fun i => decide (i = kx) || pn i := by
            rw [Hnx.out]; unfold hear1; rw [if_pos ⟨h1, h2⟩]; simp
          have HR := hid hr; clear hr
          go_quiet ((fail))
          generalize hV2 : V.drewN nq = V2
          have hbd : Below V.heap.size V V2 := by rw [← hV2]; exact below_drewN (Below.refl _ _) _
          have hc2' := Bx.below hc1' hbd
          have hg2 := gtr hg1 (gbel (g := g) hbd)
          have xp2 := xp.below hbd
          clear hV2 g0 g1 v23 v24
          go_upto_region 4 with fail
          have e0 := xp2.ext 0 rfl
          refine wp_region_ext_tail 6 (by kernel_rfl) (by kernel_rfl) ?_
          simp only [List.take_succ_cons, List.take_zero, List.drop_succ_cons, List.drop_zero]
          repeat (quiet_step (first | fail))
          refine wpQuiet_nil ?_
          intro _ hw'
          obtain ⟨t, rfl⟩ := hw'
          have hb := t.below
          have h3 := Bx.below hc2' hb
          have hg3 := gtr hg2 (gbel (g := g) hb)
          clear e0
          generalize t.w = V3 at *
          have fr := Bx.free h3 (11 + kx)
          have kc := Bx.cell h3 (11 + kx) (car_pin _ hk12)
          have h4 : CarAt (V3.setCell ⟨g, 11 + kx, none⟩ (.bool true)) g ar (some ⟨b, off, none⟩) cr cp rs ps p0 way step v { c with pins := fun i => decide (i = kx) || pn i } := by
            have := Bx.set h3 (11 + kx) (.bool true)
            rw [car_on _ hk12] at this
            exact this
          have hg4 := gtr hg3 (gset V3 ⟨g, 11 + kx, none⟩ (.bool true))
          go_wp2
          go_roundw
          case rel => exact ⟨j + 1, by omega, by go_num, hg4, by rw [HR.out]; exact h4⟩
          case measure => simp [intOf]; omega
        · have hr : hearS (ps.take (j + 1)) c.heard c.time c.pins = pn := by
            rw [Hnx.out]; unfold hear1; rw [if_neg (fun hh => h2 hh.2)]
          have HR := hid hr; clear hr
          have h3 : c.time < y := by omega
          clear h2
          go_quiet ((fail))
          generalize hV2 : V.drewN nq = V2
          have hbd : Below V.heap.size V V2 := by rw [← hV2]; exact below_drewN (Below.refl _ _) _
          have hc2' := Bx.below hc1' hbd
          have hg2 := gtr hg1 (gbel (g := g) hbd)
          clear hV2 g0 g1 v23 v24
          go_wp2
          go_roundw
          case rel => exact ⟨j + 1, by omega, by go_num, hg2, by rw [HR.out]; exact hc2'⟩
          case measure => simp [intOf]; omega
      · have hr : hearS (ps.take (j + 1)) c.heard c.time c.pins = pn := by
          rw [Hnx.out]; unfold hear1; rw [if_neg (fun hh => h1 hh.1)]
        have HR := hid hr; clear hr
        have h3 : y ≤ c.heard := by omega
        clear h1
        have hbd : Below V.heap.size V V.drew := (Below.refl _ _).drew
        have hc2' := Bx.below hc1' hbd
        have hg2 := gtr hg1 (gbel (g := g) hbd)
        have xp2 := xp.below hbd
        clear g0 g1 v23 v24
        refine wp_region_head 15 (fun w' => CarAt w' g ar (some ⟨b, off, none⟩) cr cp rs ps p0 way step v { c with pins := pn } ∧ Bx w' h #[.int .i64 (kx : Int), .int .i64 y] 40) (by kernel_rfl) rfl ?_
        generalize V.drew = Y0 at *
        refine HeadAt.take (i := 0) (.pointer (some ⟨g, 0, none⟩)) rfl (by kernel_rfl) (.inl ⟨rfl, fun _ _ => by simp [go_sem]⟩) ⟨hc2', xp2⟩ ?_
        refine HeadAt.take (i := 1) (.pointer (some ⟨g, 0, none⟩)) rfl (by kernel_rfl) (.inl ⟨rfl, fun _ _ => by simp [go_sem]⟩) ⟨hc2', xp2⟩ ?_
        refine HeadAt.take (i := 2) (.pointer (some ⟨g, 23, none⟩)) rfl (by kernel_rfl) (.inl ⟨rfl, fun _ _ => by simp [go_sem]⟩) ⟨hc2', xp2⟩ ?_
        refine HeadAt.take (i := 3) (.int .i64 c.heard) rfl (by kernel_rfl) (.inl ⟨rfl, fun w' z => ?_⟩) ⟨hc2', xp2⟩ ?_
        · (have z0 := Bx.cell z.1 23 (v := .int .i64 c.heard) rfl; simp [go_sem, z0])
        refine HeadAt.take (i := 4) (.pointer (some ⟨h, 1, none⟩)) rfl (by kernel_rfl) (.inl ⟨rfl, fun _ _ => by simp [go_sem]⟩) ⟨hc2', xp2⟩ ?_
        refine HeadAt.take (i := 5) (.int .i64 y) rfl (by kernel_rfl) (.inl ⟨rfl, fun w' z => ?_⟩) ⟨hc2', xp2⟩ ?_
        · (have z0 := Bx.cell z.2 1 (v := .int .i64 y) rfl; simp [go_sem, z0])
        refine HeadAt.take (i := 6) (.bool false) rfl (by kernel_rfl) (.inl ⟨rfl, fun _ _ => by simp [go_sem]; omega⟩) ⟨hc2', xp2⟩ ?_
        refine HeadAt.take (i := 7) (.bool false) rfl (by kernel_rfl) (.inl ⟨rfl, fun _ _ => by simp [go_sem]⟩) ⟨hc2', xp2⟩ ?_
        refine HeadAt.take (i := 8) undef rfl (by kernel_rfl) (.inr ⟨by kernel_rfl, rfl⟩) ⟨hc2', xp2⟩ ?_
        refine HeadAt.take (i := 9) undef rfl (by kernel_rfl) (.inr ⟨by kernel_rfl, rfl⟩) ⟨hc2', xp2⟩ ?_
        refine HeadAt.take (i := 10) undef rfl (by kernel_rfl) (.inr ⟨by kernel_rfl, rfl⟩) ⟨hc2', xp2⟩ ?_
        refine HeadAt.take (i := 11) undef rfl (by kernel_rfl) (.inr ⟨by kernel_rfl, rfl⟩) ⟨hc2', xp2⟩ ?_
        refine HeadAt.take (i := 12) undef rfl (by kernel_rfl) (.inr ⟨by kernel_rfl, rfl⟩) ⟨hc2', xp2⟩ ?_
        refine HeadAt.take (i := 13) undef rfl (by kernel_rfl) (.inr ⟨by kernel_rfl, rfl⟩) ⟨hc2', xp2⟩ ?_
        refine HeadAt.take (i := 14) undef rfl (by kernel_rfl) (.inr ⟨by kernel_rfl, rfl⟩) ⟨hc2', xp2⟩ ?_
        refine HeadAt.done (by kernel_rfl) ?_
        (try simp only [Act.put, List.drop_succ_cons, List.drop_zero, List.getElem_toArray, List.getElem_cons_succ, List.getElem_cons_zero])
        go_wp2_with fail
        refine NoPanic.normal ?_
        go_wp2_with fail
        go_roundw
        case rel => exact ⟨j + 1, by omega, by go_num, hg2, by rw [HR.out]; exact hc2'⟩
        case measure => simp [intOf]; omega
    · have hjI : (ps.length : Int) ≤ (j : Int) := by omega
      have hall : pn = hearS T.prs c.heard c.time c.pins := by rw [hpn, List.take_of_length_le (by omega), hT]
      have hfin : hearC T c = { c with pins := pn, heard := c.time } := by rw [hall]; rfl
      have v24 := Bx.cell hcr 24 (v := .int .i64 c.time) rfl
      have v23 := Bx.cell hcr 23 (v := .int .i64 c.heard) rfl
      have fr := Bx.free hcr 23
      have h4 : CarAt (wr.setCell ⟨g, 23, none⟩ (.int .i64 c.time)) g ar ap cr cp rs ps p0 way step v (hearC T c) := by rw [hfin]; exact Bx.set hcr 23 _
      have hg4 := gtr hg (gset wr ⟨g, 23, none⟩ (.int .i64 c.time))
      clear hall hfin hpn
      go_wp2
      go_end0
      exact ⟨rfl, hg4, h4⟩
end Go.Proofs.Ytknaljghpfeikaa
