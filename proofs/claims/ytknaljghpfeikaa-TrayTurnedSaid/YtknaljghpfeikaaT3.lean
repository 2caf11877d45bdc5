import Derived.Test.YtknaljghpfeikaaT2
namespace Go.Proofs.Ytknaljghpfeikaa
open Go.RowKit

theorem gnone {w w' : World} (h : w.grownBy w' none) (g : Nat) : w.grownBy w' (some g) := ⟨h.os, h.tape, h.output, h.size, fun k hk _ => h.block k hk (by simp)⟩
theorem gset (w : World) (a : Addr) (v : Value) : w.grownBy (w.setCell a v) (some a.block) :=
  ⟨rfl, rfl, rfl, by simp, fun k _ hk => heap_setCell_other w a k v (fun e => hk (by simp [e]))⟩
theorem gtr {a b c : World} {r : Option Nat} (h : a.grownBy b r) (k : b.grownBy c r) : a.grownBy c r := h.trans k
theorem gbel {a b : World} {g : Nat} (h : Below a.heap.size a b) : a.grownBy b (some g) := gnone (Below.gr' h) g
/-- What a method does: it changes the carriage alone. -/
def CarP (g : Nat) (ar ap : Option Addr) (cr cp : Nat) (rs ps : List (Int × Int)) (p0 way step : Int) (v : Value) (c : Car) (w : World) (e : Ending) (w' : World) : Prop :=
  e = .returned (.tuple #[]) ∧ w.grownBy w' (some g) ∧ CarAt w' g ar ap cr cp rs ps p0 way step v c

set_option maxRecDepth 100000 in
set_option maxHeartbeats 2000000 in
theorem arrive_any (ar ap : Option Addr) (cr cp : Nat) (rs ps : List (Int × Int)) (p0 way step : Int) (g : Nat) (v : Value) (c : Car) (w : World) (hc : CarAt w g ar ap cr cp rs ps p0 way step v c) (hp : c.pos ≤ 100) (hs : c.steps ≤ 100000) (hu : c.up = false → 0 < c.pos) :
    Calls Try.prog 87 #[.pointer (some ⟨g, 0, none⟩)] w (CarP g ar ap cr cp rs ps p0 way step v (arriveC c) w) := by
  have h1 : CarAt (w.setCell ⟨g, 25, none⟩ (.bool false)) g ar ap cr cp rs ps p0 way step v { c with going := false } := Bx.set hc 25 _
  have hg1 := gset w ⟨g, 25, none⟩ (.bool false)
  have fr := Bx.free hc 25
  have hc25 := Bx.cell hc 25 rfl
  go_enter Try.func87, Try.ntmps87
  go_upto_region 1 with fail
  generalize w.setCell ⟨g, 25, none⟩ (.bool false) = w1 at *
  obtain ⟨q, hq⟩ : ∃ q : Nat, q = (arriveC c).pos := ⟨_, rfl⟩
  have hqI : (c.pos : Int) + (if c.up then 1 else -1) = (q : Int) := by
    rw [hq]
    show (c.pos : Int) + _ = ((if c.up then c.pos + 1 else c.pos - 1 : Nat) : Int)
    cases hup : c.up
    · have := hu hup; simp; omega
    · simp
  obtain ⟨d, hd⟩ : ∃ d : Int, d = if c.up then 1 else -1 := ⟨_, rfl⟩
  have hd1 : d = 1 ∨ d = -1 := by rw [hd]; split <;> simp
  rw [← hd] at hqI
  have u0 := Ext.cell (Bx.cell h1 0 (v := .int .i64 (c.pos : Nat)) rfl)
  have u1 := Ext.cell (Bx.cell h1 1 (v := .int .i64 d) (by rw [hd]; rfl))
  have HQ := hid hq
  clear hq hd fr hc25
  refine wp_region_ext_tail 17 (by kernel_rfl) (by kernel_rfl) ?_
  simp only [List.take_succ_cons, List.take_zero, List.drop_succ_cons, List.drop_zero]
  repeat (quiet_step (first | fail))
  refine wpQuiet_nil ?_
  intro _ hw'
  obtain ⟨t, rfl⟩ := hw'
  have hb := t.below
  have h2 := Bx.below h1 hb
  have hg2 := gtr hg1 (gbel hb)
  clear u0 u1
  generalize t.w = w2 at *
  have fr0 := Bx.free h2 0
  have k0 := Bx.cell h2 0 (v := .int .i64 (c.pos : Nat)) rfl
  have h3 : CarAt (w2.setCell ⟨g, 0, none⟩ (.int .i64 (q : Nat))) g ar ap cr cp rs ps p0 way step v { c with going := false, pos := q } := Bx.set h2 0 _
  have hg3 := gtr hg2 (gset w2 ⟨g, 0, none⟩ (.int .i64 (q : Nat)))
  go_upto_region 2 with fail
  (try rw [hqI])
  clear k0 fr0
  generalize w2.setCell ⟨g, 0, none⟩ (.int .i64 (q : Nat)) = w3 at *
  have k4 := Bx.cell h3 4 (v := .int .i64 (c.steps : Nat)) rfl
  have fr4 := Bx.free h3 4
  have hfin : arriveC c = { c with going := false, pos := q, steps := c.steps + 1 } := by rw [HQ.out]; rfl
  have h4 : CarAt (w3.setCell ⟨g, 4, none⟩ (.int .i64 ((c.steps : Int) + 1))) g ar ap cr cp rs ps p0 way step v (arriveC c) := by rw [hfin]; exact Bx.set h3 4 _
  have hg4 := gtr hg3 (gset w3 ⟨g, 4, none⟩ (.int .i64 ((c.steps : Int) + 1)))
  clear hfin hqI
  go_wp2
  go_end0
  exact ⟨rfl, hg4, h4⟩

set_option maxRecDepth 100000 in
set_option maxHeartbeats 3000000 in
theorem leave_any (ar ap : Option Addr) (cr cp : Nat) (rs ps : List (Int × Int)) (p0 way step : Int) (g : Nat) (v : Value) (c : Car) (w : World) (hc : CarAt w g ar ap cr cp rs ps p0 way step v c) (T : Tr) (hT : T.rcs = rs ∧ T.step = step) (hv : VT T) (hp : c.pos < T.rcs.length) (ht : 0 ≤ c.time ∧ c.time ≤ 9000000000000) :
    Calls Try.prog 88 #[.pointer (some ⟨g, 0, none⟩)] w (CarP g ar ap cr cp rs ps p0 way step v (leaveC T c) w) := by
  obtain ⟨d, hd⟩ : ∃ d : Int, d = if c.up then 1 else -1 := ⟨_, rfl⟩
  have hd1 : d = 1 ∨ d = -1 := by rw [hd]; split <;> simp
  have hn6 := hv.n6
  have hst := hv.st
  rw [hT.2] at hst
  have hN : inR 0 ((c.pos : Int) + d) ((rs.length : Int) - 1) = hasNext T.rcs.length c.up c.pos := by
    rw [Bool.eq_iff_iff, inR_iff, hd, ← hT.1]
    unfold hasNext
    cases c.up
    · simp; omega
    · simp; omega
  have hlen : (rs.length : Int) ≤ 6 := by rw [← hT.1]; omega
  have hpI : (c.pos : Int) ≤ 6 := by omega
  have u0 := Ext.cell (Bx.cell hc 0 (v := .int .i64 (c.pos : Nat)) rfl)
  have u1 := Ext.cell (Bx.cell hc 1 (v := .int .i64 d) (by rw [hd]; rfl))
  have u6 := Ext.cell (Bx.cell hc 6 (v := .slice ar rs.length cr) rfl)
  have ew1 : IntKind.i64.wrap ((c.pos : Int) + d) = (c.pos : Int) + d := IntWalk.i64_in _ (by omega)
  have ew2 : IntKind.i64.wrap ((rs.length : Int) - 1) = (rs.length : Int) - 1 := IntWalk.i64_in _ (by omega)
  have ew3 : IntKind.i64.wrap (c.time + step) = c.time + step := IntWalk.i64_in _ (by omega)
  have HD := hid hd
  by_cases hh : hasNext T.rcs.length c.up c.pos = true
  · rw [hh] at hN
    have hfin : leaveC T c = { c with going := true, time := c.time + step } := by unfold leaveC; rw [if_pos hh, hT.2]
    rw [hfin]
    clear hfin hh hd
    go_enter Try.func88, Try.ntmps88
    go_upto_region 0 with fail
    refine wp_region_ext_lit (by kernel_rfl) (by kernel_rfl) ?_
    repeat (quiet_step (first | (go_at_call 72; exact quiet_ext ((isFrom_any _ _ _ _).mono (fun e w' h => ⟨h.1, Below.of_eq h.2⟩)))))
    refine wpQuiet_nil ?_
    intro _ hw'
    obtain ⟨t, rfl⟩ := hw'
    have hb := t.below
    have h2 := Bx.below hc hb
    have hg2 : w.grownBy t.w (some g) := gbel hb
    clear u0 u1 u6
    generalize t.w = w2 at *
    (try rw [hN])
    have fr := Bx.free h2 25
    have k25 := Bx.cell h2 25 (v := .bool c.going) rfl
    have h3 : CarAt (w2.setCell ⟨g, 25, none⟩ (.bool true)) g ar ap cr cp rs ps p0 way step v { c with going := true } := Bx.set h2 25 _
    have hg3 := gtr hg2 (gset w2 ⟨g, 25, none⟩ (.bool true))
    go_upto_region 3 with fail
    generalize w2.setCell ⟨g, 25, none⟩ (.bool true) = w3 at *
    have v9 := Ext.cell (Bx.cell h3 9 (v := .int .i64 step) rfl)
    have v24 := Ext.cell (Bx.cell h3 24 (v := .int .i64 c.time) rfl)
    refine wp_region_ext_tail 12 (by kernel_rfl) (by kernel_rfl) ?_
    simp only [List.take_succ_cons, List.take_zero, List.drop_succ_cons, List.drop_zero]
    repeat (quiet_step (first | fail))
    refine wpQuiet_nil ?_
    intro _ hw'
    obtain ⟨t2, rfl⟩ := hw'
    have hb3 := t2.below
    have h4 := Bx.below h3 hb3
    have hg4 := gtr hg3 (gbel hb3)
    clear v9 v24
    generalize t2.w = w4 at *
    have fr2 := Bx.free h4 24
    have k24 := Bx.cell h4 24 (v := .int .i64 c.time) rfl
    have h5 : CarAt (w4.setCell ⟨g, 24, none⟩ (.int .i64 (c.time + step))) g ar ap cr cp rs ps p0 way step v { c with going := true, time := c.time + step } := Bx.set h4 24 _
    have hg5 := gtr hg4 (gset w4 ⟨g, 24, none⟩ (.int .i64 (c.time + step)))
    go_wp2
    go_end0
    exact ⟨rfl, hg5, h5⟩
  · have hhf : hasNext T.rcs.length c.up c.pos = false := by simpa using hh
    rw [hhf] at hN
    have hfin : leaveC T c = { c with up := !c.up } := by unfold leaveC; rw [if_neg hh]
    rw [hfin]
    clear hfin hh hhf hd
    go_enter Try.func88, Try.ntmps88
    go_upto_region 0 with fail
    refine wp_region_ext_lit (by kernel_rfl) (by kernel_rfl) ?_
    repeat (quiet_step (first | (go_at_call 72; exact quiet_ext ((isFrom_any _ _ _ _).mono (fun e w' h => ⟨h.1, Below.of_eq h.2⟩)))))
    refine wpQuiet_nil ?_
    intro _ hw'
    obtain ⟨t, rfl⟩ := hw'
    have hb := t.below
    have h2 := Bx.below hc hb
    have hg2 : w.grownBy t.w (some g) := gbel hb
    clear u0 u1 u6
    generalize t.w = w2 at *
    (try rw [hN])
    have fr := Bx.free h2 1
    have k1 := Bx.cell h2 1 (v := .int .i64 d) (by rw [HD.out]; rfl)
    have hneg : -d = if (!c.up) = true then 1 else -1 := by rw [HD.out]; cases c.up <;> rfl
    have h3 : CarAt (w2.setCell ⟨g, 1, none⟩ (.int .i64 (-d))) g ar ap cr cp rs ps p0 way step v { c with up := !c.up } := by rw [hneg]; exact Bx.set h2 1 _
    have hg3 := gtr hg2 (gset w2 ⟨g, 1, none⟩ (.int .i64 (-d)))
    clear hneg
    go_wp2
    go_end0
    exact ⟨rfl, hg3, h3⟩
end Go.Proofs.Ytknaljghpfeikaa
