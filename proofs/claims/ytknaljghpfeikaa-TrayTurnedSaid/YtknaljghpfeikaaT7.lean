import Derived.Test.YtknaljghpfeikaaT6
namespace Go.Proofs.Ytknaljghpfeikaa
open Go.RowKit

set_option maxRecDepth 100000 in
set_option maxHeartbeats 4000000 in
theorem act_any (ar ap : Option Addr) (cr cp : Nat) (rs ps : List (Int × Int)) (p0 way step : Int) (g : Nat) (T : Tr) (B : Nat) (w0 w : World) (c : Car) (a : Option Addr) (cv : Nat) (h : At g ar ap cr cp rs ps p0 way step T B w0 w c a cv) :
    Calls Try.prog 75 #[.pointer (some ⟨g, 0, none⟩)] w (PlayP g ar ap cr cp rs ps p0 way step (actC T c) B w) := by
  have hn6 := h.hv.n6
  have hpos := h.inv.pos
  have htm := h.tm
  have hst := h.st
  have hpl := h.pl
  have v25 := Bx.cell h.car 25 (v := .bool c.going) rfl
  have v2 := Bx.cell h.car 2 (v := .int .i64 c.side) rfl
  by_cases hgo : c.going = true
  · have hact : actC T c = arriveC c := by unfold actC; rw [if_pos hgo]
    rw [hact]
    have harr := arrive_any ar ap cr cp rs ps p0 way step g _ c w h.car (by omega) (by omega) (fun hu => by
      have := (h.inv.go hgo).1
      unfold hasNext at this
      rw [hu] at this
      simpa using this)
    rw [hgo] at v25
    clear hact hgo v2
    go_enter Try.func75, Try.ntmps75
    go_wp2_with fail
    refine (reached_any ar ap cr cp rs ps p0 way step g _ c w h.car (by omega)).mono ?_
    rintro e w' ⟨rfl, rfl⟩
    go_wp2_with fail
    refine harr.mono ?_
    rintro e W ⟨rfl, hg, hc⟩
    clear harr v25
    go_wp2
    go_end0
    exact PlayP.of (c' := arriveC c) h rfl ⟨rfl, hg, hc⟩
  have hgf : c.going = false := by simpa using hgo
  rw [hgf] at v25
  by_cases hs : c.side ≠ -1
  · have hact : actC T c = leaveC T { c with side := -1 } := by unfold actC; rw [if_neg hgo, if_pos hs]
    have hpp : (leaveC T { c with side := -1 }).plays = c.plays := by unfold leaveC; split <;> rfl
    rw [hact]
    have h1 : CarAt (w.setCell ⟨g, 2, none⟩ (.int .i64 (-1))) g ar ap cr cp rs ps p0 way step (.slice a c.plays.length cv) { c with side := -1 } := Bx.set h.car 2 _
    have hg1 := gset w ⟨g, 2, none⟩ (.int .i64 (-1))
    have fr := Bx.free h.car 2
    have hlv := fun W hc => leave_any ar ap cr cp rs ps p0 way step g (.slice a c.plays.length cv) { c with side := -1 } W hc T ⟨h.T1, h.T3⟩ h.hv hpos (by show 0 ≤ c.time ∧ c.time ≤ _; omega)
    have hsB : (c.side != -1) = true := by simpa using hs
    clear hact hs hgo hgf
    go_enter Try.func75, Try.ntmps75
    go_wp2_with fail
    refine (reached_any ar ap cr cp rs ps p0 way step g _ c w h.car (by omega)).mono ?_
    rintro e w' ⟨rfl, rfl⟩
    go_upto_region 6 with fail
    generalize w.setCell ⟨g, 2, none⟩ (.int .i64 (-1)) = w1 at *
    go_wp2_with fail
    refine (hlv _ h1).mono ?_
    rintro e W ⟨rfl, hg, hc⟩
    clear hlv v25 v2 fr
    go_wp2
    go_end0
    exact PlayP.of (c' := leaveC T { c with side := -1 }) h hpp ⟨rfl, gtr hg1 hg, hc⟩
  have hs1 : c.side = -1 := by omega
  rw [hs1] at v2
  have q0 := Bx.cell h.car 11 (v := .bool (c.pins 0)) rfl; have q1 := Bx.cell h.car 12 (v := .bool (c.pins 1)) rfl; have q2 := Bx.cell h.car 13 (v := .bool (c.pins 2)) rfl; have q3 := Bx.cell h.car 14 (v := .bool (c.pins 3)) rfl; have q4 := Bx.cell h.car 15 (v := .bool (c.pins 4)) rfl; have q5 := Bx.cell h.car 16 (v := .bool (c.pins 5)) rfl; have q6 := Bx.cell h.car 17 (v := .bool (c.pins 6)) rfl; have q7 := Bx.cell h.car 18 (v := .bool (c.pins 7)) rfl; have q8 := Bx.cell h.car 19 (v := .bool (c.pins 8)) rfl; have q9 := Bx.cell h.car 20 (v := .bool (c.pins 9)) rfl; have q10 := Bx.cell h.car 21 (v := .bool (c.pins 10)) rfl; have q11 := Bx.cell h.car 22 (v := .bool (c.pins 11)) rfl
  have hE := fun w => pins_eq c.pins w
  by_cases hno : noneSet c.pins = true
  · have hact : actC T c = { c with time := nextP T.prs c.time } := by unfold actC; rw [if_neg hgo, if_neg hs, if_pos hno]
    rw [hact]
    rw [hno] at hE
    have hnp := fun W hc hP => nextPress_any ar ap cr cp rs ps p0 way step g (.slice a c.plays.length cv) c W hc hP
    obtain ⟨z, hz⟩ : ∃ z, z = nextP T.prs c.time := ⟨_, rfl⟩
    rw [← hz]
    rw [h.T2] at hz
    rw [← hz] at hnp
    have hPw := h.hP.below h.b0 h.s0
    clear hact hs hgo hgf hz hno
    go_enter Try.func75, Try.ntmps75
    go_wp2_with fail
    refine (reached_any ar ap cr cp rs ps p0 way step g _ c w h.car (by omega)).mono ?_
    rintro e w' ⟨rfl, rfl⟩
    go_wp2_with fail
    refine (hnp _ h.car hPw).mono ?_
    rintro e W ⟨rfl, hb⟩
    have h1 := Bx.below h.car hb
    have hg1 : w.grownBy W (some g) := gbel hb
    have fr := Bx.free h1 24
    have v24 := Bx.cell h1 24 (v := .int .i64 c.time) rfl
    have h2 : CarAt (W.setCell ⟨g, 24, none⟩ (.int .i64 z)) g ar ap cr cp rs ps p0 way step (.slice a c.plays.length cv) { c with time := z } := Bx.set h1 24 _
    have hg2 := gtr hg1 (gset W ⟨g, 24, none⟩ (.int .i64 z))
    clear hnp hE q0 q1 q2 q3 q4 q5 q6 q7 q8 q9 q10 q11 v25 v2
    go_wp2
    go_end0
    exact PlayP.of (c' := { c with time := z }) h rfl ⟨rfl, hg2, h2⟩
  have hnf : noneSet c.pins = false := by simpa using hno
  rw [hnf] at hE
  have hsd := side_lt (up := c.up) hpos
  have hsd12 : sideAt c.up c.pos < 12 := by omega
  have hpn := Bx.cell h.car (11 + sideAt c.up c.pos) (car_pin c hsd12)
  by_cases hset : c.pins (sideAt c.up c.pos) = true
  · have hact : actC T c = playC T c (sideAt c.up c.pos) := by unfold actC; rw [if_neg hgo, if_neg hs, if_neg hno, if_pos hset]
    rw [hact]
    rw [hset] at hpn
    have hpy := play_any ar ap cr cp rs ps p0 way step g a cv c (sideAt c.up c.pos) B w h.car hsd12 h.own h.ne h.hB (by omega) w0 h.hR h.b0 h.s0 T h.T1 h.hv (by rw [← h.T1]; omega) (by omega)
    have hrc := reached_any ar ap cr cp rs ps p0 way step g _ c w h.car (by omega)
    obtain ⟨k, hk⟩ : ∃ k, k = sideAt c.up c.pos := ⟨_, rfl⟩
    rw [← hk] at hpn hpy hrc hsd12 ⊢
    have hkI : (k : Int) < 12 := by omega
    have hk0 : (0 : Int) ≤ (k : Int) := by omega
    clear hact hs hgo hgf hno hnf hset hk hsd
    go_enter Try.func75, Try.ntmps75
    go_wp2_with fail
    refine hrc.mono ?_
    rintro e w' ⟨rfl, rfl⟩
    go_wp2_with fail
    refine hpy.mono ?_
    rintro e W ⟨rfl, hb, hrest⟩
    clear hE q0 q1 q2 q3 q4 q5 q6 q7 q8 q9 q10 q11 v25 v2 hpn hpy hrc
    go_wp2
    go_end0
    exact ⟨rfl, hb, hrest⟩
  · have hact : actC T c = leaveC T c := by unfold actC; rw [if_neg hgo, if_neg hs, if_neg hno, if_neg hset]
    have hsf : c.pins (sideAt c.up c.pos) = false := by simpa using hset
    have hpp : (leaveC T c).plays = c.plays := by unfold leaveC; split <;> rfl
    rw [hact]
    rw [hsf] at hpn
    have hlv := leave_any ar ap cr cp rs ps p0 way step g (.slice a c.plays.length cv) c w h.car T ⟨h.T1, h.T3⟩ h.hv hpos (by omega)
    have hrc := reached_any ar ap cr cp rs ps p0 way step g _ c w h.car (by omega)
    obtain ⟨k, hk⟩ : ∃ k, k = sideAt c.up c.pos := ⟨_, rfl⟩
    rw [← hk] at hpn hrc hsd12
    have hkI : (k : Int) < 12 := by omega
    have hk0 : (0 : Int) ≤ (k : Int) := by omega
    clear hact hs hgo hgf hno hnf hset hsf hk hsd
    go_enter Try.func75, Try.ntmps75
    go_wp2_with fail
    refine hrc.mono ?_
    rintro e w' ⟨rfl, rfl⟩
    go_wp2_with fail
    refine hlv.mono ?_
    rintro e W ⟨rfl, hg, hc⟩
    clear hE q0 q1 q2 q3 q4 q5 q6 q7 q8 q9 q10 q11 v25 v2 hpn hlv hrc
    go_wp2
    go_end0
    exact PlayP.of (c' := leaveC T c) h hpp ⟨rfl, hg, hc⟩
end Go.Proofs.Ytknaljghpfeikaa
