import Derived.Test.YtknaljghpfeikaaT5
import Derived.Deep.LoopGhost
namespace Go.Proofs.Ytknaljghpfeikaa
open Go.RowKit

theorem under77 : Try.prog.underlying 77 = some (.array 12 4) := by kernel_rfl
theorem info4 : (Try.prog.info? 4).map (fun i => (i.zero, i.size, i.bytes)) = some (some (.bool false), 1, 1) := by kernel_rfl
theorem run_part4 (xs : Array Value) (j : Nat) (x : Bool) (h : xs[j]? = some (.bool x)) (w : World) : (part 4 xs j).run Try.prog w = .ok (.bool x) w := by
  obtain ⟨j0, hj, jz0, jz1, jz2⟩ := info_parts info4
  unfold part
  simp [go_sem, sizeOf, typeInfo, hj, jz1, h]
theorem eq_bools (d : Nat) (xs ys : Array Value) (s : Nat → Bool) (w : World) : ∀ is : List Nat, (∀ i ∈ is, xs[i]? = some (.bool (s i)) ∧ ys[i]? = some (.bool false)) →
    (Op.eqItems (d + 1) 4 1 xs ys is).run Try.prog w = .ok (is.all fun i => !s i) w
  | [], _ => by simp [Op.eqItems]
  | i :: is, h => by
    obtain ⟨h1, h2⟩ := h i (by simp)
    have ih := eq_bools d xs ys s w is (fun k hk => h k (by simp [hk]))
    simp only [Op.eqItems, Sem.run_bind, Nat.mul_one, run_part4 xs i _ h1, run_part4 ys i _ h2, Result.andThen_ok, run_equalIn_bool' w d 4 (s i) false Try.underlying4]
    cases hs : s i
    · simp [hs, ih]
    · simp [hs]
theorem pins_eq (s : Nat → Bool) (w : World) : (binOp .eql 77 (.agg #[.bool (s 0), .bool (s 1), .bool (s 2), .bool (s 3), .bool (s 4), .bool (s 5), .bool (s 6), .bool (s 7), .bool (s 8), .bool (s 9), .bool (s 10), .bool (s 11)])
    (.agg #[.bool false, .bool false, .bool false, .bool false, .bool false, .bool false, .bool false, .bool false, .bool false, .bool false, .bool false, .bool false])).run Try.prog w = .ok (.bool (noneSet s)) w := by
  obtain ⟨j0, hj, jz0, jz1, jz2⟩ := info_parts info4
  rw [run_eql_struct, show (10000 : Nat) = 9998 + 1 + 1 from rfl, run_equalIn_array w (9998 + 1) _ _ under77 hj, show Try.prog.cellsOf 4 = 1 by kernel_rfl, eq_bools 9998 _ _ s w (List.range 12) ?_]
  · rfl
  · intro i hi
    have h12 : i < 12 := by simpa using hi
    rcases twelve h12 with rfl | rfl | rfl | rfl | rfl | rfl | rfl | rfl | rfl | rfl | rfl | rfl <;> exact ⟨rfl, rfl⟩

/-- What a call of a method finds. -/
structure At (g : Nat) (ar ap : Option Addr) (cr cp : Nat) (rs ps : List (Int × Int)) (p0 way step : Int) (T : Tr) (B : Nat) (w0 w : World) (c : Car) (a : Option Addr) (cv : Nat) : Prop where
  car : CarAt w g ar ap cr cp rs ps p0 way step (.slice a c.plays.length cv) c
  own : w.ownsRow B 39 2 (.slice a c.plays.length cv) c.plays.length (pcells c.plays)
  ne : (Value.slice a c.plays.length cv).ownBlock ≠ some g
  hB : B ≤ g
  hR : Prs w0 ar rs
  hP : Prs w0 ap ps
  b0 : Below B w0 w
  s0 : w0.heap.size ≤ B
  T1 : T.rcs = rs
  T2 : T.prs = ps
  T3 : T.step = step
  hv : VT T
  inv : Inv T c
  tm : 0 ≤ c.time ∧ c.time ≤ 8000000000000
  st : c.steps ≤ 99999
  pl : c.plays.length ≤ 99999

/-- A method that changes the carriage alone. -/
theorem PlayP.of {g : Nat} {ar ap : Option Addr} {cr cp : Nat} {rs ps : List (Int × Int)} {p0 way step : Int} {T : Tr} {B : Nat} {w0 w : World} {c c' : Car} {a : Option Addr} {cv : Nat} (h : At g ar ap cr cp rs ps p0 way step T B w0 w c a cv) (hpl : c'.plays = c.plays) {e : Ending} {w' : World}
    (hp : CarP g ar ap cr cp rs ps p0 way step (.slice a c.plays.length cv) c' w e w') : PlayP g ar ap cr cp rs ps p0 way step c' B w e w' := by
  obtain ⟨h1, h2, h3⟩ := hp
  have hl := Bx.lt h.car
  have hB := h.hB
  refine ⟨h1, (Below.refl B w).grown h2 (by omega) (fun k hk => by cases hk; exact hB), a, cv, ?_, ?_, ?_⟩
  · rw [hpl]; exact h3
  · rw [hpl]; exact h.own.kept h2 (.inr h.ne)
  · rw [hpl]; exact h.ne
end Go.Proofs.Ytknaljghpfeikaa
namespace Go.Proofs.Ytknaljghpfeikaa
open Go.RowKit

set_option maxRecDepth 100000 in
set_option maxHeartbeats 4000000 in
theorem act_any (ar ap : Option Addr) (cr cp : Nat) (rs ps : List (Int × Int)) (p0 way step : Int) (g : Nat) (T : Tr) (B : Nat) (w0 w : World) (c : Car) (a : Option Addr) (cv : Nat) (h : At g ar ap cr cp rs ps p0 way step T B w0 w c a cv) :
    Calls Try.prog 75 #[.pointer (some ⟨g, 0, none⟩)] w (PlayP g ar ap cr cp rs ps p0 way step (actC T c) B w) := by
  have hn6 := h.hv.n6
  have hpos := h.inv.pos
  have htm := h.tm
  have hst := h.st
  have hpl := h.pl
  have v25 := Bx.cell h.car 25 (v := .bool c.going) rfl
  have v2 := Bx.cell h.car 2 (v := .int .i64 c.side) rfl
  by_cases hgo : c.going = true
  · have hact : actC T c = arriveC c := by unfold actC; rw [if_pos hgo]
    rw [hact]
    have harr := arrive_any ar ap cr cp rs ps p0 way step g _ c w h.car (by omega) (by omega) (fun hu => by
      have := (h.inv.go hgo).1
      unfold hasNext at this
      rw [hu] at this
      simpa using this)
    rw [hgo] at v25
    clear hact hgo v2
    go_enter Try.func75, Try.ntmps75
    go_wp2_with fail
    refine (reached_any ar ap cr cp rs ps p0 way step g _ c w h.car (by omega)).mono ?_
    rintro e w' ⟨rfl, rfl⟩
    go_wp2_with fail
    refine harr.mono ?_
    rintro e W ⟨rfl, hg, hc⟩
    clear harr v25
    go_wp2
    go_end0
    exact PlayP.of (c' := arriveC c) h rfl ⟨rfl, hg, hc⟩
  have hgf : c.going = false := by simpa using hgo
  rw [hgf] at v25
  by_cases hs : c.side ≠ -1
  · have hact : actC T c = leaveC T { c with side := -1 } := by unfold actC; rw [if_neg hgo, if_pos hs]
    have hpp : (leaveC T { c with side := -1 }).plays = c.plays := by unfold leaveC; split <;> rfl
    rw [hact]
    have h1 : CarAt (w.setCell ⟨g, 2, none⟩ (.int .i64 (-1))) g ar ap cr cp rs ps p0 way step (.slice a c.plays.length cv) { c with side := -1 } := Bx.set h.car 2 _
    have hg1 := gset w ⟨g, 2, none⟩ (.int .i64 (-1))
    have fr := Bx.free h.car 2
    have hlv := fun W hc => leave_any ar ap cr cp rs ps p0 way step g (.slice a c.plays.length cv) { c with side := -1 } W hc T ⟨h.T1, h.T3⟩ h.hv hpos (by show 0 ≤ c.time ∧ c.time ≤ _; omega)
    have hsB : (c.side != -1) = true := by simpa using hs
    clear hact hs hgo hgf
    go_enter Try.func75, Try.ntmps75
    go_wp2_with fail
    refine (reached_any ar ap cr cp rs ps p0 way step g _ c w h.car (by omega)).mono ?_
    rintro e w' ⟨rfl, rfl⟩
    go_upto_region 6 with fail
    generalize w.setCell ⟨g, 2, none⟩ (.int .i64 (-1)) = w1 at *
    go_wp2_with fail
    refine (hlv _ h1).mono ?_
    rintro e W ⟨rfl, hg, hc⟩
    clear hlv v25 v2 fr
    go_wp2
    go_end0
    exact PlayP.of (c' := leaveC T { c with side := -1 }) h hpp ⟨rfl, gtr hg1 hg, hc⟩
  have hs1 : c.side = -1 := by omega
  rw [hs1] at v2
  have q0 := Bx.cell h.car 11 (v := .bool (c.pins 0)) rfl; have q1 := Bx.cell h.car 12 (v := .bool (c.pins 1)) rfl; have q2 := Bx.cell h.car 13 (v := .bool (c.pins 2)) rfl; have q3 := Bx.cell h.car 14 (v := .bool (c.pins 3)) rfl; have q4 := Bx.cell h.car 15 (v := .bool (c.pins 4)) rfl; have q5 := Bx.cell h.car 16 (v := .bool (c.pins 5)) rfl; have q6 := Bx.cell h.car 17 (v := .bool (c.pins 6)) rfl; have q7 := Bx.cell h.car 18 (v := .bool (c.pins 7)) rfl; have q8 := Bx.cell h.car 19 (v := .bool (c.pins 8)) rfl; have q9 := Bx.cell h.car 20 (v := .bool (c.pins 9)) rfl; have q10 := Bx.cell h.car 21 (v := .bool (c.pins 10)) rfl; have q11 := Bx.cell h.car 22 (v := .bool (c.pins 11)) rfl
  have hE := fun w => pins_eq c.pins w
  by_cases hno : noneSet c.pins = true
  · have hact : actC T c = { c with time := nextP T.prs c.time } := by unfold actC; rw [if_neg hgo, if_neg hs, if_pos hno]
    rw [hact]
    rw [hno] at hE
    have hnp := fun W hc hP => nextPress_any ar ap cr cp rs ps p0 way step g (.slice a c.plays.length cv) c W hc hP
    obtain ⟨z, hz⟩ : ∃ z, z = nextP T.prs c.time := ⟨_, rfl⟩
    rw [← hz]
    rw [h.T2] at hz
    rw [← hz] at hnp
    have hPw := h.hP.below h.b0 h.s0
    clear hact hs hgo hgf hz hno
    go_enter Try.func75, Try.ntmps75
    go_wp2_with fail
    refine (reached_any ar ap cr cp rs ps p0 way step g _ c w h.car (by omega)).mono ?_
    rintro e w' ⟨rfl, rfl⟩
    go_wp2_with fail
    refine (hnp _ h.car hPw).mono ?_
    rintro e W ⟨rfl, hb⟩
    have h1 := Bx.below h.car hb
    have hg1 : w.grownBy W (some g) := gbel hb
    have fr := Bx.free h1 24
    have v24 := Bx.cell h1 24 (v := .int .i64 c.time) rfl
    have h2 : CarAt (W.setCell ⟨g, 24, none⟩ (.int .i64 z)) g ar ap cr cp rs ps p0 way step (.slice a c.plays.length cv) { c with time := z } := Bx.set h1 24 _
    have hg2 := gtr hg1 (gset W ⟨g, 24, none⟩ (.int .i64 z))
    clear hnp hE q0 q1 q2 q3 q4 q5 q6 q7 q8 q9 q10 q11 v25 v2
    go_wp2
    go_end0
    exact PlayP.of (c' := { c with time := z }) h rfl ⟨rfl, hg2, h2⟩
  have hnf : noneSet c.pins = false := by simpa using hno
  rw [hnf] at hE
  have hsd := side_lt (up := c.up) hpos
  have hsd12 : sideAt c.up c.pos < 12 := by omega
  have hpn := Bx.cell h.car (11 + sideAt c.up c.pos) (car_pin c hsd12)
  by_cases hset : c.pins (sideAt c.up c.pos) = true
  · have hact : actC T c = playC T c (sideAt c.up c.pos) := by unfold actC; rw [if_neg hgo, if_neg hs, if_neg hno, if_pos hset]
    rw [hact]
    rw [hset] at hpn
    have hpy := play_any ar ap cr cp rs ps p0 way step g a cv c (sideAt c.up c.pos) B w h.car hsd12 h.own h.ne h.hB (by omega) w0 h.hR h.b0 h.s0 T h.T1 h.hv (by rw [← h.T1]; omega) (by omega)
    have hrc := reached_any ar ap cr cp rs ps p0 way step g _ c w h.car (by omega)
    obtain ⟨k, hk⟩ : ∃ k, k = sideAt c.up c.pos := ⟨_, rfl⟩
    rw [← hk] at hpn hpy hrc hsd12 ⊢
    have hkI : (k : Int) < 12 := by omega
    have hk0 : (0 : Int) ≤ (k : Int) := by omega
    clear hact hs hgo hgf hno hnf hset hk hsd
    go_enter Try.func75, Try.ntmps75
    go_wp2_with fail
    refine hrc.mono ?_
    rintro e w' ⟨rfl, rfl⟩
    go_wp2_with fail
    refine hpy.mono ?_
    rintro e W ⟨rfl, hb, hrest⟩
    clear hE q0 q1 q2 q3 q4 q5 q6 q7 q8 q9 q10 q11 v25 v2 hpn hpy hrc
    go_wp2
    go_end0
    exact ⟨rfl, hb, hrest⟩
  · have hact : actC T c = leaveC T c := by unfold actC; rw [if_neg hgo, if_neg hs, if_neg hno, if_neg hset]
    have hsf : c.pins (sideAt c.up c.pos) = false := by simpa using hset
    have hpp : (leaveC T c).plays = c.plays := by unfold leaveC; split <;> rfl
    rw [hact]
    rw [hsf] at hpn
    have hlv := leave_any ar ap cr cp rs ps p0 way step g (.slice a c.plays.length cv) c w h.car T ⟨h.T1, h.T3⟩ h.hv hpos (by omega)
    have hrc := reached_any ar ap cr cp rs ps p0 way step g _ c w h.car (by omega)
    obtain ⟨k, hk⟩ : ∃ k, k = sideAt c.up c.pos := ⟨_, rfl⟩
    rw [← hk] at hpn hrc hsd12
    have hkI : (k : Int) < 12 := by omega
    have hk0 : (0 : Int) ≤ (k : Int) := by omega
    clear hact hs hgo hgf hno hnf hset hsf hk hsd
    go_enter Try.func75, Try.ntmps75
    go_wp2_with fail
    refine hrc.mono ?_
    rintro e w' ⟨rfl, rfl⟩
    go_wp2_with fail
    refine hlv.mono ?_
    rintro e W ⟨rfl, hg, hc⟩
    clear hE q0 q1 q2 q3 q4 q5 q6 q7 q8 q9 q10 q11 v25 v2 hpn hlv hrc
    go_wp2
    go_end0
    exact PlayP.of (c' := leaveC T c) h hpp ⟨rfl, hg, hc⟩
end Go.Proofs.Ytknaljghpfeikaa
namespace Go.Proofs.Ytknaljghpfeikaa
open Go.RowKit

/-- The numbers of a tray that came in. -/
structure IsTr (T : Tr) (rs ps : List (Int × Int)) (p0 way step : Int) : Prop where
  T1 : T.rcs = rs
  T2 : T.prs = ps
  T3 : T.step = step
  T4 : (T.at0 : Int) = p0
  T5 : (if T.up0 then 1 else -1 : Int) = way
  hv : VT T

set_option maxRecDepth 100000 in
set_option maxHeartbeats 4000000 in
theorem newCarriage_any (ar ap : Option Addr) (cr cp : Nat) (rs ps : List (Int × Int)) (p0 way step : Int) (w : World) (T : Tr) (hT : IsTr T rs ps p0 way step) :
    Calls Try.prog 58 #[.agg #[.slice ar rs.length cr, .int .i64 p0, .int .i64 way, .int .i64 step, .slice ap ps.length cp]] w fun e w' => Below w.heap.size w w' ∧ ∃ g : Nat, e = .returned (.pointer (some ⟨g, 0, none⟩)) ∧ w.heap.size ≤ g ∧ CarAt w' g ar ap cr cp rs ps p0 way step (.slice none 0 0) (startC T) := by
  obtain ⟨W, hW, hb, hs, x0⟩ := boxes1 w #[.slice ar rs.length cr, .int .i64 p0, .int .i64 way, .int .i64 step, .slice ap ps.length cp] 25
  have c0 := x0.cell 0 rfl; have c1 := x0.cell 1 rfl; have c2 := x0.cell 2 rfl; have c3 := x0.cell 3 rfl; have c4 := x0.cell 4 rfl
  have b2 := below_one (w := W) (.cells #[.int .i64 p0, .int .i64 way, .int .i64 (-1), .slice none 0 0, .int .i64 0, .int .i64 0] 68)
  go_enter Try.func58, Try.ntmps58
  go_wp2
  go_ret
  have hcv : carV ar ap cr cp rs ps p0 way step (.slice none 0 0) (startC T) = #[.int .i64 p0, .int .i64 way, .int .i64 (-1), .slice none 0 0, .int .i64 0, .int .i64 0, .slice ar rs.length cr, .int .i64 p0, .int .i64 way, .int .i64 step, .slice ap ps.length cp,
      .bool false, .bool false, .bool false, .bool false, .bool false, .bool false, .bool false, .bool false, .bool false, .bool false, .bool false, .bool false, .int .i64 (-1), .int .i64 0, .bool false] := by
    have e1 := hT.T4; have e2 := hT.T5
    unfold carV startC
    simp only [e1, e2]
    rfl
  refine ⟨(hb.alloc (by omega) _).alloc (by simp; omega) _, w.heap.size + 1 + 1, rfl, by omega, ?_⟩
  unfold CarAt
  rw [hcv]
  exact Bx.new' (by simp [hs]) _ _

set_option maxRecDepth 100000 in
set_option maxHeartbeats 4000000 in
theorem run_any (ar ap : Option Addr) (cr cp : Nat) (rs ps : List (Int × Int)) (p0 way step : Int) (g : Nat) (T : Tr) (hT : IsTr T rs ps p0 way step) (B : Nat) (w0 w : World) (a : Option Addr) (cv : Nat) (hc : CarAt w g ar ap cr cp rs ps p0 way step (.slice a 0 cv) (startC T))
    (hown : w.ownsRow B 39 2 (.slice a 0 cv) 0 []) (hne : (Value.slice a 0 cv).ownBlock ≠ some g) (hB : B ≤ g) (hR : Prs w0 ar rs) (hP : Prs w0 ap ps) (hb0 : Below B w0 w) (hB0 : w0.heap.size ≤ B) (b : Int) (hbm : b ≤ maxI) :
    Calls Try.prog 59 #[.pointer (some ⟨g, 0, none⟩), .int .i64 b] w (PlayP g ar ap cr cp rs ps p0 way step (runM T b) B w) := by
  obtain ⟨K, hK⟩ := run_ex hT.hv hbm
  have hrm := runM_is hK
  have hkb := hK.kb
  rw [hrm]
  have HK := hid hK
  clear hK hrm
  go_enter Try.func59, Try.ntmps59
  go_wp2
  go_loopg [] K (fun gk wr => gk ≤ K ∧ ∃ (a : Option Addr) (cv : Nat), CarAt wr g ar ap cr cp rs ps p0 way step (.slice a (iterC T (K - gk) (startC T)).plays.length cv) (iterC T (K - gk) (startC T)) ∧
    wr.ownsRow B 39 2 (.slice a (iterC T (K - gk) (startC T)).plays.length cv) (iterC T (K - gk) (startC T)).plays.length (pcells (iterC T (K - gk) (startC T)).plays) ∧ (Value.slice a (iterC T (K - gk) (startC T)).plays.length cv).ownBlock ≠ some g ∧ Below B w wr)
  case atStart => exact ⟨Nat.le_refl _, a, cv, by rw [Nat.sub_self]; exact hc, by rw [Nat.sub_self]; exact hown, by rw [Nat.sub_self]; exact hne, Below.refl _ _⟩
  case round =>
    clear hown hne hc
    obtain ⟨hgk, a, cv, hc, hown, hne, hb⟩ := hrel
    obtain ⟨j, hj⟩ : ∃ j, j = K - gk := ⟨_, rfl⟩
    rw [← hj] at hc hown hne
    have hr := HK.out.rng j (by omega)
    obtain ⟨c, hce⟩ : ∃ c, c = iterC T j (startC T) := ⟨_, rfl⟩
    rw [← hce] at hc hown hne hr
    have v24 := Bx.cell hc 24 (v := .int .i64 c.time) rfl
    have hgl := Bx.lt hc
    by_cases hg0 : gk = 0
    · have hjK : j = K := by omega
      have hout : b ≤ c.time := by rw [hce, hjK]; exact HK.out.out
      have HE := hid (show iterC T K (startC T) = c by rw [hce, hjK])
      clear hce hj hjK
      go_wp2
      go_end0
      rw [HE.out]
      exact ⟨rfl, hb, a, cv, hc, hown, hne⟩
    · have hlo : c.time < b := by rw [hce]; exact HK.out.lo j (by omega)
      have hnx : iterC T (K - (gk - 1)) (startC T) = actC T (hearC T c) := by
        rw [show K - (gk - 1) = j + 1 by omega]
        show stepC T (iterC T j (startC T)) = _
        rw [← hce]; rfl
      have hn6 := hT.hv.n6
      have hbw := hb0.trans hb
      have htb : c.time ≤ 9999 + 999 * 2700 := by
        rcases hr.tb with h | h
        · omega
        · omega
      have hst := hr.sb; have hpl := hr.pl
      have hh := hear_any ar ap cr cp rs ps p0 way step g (.slice a c.plays.length cv) c B wr hc hB w0 hP hbw hB0 T hT.T2 (fun p hp => by
        have := hT.hv.pr p (by rw [hT.T2]; exact hp)
        omega)
      have HNX := hid hnx
      have hj2 : j ≤ 2700 := by omega
      have hgp : 0 < gk := by omega
      clear hnx hce hj hg0
      go_wp2_with fail
      refine hh.mono ?_
      rintro e W1 ⟨rfl, hg1, hc1⟩
      have hb1 : Below B w W1 := hb.grown hg1 (by omega) (fun k hk => by cases hk; exact hB)
      have hat : At g ar ap cr cp rs ps p0 way step T B w0 W1 (hearC T c) a cv :=
        ⟨hc1, hown.kept hg1 (.inr hne), hne, hB, hR, hP, hb0.trans hb1, hB0, hT.T1, hT.T2, hT.T3, hT.hv, hear_inv hT.hv hr.inv, ⟨hr.t0, by show c.time ≤ _; omega⟩, by show c.steps ≤ _; omega, by show c.plays.length ≤ _; omega⟩
      have hac := act_any ar ap cr cp rs ps p0 way step g T B w0 W1 (hearC T c) a cv hat
      clear hh v24 hc hown hat hc1
      go_wp2_with fail
      refine hac.mono ?_
      rintro e W2 ⟨rfl, hb2, a2, cv2, hc2, hown2, hne2⟩
      have hb3 := hb1.trans hb2
      clear hac
      go_wp2
      go_roundg (gk - 1)
      case measure => omega
      case rel => exact ⟨by omega, a2, cv2, by rw [HNX.out]; exact hc2, by rw [HNX.out]; exact hown2, by rw [HNX.out]; exact hne2, hb3⟩
end Go.Proofs.Ytknaljghpfeikaa
