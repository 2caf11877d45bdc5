import Derived.Test.YtmkmnedojgigoaaP3
import Derived.Test.YtmkmnedojgigoaaA2
namespace Go.Proofs.Ytmkmnedojgigoaa
open Go.RowKit

/-- The wheel at work, in memory. -/
structure Wk (w : World) (R : Nat) (an ac ap : Option Addr) (N C P : List Int) : Prop where
  hN : Ints w an N
  hC : Ints w ac C
  hP : Ints w ap P
  v : Vw R N C
  hp : P = npl R N

theorem Wk.below {w w' : World} {R : Nat} {an ac ap : Option Addr} {N C P : List Int} (h : Wk w R an ac ap N C P) {B : Nat} (hb : Below B w w') (hB : w.heap.size ≤ B) : Wk w' R an ac ap N C P :=
  ⟨h.hN.below hb hB, h.hC.below hb hB, h.hP.below hb hB, h.v, h.hp⟩
theorem Wk.alloc {w : World} {R : Nat} {an ac ap : Option Addr} {N C P : List Int} (h : Wk w R an ac ap N C P) (o : Obj) : Wk (w.alloc o) R an ac ap N C P :=
  h.below ((Below.refl w.heap.size w).alloc (Nat.le_refl _) o) (Nat.le_refl _)
theorem Wk.qd {w w' : World} {R : Nat} {an ac ap : Option Addr} {N C P : List Int} (h : Wk w R an ac ap N C P) (q : Qd w w') : Wk w' R an ac ap N C P :=
  h.below (q.below w.heap.size) (Nat.le_refl _)
theorem Wk.plen {w : World} {R : Nat} {an ac ap : Option Addr} {N C P : List Int} (h : Wk w R an ac ap N C P) : P.length = R := by rw [h.hp, npl_len]

theorem below_two {w : World} (o : Obj) (n : Nat) : Below w.heap.size w ((w.alloc o).drewN n) := below_drewN ((Below.refl _ _).alloc (Nat.le_refl _) o) n
theorem below_one {w : World} (o : Obj) : Below w.heap.size w (w.alloc o) := (Below.refl _ _).alloc (Nat.le_refl _) o

set_option maxHeartbeats 400000 in
theorem worth_any (R : Nat) (an ac ap : Option Addr) (cn cc cp : Nat) (N C P : List Int) (k : Nat) (w : World) (hk : Wk w R an ac ap N C P) (hlt : k < C.length) :
    Calls Try.prog 71 #[.agg #[.int .i64 (R : Int), .slice an N.length cn, .slice ac C.length cc, .slice ap P.length cp], .int .i64 k] w fun e w' => e = .returned (.int .i64 (cw C k)) ∧ Below w.heap.size w w' := by
  obtain ⟨hx0, h1, h2⟩ := hk.v.coin hlt
  replace hk := hk.alloc (.cells #[.int .i64 (R : Int), .slice an N.length cn, .slice ac C.length cc, .slice ap P.length cp] 73)
  obtain ⟨b, off, x, rfl, hbs, hc, _, _, hx, _⟩ := hk.hC.at hlt
  have e : x = (cw C k : Int) := by have := hx.out; rw [hx0] at this; simpa using this.symm
  subst e
  have hn := hk.hC.len
  have hkI : (k : Int) < (C.length : Int) := by omega
  clear hk hx hx0
  go_enter Try.func71, Try.ntmps71
  go_wp2
  go_ret
  exact ⟨rfl, (Below.refl _ _).alloc (Nat.le_refl _) _⟩

set_option maxHeartbeats 400000 in
theorem turned_any (R : Nat) (an ac ap : Option Addr) (cn cc cp : Nat) (N C P : List Int) (place cents : Nat) (w : World) (hv : Vw R N C) (h1 : place ≤ 1000000) (h2 : cents ≤ 1000000) :
    Calls Try.prog 95 #[.agg #[.int .i64 (R : Int), .slice an N.length cn, .slice ac C.length cc, .slice ap P.length cp], .int .i64 place, .int .i64 cents] w fun e w' => e = .returned (.int .i64 ((place + cents) % R : Nat)) ∧ Below w.heap.size w w' := by
  have r1 := hv.r1
  have r2 := hv.r2
  go_enter Try.func95, Try.ntmps95
  go_wp2
  go_ret
  exact ⟨ret_int (by simp), (Below.refl _ _).alloc (Nat.le_refl _) _⟩

set_option maxHeartbeats 400000 in
theorem isPlace_any (R : Nat) (an ac ap : Option Addr) (cn cc cp : Nat) (N C P : List Int) (place : Int) (w : World) (hv : Vw R N C) :
    Calls Try.prog 67 #[.agg #[.int .i64 (R : Int), .slice an N.length cn, .slice ac C.length cc, .slice ap P.length cp], .int .i64 place] w fun e w' => e = .returned (.bool (inR 0 place (R - 1))) ∧ Below w.heap.size w w' := by
  have r1 := hv.r1
  have r2 := hv.r2
  go_enter Try.func67, Try.ntmps67
  go_wp2_with (first | (go_at_call 82; refine (isFrom_any _ _ _ _).mono ?_; rintro e w' ⟨rfl, rfl⟩))
  go_ret
  exact ⟨rfl, (Below.refl _ _).alloc (Nat.le_refl _) _⟩

set_option maxHeartbeats 400000 in
theorem isKind_any (R : Nat) (an ac ap : Option Addr) (cn cc cp : Nat) (N C P : List Int) (k : Int) (w : World) (hv : Vw R N C) :
    Calls Try.prog 68 #[.agg #[.int .i64 (R : Int), .slice an N.length cn, .slice ac C.length cc, .slice ap P.length cp], .int .i64 k] w fun e w' => e = .returned (.bool (inR 0 k (C.length - 1))) ∧ Below w.heap.size w w' := by
  have c4 := hv.c4
  go_enter Try.func68, Try.ntmps68
  go_wp2_with (first | (go_at_call 82; refine (isFrom_any _ _ _ _).mono ?_; rintro e w' ⟨rfl, rfl⟩))
  go_ret
  exact ⟨rfl, (Below.refl _ _).alloc (Nat.le_refl _) _⟩

set_option maxHeartbeats 400000 in
theorem fromStart_any (R : Nat) (an ac ap : Option Addr) (cn cc cp : Nat) (N C P : List Int) (c : Nat) (w : World) (hk : Wk w R an ac ap N C P) (hc : c ≤ 1000000) :
    Calls Try.prog 96 #[.agg #[.int .i64 (R : Int), .slice an N.length cn, .slice ac C.length cc, .slice ap P.length cp], .int .i64 c] w fun e w' => e = .returned (.int .i64 (fs R N c)) ∧ Below w.heap.size w w' := by
  have r1 := hk.v.r1
  have r2 := hk.v.r2
  have n12 := hk.v.n12
  have hpl := hk.plen
  have hm : c % R < P.length := by rw [hpl]; exact Nat.mod_lt _ (by omega)
  have hpd := hk.hp
  replace hk := hk.alloc (.cells #[.int .i64 (R : Int), .slice an N.length cn, .slice ac C.length cc, .slice ap P.length cp] 73)
  obtain ⟨b, off, x, rfl, hbs, hcell, _, _, hx, _⟩ := hk.hP.at hm
  have e : x = (np N ((c % R : Nat) : Int) : Int) := by
    have h1 := hx.out
    rw [hpd, npl_at R N _ (by omega)] at h1
    simpa using h1.symm
  have hnp := np_le N ((c % R : Nat) : Int)
  have hdv : c / R ≤ c := Nat.div_le_self _ _
  have hmul : c / R * N.length ≤ 12 * 1000000 := by
    have := Nat.mul_le_mul hdv n12
    omega
  have hfs := hid (show fs R N c = c / R * N.length + np N ((c % R : Nat) : Int) from rfl)
  have hI0 : (0 : Int) ≤ (c : Int) % (R : Int) := Int.emod_nonneg _ (by omega)
  have hI1 : (c : Int) % (R : Int) < (P.length : Int) := by have : ((c % R : Nat) : Int) < (P.length : Int) := by omega
                                                            simpa using this
  have hr1 : (1 : Int) ≤ (R : Int) := by omega
  have hc0 : (0 : Int) ≤ (c : Int) := by omega
  clear hk hx hpd hpl
  go_enter Try.func96, Try.ntmps96
  go_wp2
  go_quiet (fail)
  go_wp2
  go_ret
  refine ⟨ret_int ?_, below_two _ _⟩
  have e1 : (c : Int) / (R : Int) = ((c / R : Nat) : Int) := by simp
  have e2 : (c : Int) % (R : Int) = ((c % R : Nat) : Int) := by simp
  rw [hfs.out, e1, e2]
  clear hfs e1 e2 hI0 hI1
  generalize np N ((c % R : Nat) : Int) = x at *
  generalize c / R = q at *
  have e3 : (q : Int) * (N.length : Int) = ((q * N.length : Nat) : Int) := by simp
  generalize q * N.length = y at *
  rw [IntWalk.wrap64_in (q : Int) ⟨by omega, by omega⟩, e3, IntWalk.wrap64_in (y : Int) ⟨by omega, by omega⟩, IntWalk.wrap64_in _ ⟨by omega, by omega⟩]
  omega

theorem fromStart_int (R : Nat) (an ac ap : Option Addr) (cn cc cp : Nat) (N C P : List Int) (c : Int) (w : World) (hk : Wk w R an ac ap N C P) (h0 : 0 ≤ c) (hc : c ≤ 1000000) :
    Calls Try.prog 96 #[.agg #[.int .i64 (R : Int), .slice an N.length cn, .slice ac C.length cc, .slice ap P.length cp], .int .i64 c] w fun e w' => e = .returned (.int .i64 (fs R N c.toNat)) ∧ Below w.heap.size w w' := by
  obtain ⟨n, rfl⟩ := Int.eq_ofNat_of_zero_le h0
  exact fromStart_any _ _ _ _ _ _ _ _ _ _ n w hk (by omega)


/-- The box of a wheel at work. -/
theorem kbox {R : Nat} {an ac ap : Option Addr} (cn cc cp : Nat) {N C P : List Int} {w : World} (hk : Wk w R an ac ap N C P) :
    Below w.heap.size w (w.alloc (.cells #[.int .i64 (R : Int), .slice an N.length cn, .slice ac C.length cc, .slice ap P.length cp] 73)) ∧ Wk (w.alloc (.cells #[.int .i64 (R : Int), .slice an N.length cn, .slice ac C.length cc, .slice ap P.length cp] 73)) R an ac ap N C P ∧
    (w.alloc (.cells #[.int .i64 (R : Int), .slice an N.length cn, .slice ac C.length cc, .slice ap P.length cp] 73)).cell? ⟨w.heap.size, 0, none⟩ = some (.int .i64 (R : Int)) ∧
    (w.alloc (.cells #[.int .i64 (R : Int), .slice an N.length cn, .slice ac C.length cc, .slice ap P.length cp] 73)).cell? ⟨w.heap.size, 1, none⟩ = some (.slice an N.length cn) ∧
    (w.alloc (.cells #[.int .i64 (R : Int), .slice an N.length cn, .slice ac C.length cc, .slice ap P.length cp] 73)).cell? ⟨w.heap.size, 2, none⟩ = some (.slice ac C.length cc) ∧
    (w.alloc (.cells #[.int .i64 (R : Int), .slice an N.length cn, .slice ac C.length cc, .slice ap P.length cp] 73)).cell? ⟨w.heap.size, 3, none⟩ = some (.slice ap P.length cp) :=
  ⟨below_one _, hk.alloc _, by go_simp, by go_simp, by go_simp, by go_simp⟩

set_option maxHeartbeats 400000 in
theorem gives_any (R : Nat) (an ac ap : Option Addr) (cn cc cp : Nat) (N C P : List Int) (place cents : Nat) (w : World) (hk : Wk w R an ac ap N C P) (h1 : place ≤ 100000) (h2 : cents ≤ 100000) :
    Calls Try.prog 69 #[.agg #[.int .i64 (R : Int), .slice an N.length cn, .slice ac C.length cc, .slice ap P.length cp], .int .i64 place, .int .i64 cents] w fun e w' => e = .returned (.int .i64 (gv R N place cents)) ∧ Below w.heap.size w w' := by
  have f1 := fs_le hk.v (place + cents)
  have f2 := fs_mono hk.v (show place ≤ place + cents by omega)
  have f3 := hid (show gv R N place cents = fs R N (place + cents) - fs R N place from rfl)
  obtain ⟨hb, hk, c0, c1, c2, c3⟩ := kbox cn cc cp hk
  replace c0 := Ext.cell c0
  replace c1 := Ext.cell c1
  replace c2 := Ext.cell c2
  replace c3 := Ext.cell c3
  have ew : IntKind.i64.wrap ((place : Int) + (cents : Int)) = (place : Int) + (cents : Int) := IntWalk.i64_in _ (by omega)
  go_enter Try.func69, Try.ntmps69
  go_wp2
  generalize w.alloc (.cells #[.int .i64 (R : Int), .slice an N.length cn, .slice ac C.length cc, .slice ap P.length cp] 73) = W at *
  refine wp_region_ext_lit (by kernel_rfl) (by kernel_rfl) ?_
  repeat (quiet_step (first | (go_at_call 96; exact quiet_ext (fromStart_int _ _ _ _ _ _ _ _ _ _ _ _ (hk.below (Ext.below _) (Nat.le_refl _)) (by omega) (by omega)))))
  refine wpQuiet_nil ?_
  intro _ hw'
  obtain ⟨t, rfl⟩ := hw'
  go_wp2
  go_ret
  refine ⟨ret_int ?_, hb.trans (t.below.mono hb.size)⟩
  rw [f3.out, show ((place : Int) + (cents : Int)).toNat = place + cents by omega, IntWalk.i64_in _ (by omega)]
  omega

theorem gives_int (R : Nat) (an ac ap : Option Addr) (cn cc cp : Nat) (N C P : List Int) (place cents : Int) (w : World) (hk : Wk w R an ac ap N C P) (h0 : 0 ≤ place) (h0' : 0 ≤ cents) (h1 : place ≤ 100000) (h2 : cents ≤ 100000) :
    Calls Try.prog 69 #[.agg #[.int .i64 (R : Int), .slice an N.length cn, .slice ac C.length cc, .slice ap P.length cp], .int .i64 place, .int .i64 cents] w fun e w' => e = .returned (.int .i64 (gv R N place.toNat cents.toNat)) ∧ Below w.heap.size w w' := by
  obtain ⟨n, rfl⟩ := Int.eq_ofNat_of_zero_le h0
  obtain ⟨m, rfl⟩ := Int.eq_ofNat_of_zero_le h0'
  exact gives_any _ _ _ _ _ _ _ _ _ _ n m w hk (by omega) (by omega)

theorem turned_int (R : Nat) (an ac ap : Option Addr) (cn cc cp : Nat) (N C P : List Int) (place cents : Int) (w : World) (hv : Vw R N C) (h0 : 0 ≤ place) (h0' : 0 ≤ cents) (h1 : place ≤ 100000) (h2 : cents ≤ 100000) :
    Calls Try.prog 95 #[.agg #[.int .i64 (R : Int), .slice an N.length cn, .slice ac C.length cc, .slice ap P.length cp], .int .i64 place, .int .i64 cents] w fun e w' => e = .returned (.int .i64 ((place.toNat + cents.toNat) % R : Nat)) ∧ Below w.heap.size w w' := by
  obtain ⟨n, rfl⟩ := Int.eq_ofNat_of_zero_le h0
  obtain ⟨m, rfl⟩ := Int.eq_ofNat_of_zero_le h0'
  exact turned_any _ _ _ _ _ _ _ _ _ _ n m w hv (by omega) (by omega)

/-- What an act does. -/
structure St where
  p : Nat
  c : Nat
def act (R : Nat) (N C : List Int) (s : St) (a : Int) : St × Bool :=
  if a = -1 then (if s.c = 0 then (s, false) else (⟨0, s.c - 1⟩, true)) else (⟨(s.p + cw C a.toNat) % R, s.c + gv R N s.p (cw C a.toNat)⟩, false)

end Go.Proofs.Ytmkmnedojgigoaa
namespace Go.Proofs.Ytmkmnedojgigoaa
open Go.RowKit

set_option maxRecDepth 100000 in
set_option maxHeartbeats 1000000 in
theorem do_kind (R : Nat) (an ac ap : Option Addr) (cn cc cp : Nat) (N C P : List Int) (p c : Nat) (k : Nat) (w : World) (hk : Wk w R an ac ap N C P) (hp : p < R) (hc : c ≤ 1000000) (hlt : k < C.length) :
    Calls Try.prog 64 #[.agg #[.int .i64 (R : Int), .slice an N.length cn, .slice ac C.length cc, .slice ap P.length cp], .agg #[.int .i64 p, .int .i64 c], .int .i64 k] w fun e w' => e = .returned (.tuple #[.agg #[.int .i64 ((p + cw C k) % R : Nat), .int .i64 (c + gv R N p (cw C k) : Nat)], .bool false]) ∧ Below w.heap.size w w' := by
  have r2 := hk.v.r2
  have c4 := hk.v.c4
  obtain ⟨_, q1, q2⟩ := hk.v.coin hlt
  have hg := gv_le hk.v p (cw C k)
  have hk1 : ((k : Int) != -1) = true := by simp
  go_enter Try.func64, Try.ntmps64
  go_wp2_with fail
  obtain ⟨W, hW, hb, hs, x0, x1, x2⟩ := boxes3 w #[.int .i64 (R : Int), .slice an N.length cn, .slice ac C.length cc, .slice ap P.length cp] 73 #[.int .i64 p, .int .i64 c] 26 #[.int .i64 0, .int .i64 0] 26
  rw [hW]
  replace hk := hk.below hb (Nat.le_refl _)
  clear hW
  refine (worth_any _ _ _ _ _ _ _ _ _ _ k W hk hlt).mono ?_
  rintro e W1 ⟨rfl, hb1⟩
  replace hk := hk.below hb1 (Nat.le_refl _); replace x0 := x0.below hb1; replace x1 := x1.below hb1; replace x2 := x2.below hb1; replace hb := hb.trans (hb1.mono hb.size)
  have Hs := hid hs; clear hs hb1
  have c0 := x0.ext 0 rfl; have c1 := x0.ext 1 rfl; have c2 := x0.ext 2 rfl; have c3 := x0.ext 3 rfl; have d0 := x1.ext 0 rfl; have d1 := x1.ext 1 rfl
  go_wp2_with fail
  refine wp_region_ext_tail 14 (by kernel_rfl) (by kernel_rfl) ?_
  simp only [List.take_succ_cons, List.take_zero, List.drop_succ_cons, List.drop_zero]
  repeat (quiet_step (first | (go_at_call 95; exact quiet_ext (turned_int _ _ _ _ _ _ _ _ _ _ _ _ _ hk.v (by omega) (by omega) (by omega) (by omega))) | (go_at_call 69; exact quiet_ext (gives_int _ _ _ _ _ _ _ _ _ _ _ _ _ (hk.below (Ext.below _) (Nat.le_refl _)) (by omega) (by omega) (by omega) (by omega)))))
  refine wpQuiet_nil ?_
  intro _ hw'
  obtain ⟨t, rfl⟩ := hw'
  have y2 := x2.below t.below
  have hb' := hb.trans (t.below.mono hb.size)
  generalize t.w = W2 at *
  clear c0 c1 c2 c3 d0 d1 x0 x1 hk
  have g0 := y2.cell 0 rfl; have g1 := y2.cell 1 rfl; have h0 := y2.free 0; have h1 := y2.free 1
  go_wp2
  refine bodyPost_ret (v := .tuple #[.agg #[.int .i64 ((p + cw C k) % R : Nat), .int .i64 (c + gv R N p (cw C k) : Nat)], .bool false]) ?_ rfl ⟨rfl, ?_⟩
  · simp [results, Try.results64, go_sem, g0, g1]
  · exact (hb'.setCell (by simp; omega) _).setCell (by simp; omega) _

set_option maxRecDepth 100000 in
set_option maxHeartbeats 1000000 in
theorem do_sel0 (R : Nat) (an ac ap : Option Addr) (cn cc cp : Nat) (N C P : List Int) (p : Nat) (w : World) :
    Calls Try.prog 64 #[.agg #[.int .i64 (R : Int), .slice an N.length cn, .slice ac C.length cc, .slice ap P.length cp], .agg #[.int .i64 p, .int .i64 0], .int .i64 (-1)] w fun e w' => e = .returned (.tuple #[.agg #[.int .i64 p, .int .i64 0], .bool false]) ∧ Below w.heap.size w w' := by
  go_enter Try.func64, Try.ntmps64
  go_wp2
  refine bodyPost_ret (v := .tuple #[.agg #[.int .i64 p, .int .i64 0], .bool false]) (by simp [results, Try.results64, go_sem]) rfl ⟨rfl, ?_⟩
  (repeat (first | with_reducible assumption | with_reducible refine Below.alloc ?_ (by simp; try omega) _ | with_reducible refine Below.setCell ?_ (by simp; try omega) _ | with_reducible refine below_drewN ?_ _ | with_reducible exact Below.refl _ _))

set_option maxRecDepth 100000 in
set_option maxHeartbeats 1000000 in
theorem do_sel (R : Nat) (an ac ap : Option Addr) (cn cc cp : Nat) (N C P : List Int) (p c : Nat) (w : World) (h0 : c ≠ 0) (hc : c ≤ 1000000) :
    Calls Try.prog 64 #[.agg #[.int .i64 (R : Int), .slice an N.length cn, .slice ac C.length cc, .slice ap P.length cp], .agg #[.int .i64 p, .int .i64 c], .int .i64 (-1)] w fun e w' => e = .returned (.tuple #[.agg #[.int .i64 0, .int .i64 (c - 1 : Nat)], .bool true]) ∧ Below w.heap.size w w' := by
  have h1 : ((c : Int) == 0) = false := by simp; omega
  have h2 : 1 ≤ c := by omega
  clear h0
  go_enter Try.func64, Try.ntmps64
  go_wp2
  refine bodyPost_ret (v := .tuple #[.agg #[.int .i64 0, .int .i64 (c - 1 : Nat)], .bool true]) ?_ rfl ⟨rfl, ?_⟩
  · rw [show ((c - 1 : Nat) : Int) = (c : Int) - 1 by omega]
    simp [results, Try.results64, go_sem]
  · (repeat (first | with_reducible assumption | with_reducible refine Below.alloc ?_ (by simp; try omega) _ | with_reducible refine Below.setCell ?_ (by simp; try omega) _ | with_reducible refine below_drewN ?_ _ | with_reducible exact Below.refl _ _))

end Go.Proofs.Ytmkmnedojgigoaa
