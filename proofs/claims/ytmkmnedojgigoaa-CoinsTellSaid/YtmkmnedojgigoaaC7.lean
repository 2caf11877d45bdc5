import Derived.Test.YtmkmnedojgigoaaC6
import Derived.Deep.RegionWith
namespace Go.Proofs.Ytmkmnedojgigoaa
open Go.RowKit

/-- The bag after k kinds. -/
def bl (xs : List Int) (k : Nat) : List Int := xs.take k ++ List.replicate (4 - k) 0
theorem bl_at (xs : List Int) (k : Nat) (h : k < 4) (hx : k ≤ xs.length) : (bl xs k)[k]? = some 0 := by
  unfold bl
  have hl : (xs.take k).length = k := by rw [List.length_take]; omega
  rw [List.getElem?_append_right (by omega), hl, Nat.sub_self, List.getElem?_replicate, if_pos (by omega)]
theorem bl_step (xs : List Int) (k : Nat) (x : Int) (h : k < 4) (hx : xs[k]? = some x) : (bl xs k).set k x = bl xs (k + 1) := by
  have hk : k < xs.length := (List.getElem?_eq_some_iff.1 hx).1
  have hl : (xs.take k).length = k := by rw [List.length_take]; omega
  unfold bl
  rw [List.set_append_right _ _ (by omega), hl, Nat.sub_self, show 4 - k = (4 - (k + 1)) + 1 by omega, List.replicate_succ, List.set_cons_zero, List.take_add_one, hx]
  simp
theorem bl_len (xs : List Int) (k : Nat) (h : k ≤ 4) (hx : k ≤ xs.length) : (bl xs k).length = 4 := by
  simp [bl]; omega
/-- How many coins of a kind. -/
def bgN (xs : List Int) (i : Nat) : Nat := (xs.getD i 0).toNat
theorem bl_lit (xs : List Int) (h4 : xs.length ≤ 4) (h : xs.all (fun x => inR 0 x 12) = true) : bl xs xs.length = [(bgN xs 0 : Int), (bgN xs 1 : Int), (bgN xs 2 : Int), (bgN xs 3 : Int)] ∧ bgN xs 0 ≤ 12 ∧ bgN xs 1 ≤ 12 ∧ bgN xs 2 ≤ 12 ∧ bgN xs 3 ≤ 12 ∧ ((bgN xs 0 + bgN xs 1 + bgN xs 2 + bgN xs 3 : Nat) : Int) = xs.sum := by
  match xs, h4 with
  | [], _ => simp [bl, bgN]
  | [a], _ =>
    simp only [List.all_cons, List.all_nil, Bool.and_eq_true, inR_iff] at h
    simp [bl, bgN]; try omega
  | [a, b], _ =>
    simp only [List.all_cons, List.all_nil, Bool.and_eq_true, inR_iff] at h
    simp [bl, bgN]; omega
  | [a, b, c], _ =>
    simp only [List.all_cons, List.all_nil, Bool.and_eq_true, inR_iff] at h
    simp [bl, bgN]; omega
  | [a, b, c, d], _ =>
    simp only [List.all_cons, List.all_nil, Bool.and_eq_true, inR_iff] at h
    simp [bl, bgN]; omega
  | _ :: _ :: _ :: _ :: _ :: _, h4 => simp at h4
theorem list4 (l : List Int) (h : l.length = 4) : ∃ a b c d, l = [a, b, c, d] := by
  match l, h with
  | [a, b, c, d], _ => exact ⟨a, b, c, d, rfl⟩

def okP (C xs : List Int) : Bool := decide (xs.length = C.length) && (xs.all (fun x => inR 0 x 12) && decide (xs.sum ≤ 12))

def BagPost (w : World) (C xs : List Int) (e : Ending) (w' : World) : Prop :=
  Below w.heap.size w w' ∧ ∃ b0 b1 b2 b3 : Nat, e = .returned (.tuple #[.agg #[.int .i64 b0, .int .i64 b1, .int .i64 b2, .int .i64 b3], .bool (okP C xs)]) ∧ (okP C xs = true → b0 = bgN xs 0 ∧ b1 = bgN xs 1 ∧ b2 = bgN xs 2 ∧ b3 = bgN xs 3 ∧ b0 + b1 + b2 + b3 ≤ 12)

set_option maxRecDepth 100000 in
set_option maxHeartbeats 1000000 in
theorem bagOf_any (R : Nat) (an ac ap : Option Addr) (cn cc cp : Nat) (N C P : List Int) (a : Option Addr) (ca : Nat) (xs : List Int) (w : World) (hv : Vw R N C) (hX : Ints w a xs) :
    Calls Try.prog 97 #[.agg #[.int .i64 (R : Int), .slice an N.length cn, .slice ac C.length cc, .slice ap P.length cp], .slice a xs.length ca] w (BagPost w C xs) := by
  have hm := hX.len
  have c4 := hv.c4
  obtain ⟨W, hW, hb, hs, x0, x1⟩ := boxes2 w #[.int .i64 (R : Int), .slice an N.length cn, .slice ac C.length cc, .slice ap P.length cp] 73 #[.int .i64 0, .int .i64 0, .int .i64 0, .int .i64 0] 92
  have oX := Off.of_old hX (show w.heap.size ≤ w.heap.size + 1 by omega)
  clear hs
  have c0 := x0.cell 0 rfl; have c1 := x0.cell 1 rfl; have c2 := x0.cell 2 rfl; have c3 := x0.cell 3 rfl
  by_cases hl : xs.length = C.length
  · have hlB : (((xs.length : Int)) != (C.length : Int)) = false := by simp [hl]
    have Hl := hid hl; clear hl
    have hx4 : xs.length ≤ 4 := by rw [Hl.out]; exact c4
    have hX0 := hX.below hb (Nat.le_refl _)
    go_enter Try.func97, Try.ntmps97
    go_wp2
    go_loopw [18] (fun i wr => ∃ (k : Nat), k ≤ xs.length ∧ i = .int .i64 k ∧ Below w.heap.size w wr ∧ Bx wr (w.heap.size + 1) (vrow (bl xs k)) 92 ∧ xs.all (fun x => inR 0 x 12) = (xs.drop k).all (fun x => inR 0 x 12)) (fun i _ => xs.length - (intOf i).toNat)
    case atStart => exact ⟨0, Nat.zero_le _, rfl, hb, x1, rfl⟩
    case round =>
      clear hX0 x0 x1 c0 c1 c2 c3 hW hb
      obtain ⟨k, hk, rfl, hb, x1, hn⟩ := hrel
      have Hn := hid hn; clear hn
      replace hX := hX.below hb (Nat.le_refl _)
      by_cases hlt : k < xs.length
      · obtain ⟨b, off, x, rfl, hbs, hc, _, _, hx, hd⟩ := hX.at hlt
        have g0 := x1.cell k (vrow_at (bl_at xs k (by omega) hk))
        have g1 := x1.free k
        cases he : inR 0 x 12
        · have e0 : okP C xs = false := by simp only [okP]; rw [Hn.out, hd.out]; simp only [List.all_cons, he, Bool.false_and, Bool.and_false]
          have E0 := hid e0; clear e0
          obtain ⟨z0, z1, z2, z3, ez⟩ := list4 _ (bl_len xs k (by omega) hk)
          rw [ez] at x1
          change Bx wr _ #[.int .i64 z0, .int .i64 z1, .int .i64 z2, .int .i64 z3] 92 at x1
          clear g0 g1 Hn hd ez
          have d0 := x1.cell 0 rfl; have d1 := x1.cell 1 rfl; have d2 := x1.cell 2 rfl; have d3 := x1.cell 3 rfl; have f0 := x1.free 0; have f1 := x1.free 1; have f2 := x1.free 2; have f3 := x1.free 3
          go_wp2_with (first | (go_at_call 82; refine (isFrom_any _ _ _ _).mono ?_; rintro e w' ⟨rfl, rfl⟩))
          refine bodyPost_ret (v := .tuple #[.agg #[.int .i64 0, .int .i64 0, .int .i64 0, .int .i64 0], .bool false]) ?_ rfl ⟨?_, 0, 0, 0, 0, by rw [E0.out]; rfl, fun h => by rw [E0.out] at h; cases h⟩
          · simp [results, Try.results97, go_sem, d0, d1, d2, d3]
          · (repeat (first | with_reducible assumption | with_reducible refine Below.alloc ?_ (by simp; try omega) _ | with_reducible refine Below.setCell ?_ (by simp; try omega) _ | with_reducible refine below_drewN ?_ _ | with_reducible exact Below.refl _ _))
        · go_wp2_with (first | (go_at_call 82; refine (isFrom_any _ _ _ _).mono ?_; rintro e w' ⟨rfl, rfl⟩))
          go_roundw
          case rel => exact ⟨k + 1, by omega, by go_num, by (repeat (first | with_reducible assumption | with_reducible refine Below.alloc ?_ (by simp; try omega) _ | with_reducible refine Below.setCell ?_ (by simp; try omega) _ | with_reducible refine below_drewN ?_ _ | with_reducible exact Below.refl _ _)), by have := x1.set k (.int .i64 x); rwa [vrow_set, bl_step xs k x (by omega) hx.out] at this, by rw [Hn.out, hd.out]; simp only [List.all_cons, he, Bool.true_and]⟩
          case measure => simp [intOf]; omega
      · obtain rfl : k = xs.length := by omega
        have ha : xs.all (fun x => inR 0 x 12) = true := by rw [Hn.out, drop_end hk hlt]; rfl
        obtain ⟨ez, q0, q1, q2, q3, hsum⟩ := bl_lit xs hx4 ha
        have e0 : okP C xs = decide (bgN xs 0 + bgN xs 1 + bgN xs 2 + bgN xs 3 ≤ 12) := by
          simp only [okP, ha, Hl.out, decide_true, Bool.true_and]
          rw [← hsum]
          simp only [decide_eq_decide]
          omega
        have E0 := hid e0; clear e0 hsum
        rw [ez] at x1
        change Bx wr _ #[.int .i64 (bgN xs 0 : Int), .int .i64 (bgN xs 1 : Int), .int .i64 (bgN xs 2 : Int), .int .i64 (bgN xs 3 : Int)] 92 at x1
        clear ez ha Hn hk hlt
        generalize hb0 : bgN xs 0 = b0 at *
        have B0 := hid hb0; clear hb0
        generalize hb1 : bgN xs 1 = b1 at *
        have B1 := hid hb1; clear hb1
        generalize hb2 : bgN xs 2 = b2 at *
        have B2 := hid hb2; clear hb2
        generalize hb3 : bgN xs 3 = b3 at *
        have B3 := hid hb3; clear hb3
        have d0 := x1.ext 0 rfl; have d1 := x1.ext 1 rfl; have d2 := x1.ext 2 rfl; have d3 := x1.ext 3 rfl
        go_wp2_with fail
        clear d0 d1 d2 d3
        have d0 := x1.cell 0 rfl; have d1 := x1.cell 1 rfl; have d2 := x1.cell 2 rfl; have d3 := x1.cell 3 rfl; have f0 := x1.free 0; have f1 := x1.free 1; have f2 := x1.free 2; have f3 := x1.free 3
        go_region_with (go_at_call 113; refine (count_any _ _ _ _ _ (by omega) (by omega) (by omega) (by omega)).mono ?_; rintro e w' ⟨rfl, hb'⟩; have y1 := Bx.below x1.drew hb'; have g0 := y1.cell 0 rfl; have g1 := y1.cell 1 rfl; have g2 := y1.cell 2 rfl; have g3 := y1.cell 3 rfl; have h0 := y1.free 0; have h1 := y1.free 1; have h2 := y1.free 2; have h3 := y1.free 3)
        all_goals
          replace hb := hb.drew.trans (hb'.mono hb.size)
          clear d0 d1 d2 d3 f0 f1 f2 f3
          go_wp2
          refine bodyPost_ret (v := .tuple #[.agg #[.int .i64 b0, .int .i64 b1, .int .i64 b2, .int .i64 b3], .bool (decide (b0 + b1 + b2 + b3 ≤ 12))]) ?_ rfl ⟨?_, b0, b1, b2, b3, by rw [E0.out], fun h => ⟨B0.out.symm, B1.out.symm, B2.out.symm, B3.out.symm, by rw [E0.out] at h; exact of_decide_eq_true h⟩⟩
          · simp [results, Try.results97, go_sem, g0, g1, g2, g3]
            try omega
          · (repeat (first | with_reducible assumption | with_reducible refine Below.alloc ?_ (by simp; try omega) _ | with_reducible refine Below.setCell ?_ (by simp; try omega) _ | with_reducible refine below_drewN ?_ _ | with_reducible exact Below.refl _ _))
  · have hlB : (((xs.length : Int)) != (C.length : Int)) = true := by simp; omega
    have e0 : okP C xs = false := by simp [okP, hl]
    have E0 := hid e0; clear e0
    have Hl := hid hl; clear hl
    have d0 := x1.cell 0 rfl; have d1 := x1.cell 1 rfl; have d2 := x1.cell 2 rfl; have d3 := x1.cell 3 rfl; have f0 := x1.free 0; have f1 := x1.free 1; have f2 := x1.free 2; have f3 := x1.free 3
    go_enter Try.func97, Try.ntmps97
    go_wp2
    refine bodyPost_ret (v := .tuple #[.agg #[.int .i64 0, .int .i64 0, .int .i64 0, .int .i64 0], .bool false]) ?_ rfl ⟨?_, 0, 0, 0, 0, by rw [E0.out]; rfl, fun h => by rw [E0.out] at h; cases h⟩
    · simp [results, Try.results97, go_sem, d0, d1, d2, d3]
    · (repeat (first | with_reducible assumption | with_reducible refine Below.alloc ?_ (by simp; try omega) _ | with_reducible refine Below.setCell ?_ (by simp; try omega) _ | with_reducible refine below_drewN ?_ _ | with_reducible exact Below.refl _ _))

end Go.Proofs.Ytmkmnedojgigoaa
