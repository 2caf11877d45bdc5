import Derived.Test.YtmkmnedojgigoaaA4
import Derived.Test.YtmkmnedojgigoaaB2
namespace Go.Proofs.Ytmkmnedojgigoaa
open Go.RowKit

theorem under22 : Try.prog.underlying 22 = some (.slice 3) := by kernel_rfl
theorem info3 : (Try.prog.info? 3).map (fun i => (i.zero, i.size, i.bytes)) = some (some (.int .i64 0), 1, 8) := by kernel_rfl

theorem asc_weak {hi : Int} : ∀ {N : List Int}, asc 0 hi N = true → asc (-1) hi N = true
  | [], _ => rfl
  | x :: xs, h => by
    have h' := asc_cons.1 h
    exact asc_cons.2 ⟨⟨by omega, h'.1.2⟩, h'.2⟩

theorem nw_next {R g k : Nat} {N : List Int} {w wr : World} {v0 v1 : Array Value} (hk : k < R) (hg : g = w.heap.size + 1 + 1) (hbr : Below w.heap.size w wr) (z0 : Bx wr w.heap.size v0 24) (z1 : Bx wr (w.heap.size + 1) v1 73) (z2 : Bx wr g (vrow (rowl R k N)) 3) :
    Below w.heap.size w (wr.setCell ⟨g, k, none⟩ (.int .i64 (np N (k : Int)))) ∧ Bx (wr.setCell ⟨g, k, none⟩ (.int .i64 (np N (k : Int)))) w.heap.size v0 24 ∧ Bx (wr.setCell ⟨g, k, none⟩ (.int .i64 (np N (k : Int)))) (w.heap.size + 1) v1 73 ∧ Bx (wr.setCell ⟨g, k, none⟩ (.int .i64 (np N (k : Int)))) g (vrow (rowl R (k + 1) N)) 3 := by
  refine ⟨hbr.setCell (by show w.heap.size ≤ g; omega) _, z0.other (by show w.heap.size ≠ g; omega) _, z1.other (by show w.heap.size + 1 ≠ g; omega) _, ?_⟩
  have := z2.set k (.int .i64 (np N (k : Int)))
  rwa [vrow_set, rowl_step R k N hk] at this

set_option maxRecDepth 100000 in
set_option maxHeartbeats 1000000 in
theorem newWheel_any (R : Nat) (an ac : Option Addr) (cn cc : Nat) (N C : List Int) (w : World) (hN : Ints w an N) (hC : Ints w ac C) (hv : Vw R N C) :
    Calls Try.prog 60 #[.agg #[.int .i64 (R : Int), .slice an N.length cn, .slice ac C.length cc]] w fun e w' =>
      ∃ ap cp P, e = .returned (.agg #[.int .i64 (R : Int), .slice an N.length cn, .slice ac C.length cc, .slice ap P.length cp]) ∧ Wk w' R an ac ap N C P ∧ Below w.heap.size w w' ∧ ∀ x, ap = some x → w.heap.size ≤ x.block := by
  have r1 := hv.r1
  have r2 := hv.r2
  have n12 := hv.n12
  obtain ⟨i0, hi, hz0, hz1, hz2⟩ := info_parts info3
  obtain ⟨W, hW, hb, hs, x0, x1⟩ := boxes2 w #[.int .i64 (R : Int), .slice an N.length cn, .slice ac C.length cc] 24 #[.int .i64 0, .slice none 0 0, .slice none 0 0, .slice none 0 0] 73
  have Hs := hid hs; clear hs
  have c0 := x0.cell 0 rfl; have c1 := x0.cell 1 rfl; have c2 := x0.cell 2 rfl
  go_enter Try.func60, Try.ntmps60
  go_wp2_with (first | (at_make; go_must (refine wpList_make_full _ rfl _ _ 22 rfl (w.heap.size + 1 + 1) 3 i0 (.int .i64 0) 1 under22 hi hz0 hz1 _ _ _ _ R rfl rfl rfl rfl (by rw [hz2]; omega) (by unfold maxLen; omega) (by have := Hs.out; omega) ?_); intro W1 hown hgrow; have hb1 : Below W.heap.size W W1 := (Below.refl _ _).grown hgrow (Nat.le_refl _) (fun k hk => by cases hk); have y0 := x0.below hb1; have d0 := y0.cell 0 rfl; have d1 := y0.cell 1 rfl; have d2 := y0.cell 2 rfl))
  have y2 : Bx W1 W.heap.size (vrow (rowl R 0 N)) 3 := by
    have := Bx.of_own hown
    rw [made_ints] at this
    rw [rowl_zero]; exact this
  have y1 := x1.below hb1
  have hb2 : Below w.heap.size w W1 := hb.trans (hb1.mono hb.size)
  clear hown hgrow hW hb1 c0 c1 c2 x0 x1 d0 d1 d2
  generalize hg : W.heap.size = g at *
  have Hg := Hs
  clear hg Hs
  go_loopw [4, 11] (fun n i wr => ∃ k : Nat, k ≤ R ∧ i = .int .i64 k ∧ n = .int .i64 (np N ((k : Int) - 1)) ∧ Below w.heap.size w wr ∧ Bx wr w.heap.size #[.int .i64 (R : Int), .slice an N.length cn, .slice ac C.length cc] 24 ∧ Bx wr (w.heap.size + 1) #[.int .i64 0, .slice none 0 0, .slice none 0 0, .slice none 0 0] 73 ∧ Bx wr g (vrow (rowl R k N)) 3)
    (fun _ i _ => R - (intOf i).toNat)
  case atStart => exact ⟨0, Nat.zero_le _, rfl, by rw [np_zero N 0 R _ hv.ascN (by omega)]; rfl, hb2, y0, y1, y2⟩
  case round =>
    obtain ⟨k, hk, rfl, rfl, hbr, z0, z1, z2⟩ := hrel
    clear y0 y1 y2 hb2
    have hnp := np_le N ((k : Int) - 1)
    have hst := np_step N (-1) R k (asc_weak hv.ascN)
    by_cases hlt : k < R
    · have nx := hid (nw_next (N := N) hlt Hg.out hbr z0 z1 z2)
      have c0 := z0.cell 0 rfl; have c1 := z0.cell 1 rfl; have c2 := z0.cell 2 rfl
      have d0 := z2.cell k (vrow_at (rowl_at R k N hlt))
      have d1 := z2.free k
      replace hN := hN.below hbr (Nat.le_refl _)
      by_cases hin : np N ((k : Int) - 1) < N.length
      · obtain ⟨b, off, x, rfl, hbs, hcell, _, _, hx, _⟩ := hN.at hin
        cases he : (x == (k : Int))
        · have e : np N (k : Int) = np N ((k : Int) - 1) := (hst (by omega)).2 (by rw [hx.out]; simpa using he)
          rw [e] at nx
          have E := hid e
          clear hst e hx
          go_wp2
          go_roundw
          case rel => exact ⟨k + 1, by omega, by go_num, by rw [show (((k + 1 : Nat) : Int) - 1) = (k : Int) by omega, E.out], nx.out⟩
          case measure => simp [intOf]; omega
        · have e : np N (k : Int) = np N ((k : Int) - 1) + 1 := (hst (by omega)).1 (by rw [hx.out]; simpa using he)
          rw [e] at nx
          have E := hid e
          clear hst e hx
          go_wp2
          go_roundw
          case rel => exact ⟨k + 1, by omega, by go_num, by rw [show (((k + 1 : Nat) : Int) - 1) = (k : Int) by omega, E.out]; go_num, nx.out⟩
          case measure => simp [intOf]; omega
      · have e : np N (k : Int) = np N ((k : Int) - 1) := (hst (by omega)).2 (by rw [List.getElem?_eq_none (by omega)]; simp)
        rw [e] at nx
        have E := hid e
        clear hst e hN
        go_wp2
        go_roundw
        case rel => exact ⟨k + 1, by omega, by go_num, by rw [show (((k + 1 : Nat) : Int) - 1) = (k : Int) by omega, E.out], nx.out⟩
        case measure => simp [intOf]; omega
    · obtain rfl : k = R := by omega
      have c0 := z0.cell 0 rfl; have c1 := z0.cell 1 rfl; have c2 := z0.cell 2 rfl; have d0 := z1.cell 0 rfl; have d1 := z1.cell 1 rfl; have d2 := z1.cell 2 rfl; have d3 := z1.cell 3 rfl; have f0 := z1.free 0; have f1 := z1.free 1; have f2 := z1.free 2; have f3 := z1.free 3
      clear hst
      rw [rowl_end] at z2
      have hl := npl_len k N
      have Hne := hid (show g ≠ w.heap.size + 1 by have := Hg.out; omega)
      clear z0
      go_wp2
      refine bodyPost_ret (v := .agg #[.int .i64 (k : Int), .slice an N.length cn, .slice ac C.length cc, .slice (some ⟨g, 0, none⟩) (npl k N).length k]) ?_ rfl ⟨_, k, npl k N, rfl, ?_, ?_, fun x hx => by cases hx; have := Hg.out; show w.heap.size ≤ g; omega⟩
      · simp [results, Try.results60, go_sem, d0, d1, d2, d3, hl]
      · refine ⟨hN.below (B := w.heap.size) ?_ (Nat.le_refl _), hC.below (B := w.heap.size) ?_ (Nat.le_refl _), Ints.of_bx (T := 3) ?_ (by rw [npl_len]; omega) (fun x hx => by have := npl_mem hx; omega), hv, rfl⟩
        · (repeat (first | with_reducible assumption | with_reducible refine Below.alloc ?_ (by simp; try omega) _ | with_reducible refine Below.setCell ?_ (by simp; try omega) _ | with_reducible refine below_drewN ?_ _ | with_reducible exact Below.refl _ _))
        · (repeat (first | with_reducible assumption | with_reducible refine Below.alloc ?_ (by simp; try omega) _ | with_reducible refine Below.setCell ?_ (by simp; try omega) _ | with_reducible refine below_drewN ?_ _ | with_reducible exact Below.refl _ _))
        · repeat (first | exact z2 | refine Bx.other ?_ Hne.out _)
      · (repeat (first | with_reducible assumption | with_reducible refine Below.alloc ?_ (by simp; try omega) _ | with_reducible refine Below.setCell ?_ (by simp; try omega) _ | with_reducible refine below_drewN ?_ _ | with_reducible exact Below.refl _ _))

end Go.Proofs.Ytmkmnedojgigoaa
