import Derived.Test.YtmkmnedojgigoaaC2
namespace Go.Proofs.Ytmkmnedojgigoaa
open Go.RowKit

theorem Below.gr {w w' : World} (h : Below w.heap.size w w') (mb : Nat) : w.grownBy w' (some mb) := ⟨h.os, h.tape, h.output, h.size, fun k hk _ => h.block k hk⟩
theorem Bx.gr {w w' : World} {b mb : Nat} {vs : Array Value} {T : TypeId} (h : Bx w b vs T) (hg : w.grownBy w' (some mb)) (hne : b ≠ mb) : Bx w' b vs T := by
  have := hg.block b h.lt (by simpa using hne)
  unfold Bx at *; rw [this]; exact h
theorem Ints.gr {w w' : World} {mb : Nat} {a : Option Addr} {xs : List Int} (h : Ints w a xs) (hg : w.grownBy w' (some mb)) (ho : Off mb a xs.length) : Ints w' a xs := by
  obtain ⟨h1, h2, h3⟩ := h
  refine ⟨h1, h2, fun j hj => ?_⟩
  obtain ⟨b', off, ha, hlt, hc⟩ := h3 j hj
  have hne : b' ≠ mb := ho (by omega) _ ha
  refine ⟨b', off, ha, Nat.lt_of_lt_of_le hlt hg.size, ?_⟩
  rw [← hc]
  exact World.cell?_of_block (w := w) (hg.block b' hlt (by simpa using hne))
theorem Wk.gr {w w' : World} {mb R : Nat} {an ac ap : Option Addr} {N C P : List Int} (h : Wk w R an ac ap N C P) (hg : w.grownBy w' (some mb)) (o : Off mb an N.length ∧ Off mb ac C.length ∧ Off mb ap P.length) : Wk w' R an ac ap N C P :=
  ⟨h.hN.gr hg o.1, h.hC.gr hg o.2.1, h.hP.gr hg o.2.2, h.v, h.hp⟩

set_option maxRecDepth 100000 in
set_option maxHeartbeats 1000000 in
theorem next_m (R : Nat) (an ac ap : Option Addr) (cn cc cp : Nat) (N C P : List Int) (F : Value) (mb : Nat) (b0 b1 b2 b3 p c : Nat) (w : World) (hc0 : 0 < c) (hc : c ≤ 12) (_h0 : b0 ≤ 12) (_h1 : b1 ≤ 12) (_h2 : b2 ≤ 12) (_h3 : b3 ≤ 12) :
    Calls Try.prog 104 #[.agg #[.int .i64 (R : Int), .slice an N.length cn, .slice ac C.length cc, .slice ap P.length cp, F, .map (some mb)], .agg #[.int .i64 b0, .int .i64 b1, .int .i64 b2, .int .i64 b3, .int .i64 p, .int .i64 c], .int .i64 (-1)] w fun e w' =>
      e = .returned (.tuple #[.agg #[.int .i64 b0, .int .i64 b1, .int .i64 b2, .int .i64 b3, .int .i64 0, .int .i64 (c - 1 : Nat)], .int .i64 0]) ∧ Below w.heap.size w w' := by
  obtain ⟨W, hW, hbw, hs, x0, x1, x2⟩ := boxes3 w #[.int .i64 (R : Int), .slice an N.length cn, .slice ac C.length cc, .slice ap P.length cp, F, .map (some mb)] 90 #[.int .i64 b0, .int .i64 b1, .int .i64 b2, .int .i64 b3, .int .i64 p, .int .i64 c] 121 #[.int .i64 0, .int .i64 0, .int .i64 0, .int .i64 0, .int .i64 0, .int .i64 0] 121
  have Hs := hid hs; clear hs
  have c0 := x0.cell 0 rfl; have c1 := x0.cell 1 rfl; have c2 := x0.cell 2 rfl; have c3 := x0.cell 3 rfl; have c4 := x0.cell 4 rfl; have c5 := x0.cell 5 rfl; have d0 := x1.cell 0 rfl; have d1 := x1.cell 1 rfl; have d2 := x1.cell 2 rfl; have d3 := x1.cell 3 rfl; have d4 := x1.cell 4 rfl; have d5 := x1.cell 5 rfl
  go_enter Try.func104, Try.ntmps104
  go_wp2_with fail
  refine (do_sel _ _ _ _ _ _ _ _ _ _ p c _ (by omega) (by omega)).mono ?_
  rintro e W1 ⟨rfl, hb1⟩
  clear hW c0 c1 c2 c3 c4 c5
  (try clear d0 d1 d2 d3 d4 d5); replace x1 := x1.below hb1; have d0 := x1.cell 0 rfl; have d1 := x1.cell 1 rfl; have d2 := x1.cell 2 rfl; have d3 := x1.cell 3 rfl; have d4 := x1.cell 4 rfl; have d5 := x1.cell 5 rfl; (try clear g0 g1 g2 g3 g4 g5); replace x2 := x2.below hb1; have g0 := x2.cell 0 rfl; have g1 := x2.cell 1 rfl; have g2 := x2.cell 2 rfl; have g3 := x2.cell 3 rfl; have g4 := x2.cell 4 rfl; have g5 := x2.cell 5 rfl; (try clear f0 f1 f2 f3 f4 f5); have f0 := x2.free 0; have f1 := x2.free 1; have f2 := x2.free 2; have f3 := x2.free 3; have f4 := x2.free 4; have f5 := x2.free 5; replace hbw := hbw.trans (hb1.mono hbw.size); clear hb1
  have l1 := x1.lt
  have l2 := x2.lt
  generalize hm : c - 1 = m
  have Hm := hid hm
  clear hc hc0 hm
  go_wp2
  refine bodyPost_ret (v := .tuple #[.agg #[.int .i64 b0, .int .i64 b1, .int .i64 b2, .int .i64 b3, .int .i64 0, .int .i64 m], .int .i64 0]) ?_ rfl ⟨by rw [Hm.out], ?_⟩
  · have y4 := (Bx.set6 (Bx.set6 x2 (.int .i64 b0) (.int .i64 b1) (.int .i64 b2) (.int .i64 b3) (.int .i64 0) (.int .i64 m)) (.int .i64 b0) (.int .i64 b1) (.int .i64 b2) (.int .i64 b3) (.int .i64 0) (.int .i64 m)).alloc (.cells #[.int .i64 0, .int .i64 m] 26)
    clear d0 d1 d2 d3 d4 d5 g0 g1 g2 g3 g4 g5 f0 f1 f2 f3 f4 f5
    have d0 := y4.cell 0 rfl; have d1 := y4.cell 1 rfl; have d2 := y4.cell 2 rfl; have d3 := y4.cell 3 rfl; have d4 := y4.cell 4 rfl; have d5 := y4.cell 5 rfl
    simp [results, Try.results104, go_sem, d0, d1, d2, d3, d4, d5]
  · (repeat (first | with_reducible assumption | with_reducible refine Below.alloc ?_ (by simp; try omega) _ | with_reducible refine Below.setCell ?_ (by simp; try omega) _ | with_reducible refine below_drewN ?_ _ | with_reducible exact Below.refl _ _))

theorem act_cases {a : Int} {k : Nat} (h1 : -1 ≤ a) (h2 : a < k) (h3 : k ≤ 4) : a = -1 ∨ (a = 0 ∧ 0 < k) ∨ (a = 1 ∧ 1 < k) ∨ (a = 2 ∧ 2 < k) ∨ (a = 3 ∧ 3 < k) := by omega

theorem can_any (R : Nat) (an ac ap : Option Addr) (cn cc cp : Nat) (N C P : List Int) (F : Value) (mb : Nat) (s : Sp) (a : Int) (w : World) (hv : Vw R N C) (h1 : -1 ≤ a) (h2 : a < C.length) :
    Calls Try.prog 114 #[.agg #[.int .i64 (R : Int), .slice an N.length cn, .slice ac C.length cc, .slice ap P.length cp, F, .map (some mb)], .agg #[.int .i64 s.b0, .int .i64 s.b1, .int .i64 s.b2, .int .i64 s.b3, .int .i64 s.p, .int .i64 s.c], .int .i64 a] w fun e w' => e = .returned (.bool (canS s a)) ∧ Below w.heap.size w w' := by
  rcases act_cases h1 h2 hv.c4 with rfl | ⟨rfl, h⟩ | ⟨rfl, h⟩ | ⟨rfl, h⟩ | ⟨rfl, h⟩
  · exact can_m _ _ _ _ _ _ _ _ _ _ _ _ s.b0 s.b1 s.b2 s.b3 s.p s.c w
  · exact can_0 _ _ _ _ _ _ _ _ _ _ _ _ s.b0 s.b1 s.b2 s.b3 s.p s.c w
  · exact can_1 _ _ _ _ _ _ _ _ _ _ _ _ s.b0 s.b1 s.b2 s.b3 s.p s.c w
  · exact can_2 _ _ _ _ _ _ _ _ _ _ _ _ s.b0 s.b1 s.b2 s.b3 s.p s.c w
  · exact can_3 _ _ _ _ _ _ _ _ _ _ _ _ s.b0 s.b1 s.b2 s.b3 s.p s.c w

theorem next_any (R : Nat) (an ac ap : Option Addr) (cn cc cp : Nat) (N C P : List Int) (F : Value) (mb : Nat) (s : Sp) (a : Int) (w : World) (hk : Wk w R an ac ap N C P) (ho : OKs R s) (h1 : -1 ≤ a) (h2 : a < C.length) (hc : canS s a = true) :
    Calls Try.prog 104 #[.agg #[.int .i64 (R : Int), .slice an N.length cn, .slice ac C.length cc, .slice ap P.length cp, F, .map (some mb)], .agg #[.int .i64 s.b0, .int .i64 s.b1, .int .i64 s.b2, .int .i64 s.b3, .int .i64 s.p, .int .i64 s.c], .int .i64 a] w fun e w' =>
      e = .returned (.tuple #[.agg #[.int .i64 (nxt R N C s a).b0, .int .i64 (nxt R N C s a).b1, .int .i64 (nxt R N C s a).b2, .int .i64 (nxt R N C s a).b3, .int .i64 (nxt R N C s a).p, .int .i64 (nxt R N C s a).c], .int .i64 (bgt R N C s a)]) ∧ Below w.heap.size w w' := by
  have hn := ho.n
  have hcc := ho.c
  unfold Sp.cnt at hn hcc
  rcases act_cases h1 h2 hk.v.c4 with rfl | ⟨rfl, h⟩ | ⟨rfl, h⟩ | ⟨rfl, h⟩ | ⟨rfl, h⟩
  · simp [canS] at hc
    exact next_m _ _ _ _ _ _ _ _ _ _ _ _ s.b0 s.b1 s.b2 s.b3 s.p s.c w hc.1 (by omega) (by omega) (by omega) (by omega) (by omega)
  · exact next_0 _ _ _ _ _ _ _ _ _ _ _ _ s.b0 s.b1 s.b2 s.b3 s.p s.c w hk ho.p (by omega) (by omega) (by omega) (by omega) (by omega) (by simpa [canS, Sp.get] using hc) h
  · exact next_1 _ _ _ _ _ _ _ _ _ _ _ _ s.b0 s.b1 s.b2 s.b3 s.p s.c w hk ho.p (by omega) (by omega) (by omega) (by omega) (by omega) (by simpa [canS, Sp.get] using hc) h
  · exact next_2 _ _ _ _ _ _ _ _ _ _ _ _ s.b0 s.b1 s.b2 s.b3 s.p s.c w hk ho.p (by omega) (by omega) (by omega) (by omega) (by omega) (by simpa [canS, Sp.get] using hc) h
  · exact next_3 _ _ _ _ _ _ _ _ _ _ _ _ s.b0 s.b1 s.b2 s.b3 s.p s.c w hk ho.p (by omega) (by omega) (by omega) (by omega) (by omega) (by simpa [canS, Sp.get] using hc) h

end Go.Proofs.Ytmkmnedojgigoaa
