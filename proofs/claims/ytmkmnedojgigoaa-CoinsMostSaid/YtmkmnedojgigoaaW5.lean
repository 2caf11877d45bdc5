import Derived.Test.YtmkmnedojgigoaaE1
import Derived.Test.YtmkmnedojgigoaaP12
import Derived.Lib.SmallJoins
import Derived.ChangeKeysEq
namespace Go.Proofs.Ytmkmnedojgigoaa
open Go.RowKit

/-- The first act of a best way. -/
def bact (R : Nat) (N C : List Int) (s : Sp) : Int := stA (ch btm (bst btm R N C) R N C s)
/-- A best way. -/
def wayF (R : Nat) (N C : List Int) : Nat → Sp → List Int
  | 0, _ => []
  | n + 1, s => if s.cnt = 0 then [] else bact R N C s :: wayF R N C n (nxt R N C s (bact R N C s))
/-- There are coins of the wheel's kinds alone. -/
def Fit (C : List Int) (s : Sp) : Prop := ∀ k : Nat, C.length ≤ k → k ≤ 3 → s.get (k : Int) = 0
theorem look_none {bt : Nat → Nat → Bool} {f : Sp → Nat} {R : Nat} {N C : List Int} {s : Sp} : ∀ (l : List Int) (st : Option (Int × Nat)), l.foldl (look bt f R N C s) st = none → st = none ∧ ∀ x ∈ l, canS s x = false
  | [], st, h => ⟨h, fun x hx => by simp at hx⟩
  | y :: l, st, h => by
    rw [List.foldl_cons] at h
    obtain ⟨h1, h2⟩ := look_none l _ h
    have hy : canS s y = false ∧ st = none := by
      unfold look at h1
      by_cases hc : canS s y = true
      · rw [if_pos hc] at h1
        rcases st with _ | ⟨a, v⟩
        · cases h1
        · dsimp only at h1
          split at h1 <;> cases h1
      · rw [if_neg hc] at h1
        exact ⟨by simpa using hc, h1⟩
    refine ⟨hy.2, fun x hx => ?_⟩
    rcases List.mem_cons.1 hx with rfl | hx
    · exact hy.1
    · exact h2 x hx
theorem get_pos {s : Sp} (h : s.cnt ≠ 0) : ∃ k : Nat, k ≤ 3 ∧ 0 < s.get (k : Int) := by
  unfold Sp.cnt at h
  by_cases h0 : 0 < s.b0
  · exact ⟨0, by omega, h0⟩
  by_cases h1 : 0 < s.b1
  · exact ⟨1, by omega, h1⟩
  by_cases h2 : 0 < s.b2
  · exact ⟨2, by omega, h2⟩
  · exact ⟨3, by omega, by show 0 < s.b3; omega⟩
theorem bact_ok {R : Nat} {N C : List Int} (hv : Vw R N C) {s : Sp} (ho : OKs R s) (hf : Fit C s) (hn : s.cnt ≠ 0) :
    -1 ≤ bact R N C s ∧ bact R N C s < C.length ∧ canS s (bact R N C s) = true ∧ bst btm R N C s = bgt R N C s (bact R N C s) + bst btm R N C (nxt R N C s (bact R N C s)) := by
  have h := bst_eq (bt := btm) hv ho
  unfold bact
  rcases hc : ch btm (bst btm R N C) R N C s with _ | ⟨a, v⟩
  · obtain ⟨k, hk3, hk⟩ := get_pos hn
    have hkC : k < C.length := by
      by_cases hh : k < C.length
      · exact hh
      · have := hf k (by omega) hk3; omega
    have h2 := (look_none _ _ hc).2 (k : Int) (down_has _ _ (by omega) (by omega))
    unfold canS at h2
    rw [if_neg (by omega)] at h2
    simp at h2; omega
  · rw [hc] at h
    obtain ⟨h1, h2, h3⟩ := look_some _ none (fun a v e => by cases e) a v hc
    rcases h3 with h3 | h3
    · have := down_mem _ _ h3
      exact ⟨by show -1 ≤ a; omega, by show a < _; omega, h1, by rw [h]; exact h2⟩
    · cases h3
theorem dec_get_le (s : Sp) (a : Int) (k : Int) : (s.dec a).get k ≤ s.get k := by
  unfold Sp.dec Sp.get
  repeat' split
  all_goals (first | exact Nat.le_refl _ | exact Nat.sub_le _ _)
theorem fit_nxt {R : Nat} {N C : List Int} {s : Sp} (hf : Fit C s) (a : Int) : Fit C (nxt R N C s a) := fun k h1 h2 => by
  have h := hf k h1 h2
  by_cases e : a = -1
  · subst e; rw [nxt_sel]; exact h
  · rw [nxt_coin _ _ _ _ _ e]
    have := dec_get_le s a (k : Int)
    have h3 : (s.dec a).get (k : Int) = 0 := by omega
    exact h3

theorem cell_grown (w : World) (a : Addr) (v : Value) : w.grownBy (w.setCell a v) (some a.block) :=
  ⟨rfl, rfl, rfl, by simp, fun k _ hk => heap_setCell_other w a k v (fun e => hk (by simp [e]))⟩
theorem gr_set {w a : World} {r : Option Nat} (h : w.grownBy a r) {p : Addr} (hp : w.heap.size ≤ p.block) (v : Value) : w.grownBy (a.setCell p v) r := by
  have hs := cell_grown a p v
  exact ⟨hs.os.trans h.os, hs.tape.trans h.tape, hs.output.trans h.output, Nat.le_trans h.size hs.size, fun k hk hn => (hs.block k (Nat.lt_of_lt_of_le hk h.size) (fun e => by cases e; omega)).trans (h.block k hk hn)⟩
theorem gr_own {w a b : World} {r r' : Option Nat} (h : w.grownBy a r) (hs : a.grownBy b r') (hr : ∀ k, r' = some k → w.heap.size ≤ k) : w.grownBy b r :=
  ⟨hs.os.trans h.os, hs.tape.trans h.tape, hs.output.trans h.output, Nat.le_trans h.size hs.size, fun k hk hn => (hs.block k (Nat.lt_of_lt_of_le hk h.size) (fun e => by have := hr k (by first | exact e | exact e.symm); omega)).trans (h.block k hk hn)⟩

theorem under92 : Try.prog.underlying 92 = some (.array 4 3) := by kernel_rfl
theorem run_part3 (xs : Array Value) (j : Nat) (k : IntKind) (x : Int) (h : xs[j]? = some (.int k x)) (w : World) : (part 3 xs j).run Try.prog w = .ok (.int k x) w := by
  obtain ⟨j0, hj, jz0, jz1, jz2⟩ := info_parts info3
  unfold part
  simp [go_sem, sizeOf, typeInfo, hj, jz1, h]
theorem eqItems_step (d : Nat) (xs ys : Array Value) (i : Nat) (is : List Nat) (x y : Int) (hx : xs[i]? = some (.int .i64 x)) (hy : ys[i]? = some (.int .i64 y)) (w : World) :
    (Op.eqItems (d + 1) 3 1 xs ys (i :: is)).run Try.prog w = if x = y then (Op.eqItems (d + 1) 3 1 xs ys is).run Try.prog w else .ok false w := by
  simp only [Op.eqItems, Sem.run_bind, Nat.mul_one, run_part3 xs i .i64 x hx, run_part3 ys i .i64 y hy, Result.andThen_ok, run_equalIn_int w d 3 .i64 .i64 x y Try.underlying3]
  by_cases h : x = y
  · subst h
    rw [if_pos rfl]; simp
  · have : (x == y) = false := by simp [h]
    rw [if_neg h, this]; simp
theorem bag_eq (b0 b1 b2 b3 : Nat) (w : World) : (Op.equalIn 10000 92 (.agg #[.int .i64 b0, .int .i64 b1, .int .i64 b2, .int .i64 b3]) (.agg #[.int .i64 0, .int .i64 0, .int .i64 0, .int .i64 0])).run Try.prog w = .ok (decide (b0 + b1 + b2 + b3 = 0)) w := by
  obtain ⟨j0, hj, jz0, jz1, jz2⟩ := info_parts info3
  rw [show (10000 : Nat) = 9998 + 1 + 1 from rfl, run_equalIn_array w (9998 + 1) _ _ under92 hj]
  have hr : List.range 4 = [0, 1, 2, 3] := rfl
  rw [hr, show Try.prog.cellsOf 3 = 1 by kernel_rfl]
  rw [eqItems_step 9998 _ _ 0 _ (b0 : Int) 0 rfl rfl, eqItems_step 9998 _ _ 1 _ (b1 : Int) 0 rfl rfl, eqItems_step 9998 _ _ 2 _ (b2 : Int) 0 rfl rfl, eqItems_step 9998 _ _ 3 _ (b3 : Int) 0 rfl rfl]
  have he : (Op.eqItems (9998 + 1) 3 1 #[.int .i64 (b0 : Int), .int .i64 b1, .int .i64 b2, .int .i64 b3] #[.int .i64 0, .int .i64 0, .int .i64 0, .int .i64 0] []).run Try.prog w = .ok true w := by simp [Op.eqItems]
  rw [he]
  by_cases h0 : (b0 : Int) = 0
  · by_cases h1 : (b1 : Int) = 0
    · by_cases h2 : (b2 : Int) = 0
      · by_cases h3 : (b3 : Int) = 0
        · rw [if_pos h0, if_pos h1, if_pos h2, if_pos h3, decide_eq_true (by omega)]
        · rw [if_pos h0, if_pos h1, if_pos h2, if_neg h3, decide_eq_false (by omega)]
      · rw [if_pos h0, if_pos h1, if_neg h2, decide_eq_false (by omega)]
    · rw [if_pos h0, if_neg h1, decide_eq_false (by omega)]
  · rw [if_neg h0, decide_eq_false (by omega)]

def WayPost (mb : Nat) (l : List Int) (w : World) (e : Ending) (w' : World) : Prop :=
  w.grownBy w' (some mb) ∧ ∃ (a : Option Addr) (ca : Nat), e = .returned (.slice a l.length ca) ∧ Ints w' a l
end Go.Proofs.Ytmkmnedojgigoaa
namespace Go.Proofs.Ytmkmnedojgigoaa
open Go.RowKit

theorem gr_trans' {a b c : World} {r : Option Nat} (h : a.grownBy b r) (k : b.grownBy c r) : a.grownBy c r := h.trans k
def wlen : Value → Nat
  | .slice _ n _ => n
  | _ => 0
theorem own_sl {w : World} {base size : Nat} {e : TypeId} {v : Value} {n : Nat} {xs : List Value} (h : w.ownsRow base e size v n xs) : ∃ a c, v = .slice a n c := by
  rcases h.2 with ⟨rfl, hz⟩ | ⟨g, cap, cur, rfl, _⟩
  · exact ⟨none, 0, by rw [hz]⟩
  · exact ⟨_, _, rfl⟩
theorem wlen_slice (a : Option Addr) (n c : Nat) : wlen (.slice a n c) = n := rfl
theorem set6_grown (W : World) (g : Nat) (v0 v1 v2 v3 v4 v5 : Value) : W.grownBy ((((((W.setCell ⟨g, 0, none⟩ v0).setCell ⟨g, 1, none⟩ v1).setCell ⟨g, 2, none⟩ v2).setCell ⟨g, 3, none⟩ v3).setCell ⟨g, 4, none⟩ v4).setCell ⟨g, 5, none⟩ v5) (some g) :=
  ((((cell_grown W ⟨g, 0, none⟩ v0).trans (cell_grown _ ⟨g, 1, none⟩ v1)).trans (cell_grown _ ⟨g, 2, none⟩ v2)).trans (cell_grown _ ⟨g, 3, none⟩ v3)).trans (cell_grown _ ⟨g, 4, none⟩ v4) |>.trans (cell_grown _ ⟨g, 5, none⟩ v5)
theorem wayF_done (R : Nat) (N C : List Int) {s : Sp} (h : s.cnt = 0) : ∀ n, wayF R N C n s = []
  | 0 => rfl
  | n + 1 => by rw [wayF, if_pos h]
theorem OwnM.gro {w w' : World} {mb k : Nat} {D : DataW Unit} {r : Option Nat} (h : OwnM w mb k D) (hg : w.grownBy w' r) (hne : r ≠ some mb) : OwnM w' mb k D :=
  World.ownsMap.kept h (row := r) hg (by first | exact hne | exact fun e => hne e.symm | exact fun e => hne e)
theorem own_block_ne {w : World} {base : Nat} {e : TypeId} {v : Value} {n : Nat} {xs : List Value} (h : w.ownsRow base e 1 v n xs) {mb : Nat} (hm : mb < base) : v.ownBlock = none ∨ v.ownBlock ≠ some mb :=
  .inr (fun hh => by have := (h.lt _ hh).1; omega)

set_option maxRecDepth 100000 in
set_option maxHeartbeats 3000000 in
theorem way_any (R : Nat) (an ac ap : Option Addr) (cn cc cp : Nat) (N C P : List Int) (mb : Nat) (s0 : Sp) (w : World) (D : DataW Unit) (k : Nat) (hk : Wk w R an ac ap N C P) (hoff : OffW mb an ac ap N C P) (hown : OwnM w mb k D) (hmem : MemoB btm R N C D) (hkb : k ≤ 100000000000000000) (hsum : s0.cnt ≤ 12) (hp : s0.p = 0) (hc0 : s0.c = 0) (hfit : Fit C s0) :
    Calls Try.prog 81 #[.agg #[.int .i64 (R : Int), .slice an N.length cn, .slice ac C.length cc, .slice ap P.length cp, .func (.func 75) #[] #[], .map (some mb)], .agg #[.int .i64 s0.b0, .int .i64 s0.b1, .int .i64 s0.b2, .int .i64 s0.b3]] w (WayPost mb (wayF R N C 30 s0) w) := by
  obtain ⟨j0, hj, jz0, jz1, jz2⟩ := info_parts info3
  have hv := hk.v
  have r1 := hv.r1
  have hmlt := hown.lt
  have ho0 : OKs R s0 := ⟨by omega, hsum, by omega⟩
  have hmu0 : mu s0 ≤ 24 := by unfold mu; rw [hp]; simp; omega
  obtain ⟨W, hW, hbw, hs, x0, x1⟩ := boxes2 w #[.int .i64 (R : Int), .slice an N.length cn, .slice ac C.length cc, .slice ap P.length cp, .func (.func 75) #[] #[], .map (some mb)] 90 #[.int .i64 s0.b0, .int .i64 s0.b1, .int .i64 s0.b2, .int .i64 s0.b3] 92
  replace hown := hown.gr hbw
  have hg := Below.gr hbw mb
  have Hs := hid hs
  clear hbw hs
  have c0 := x1.cell 0 rfl; have c1 := x1.cell 1 rfl; have c2 := x1.cell 2 rfl; have c3 := x1.cell 3 rfl
  go_enter Try.func81, Try.ntmps81
  go_upto_region 3 with fail
  obtain ⟨W1, hW1, hb1, hs1, xg⟩ := boxes1 W #[.int .i64 s0.b0, .int .i64 s0.b1, .int .i64 s0.b2, .int .i64 s0.b3, .int .i64 0, .int .i64 0] 121
  rw [hW1]
  clear hW hW1 c0 c1 c2 c3 x1
  obtain ⟨g, hgW⟩ : ∃ x, x = W.heap.size := ⟨_, rfl⟩
  rw [← hgW] at xg ⊢
  have hgb : w.heap.size + 1 < g := by have := Hs.out; omega
  replace x0 := x0.below hb1
  replace hown := hown.gr hb1
  replace hg := gr_trans' hg (Below.gr hb1 mb)
  clear hb1 hs1 hgW Hs
  go_loopw [5] (fun v5 wr => ∃ (s : Sp) (l : List Int) (D' : DataW Unit) (k' : Nat), OKs R s ∧ Fit C s ∧ wr.ownsRow (g + 1) 3 1 v5 l.length (l.map (Value.int .i64)) ∧ l.length + mu s ≤ 24 ∧ wayF R N C 30 s0 = l ++ wayF R N C (30 - l.length) s ∧ (∀ x ∈ l, -1 ≤ x ∧ x ≤ 4) ∧ w.grownBy wr (some mb) ∧ g < wr.heap.size ∧ Bx wr w.heap.size #[.int .i64 (R : Int), .slice an N.length cn, .slice ac C.length cc, .slice ap P.length cp, .func (.func 75) #[] #[], .map (some mb)] 90 ∧ Bx wr g #[.int .i64 s.b0, .int .i64 s.b1, .int .i64 s.b2, .int .i64 s.b3, .int .i64 s.p, .int .i64 s.c] 121 ∧ OwnM wr mb k' D' ∧ MemoB btm R N C D' ∧ k' ≤ k + (l.length + 1) * 2000000000000) (fun v5 _ => 25 - wlen v5)
  case atStart =>
    refine ⟨s0, [], D, k, ho0, hfit, World.ownsRow_nil _ _ _ _, by simpa using hmu0, rfl, fun x hx => by simp at hx, hg, xg.lt, x0, by rw [hp, hc0]; exact xg, hown, hmem, by omega⟩
  case round =>
    clear hown hg x0 xg hmem
    obtain ⟨s, l, D', k', hos, hfs, hrow, hmu, hway, hlr, hg, hgs, x0, xg, hown, hmem, hk'⟩ := hrel
    have hcn := hos.n
    have hcc := hos.c
    have hpp := hos.p
    have c0 := xg.cell 0 rfl; have c1 := xg.cell 1 rfl; have c2 := xg.cell 2 rfl; have c3 := xg.cell 3 rfl; have c4 := xg.cell 4 rfl; have c5 := xg.cell 5 rfl
    by_cases hz : s.cnt = 0
    · have hE := fun w => bag_eq s.b0 s.b1 s.b2 s.b3 w
      rw [decide_eq_true (show s.b0 + s.b1 + s.b2 + s.b3 = 0 from hz)] at hE
      have hfin : wayF R N C 30 s0 = l := by rw [hway, wayF_done R N C hz, List.append_nil]
      have Hfin := hid hfin
      obtain ⟨a, ca, rfl, hi⟩ := Ints.of_own hrow (by omega) (fun x hx => by have := hlr x hx; omega)
      clear hway hfin hrow hlr hmu
      go_wp2
      go_ret
      exact ⟨hg, a, ca, by rw [Hfin.out]; rfl, by rw [Hfin.out]; exact hi⟩
    · have hE := fun w => bag_eq s.b0 s.b1 s.b2 s.b3 w
      rw [decide_eq_false (show ¬ s.b0 + s.b1 + s.b2 + s.b3 = 0 from hz)] at hE
      have hb := bact_ok hv hos hfs hz
      have hnx := nxt_ok hv hos hb.2.2.1
      have hkr := hk.gr hg hoff
      have hBd := Bd_le hos
      obtain ⟨m, hm⟩ : ∃ m, 30 - l.length = m + 1 := ⟨29 - l.length, by omega⟩
      have hw2 : wayF R N C 30 s0 = (l ++ [bact R N C s]) ++ wayF R N C (30 - (l ++ [bact R N C s]).length) (nxt R N C s (bact R N C s)) := by
        rw [hway, hm, wayF, if_neg hz, List.length_append, List.length_singleton, show 30 - (l.length + 1) = m by omega]; simp
      have hch : stA (ch btm (bst btm R N C) R N C s) = bact R N C s := rfl
      obtain ⟨a, ha⟩ : ∃ a, a = bact R N C s := ⟨_, rfl⟩
      rw [← ha] at hb hnx hw2 hch
      have Hch := hid hch; have Hw2 := hid hw2; have Hnx := hid hnx
      obtain ⟨hb1, hb2, hb3, _⟩ := hb
      have hc4 := hv.c4
      obtain ⟨a9, k9, rfl⟩ := own_sl hrow
      have Hz := hid hz
      clear ha hch hw2 hnx hway hm hz
      obtain ⟨n, hn⟩ : ∃ n, n = l.length := ⟨_, rfl⟩
      rw [← hn] at hrow hmu hk' ⊢
      have Hn := hid hn; clear hn
      have d0 := x0.cell 0 rfl; have d1 := x0.cell 1 rfl; have d2 := x0.cell 2 rfl; have d3 := x0.cell 3 rfl; have d4 := x0.cell 4 rfl; have d5 := x0.cell 5 rfl
      go_wp2_with fail
      refine (choose_75 (mu s) (best_75_all (mu s)) R an ac ap cn cc cp N C P mb s _ D' k' (Nat.lt_succ_self _) hos hkr hoff hown hmem (by omega)).mono ?_
      rintro e W2 ⟨rfl, D2, k2, hg2, hown2, hmem2, hk2⟩
      rw [Hch.out]
      replace x0 := x0.gr hg2 (by omega); replace xg := xg.gr hg2 (by omega)
      replace hrow := hrow.kept hg2 (own_block_ne hrow (by omega))
      replace hkr := hkr.gr hg2 hoff
      replace hg := gr_trans' hg hg2
      have hgs2 := xg.lt
      clear hown hmem hg2 c0 c1 c2 c3 c4 c5 d0 d1 d2 d3 d4 d5 hE
      go_upto_region 6 with (first | (at_builtin; go_must (refine wpList_append_own _ rfl _ _ 22 rfl (g + 1) 3 j0 (.int .i64 0) 1 8 under22 hj jz0 jz1 jz2 rfl (by decide) _ _ _ rfl (hrow.alloc _) ⟨W2.heap.size, 0, none⟩ 1 1 [.int .i64 a] rfl rfl (cell_one_new _ _ _) (ints_oneCell .i64 [a]) (by unfold maxLen; omega) (by omega) (by simp; omega) ?_); intro v' W3 hrow3 hgr3 _))
      have hge := own_ge hrow
      have hb4 := below_one (w := W2) (.cells #[.int .i64 a] 3)
      have hown3 := (hown2.gr hb4).gro hgr3 (fun e => by have := hge mb e; omega)
      have x3 := (x0.below hb4).gb hgr3 (fun k hk => by have := hge k hk; omega)
      have xg3 := (xg.below hb4).gb hgr3 (fun k hk => by have := hge k hk; omega)
      have hg3 := gr_own (gr_trans' hg (Below.gr hb4 mb)) hgr3 (fun k hk => by have := hge k hk; omega)
      have hk3 := hk.gr hg3 hoff
      obtain ⟨a8, k8, rfl⟩ := own_sl hrow3
      clear hown2 hge hb4 x0 xg hg hkr hrow hgr3
      have d0 := x3.cell 0 rfl; have d1 := x3.cell 1 rfl; have d2 := x3.cell 2 rfl; have d3 := x3.cell 3 rfl; have d4 := x3.cell 4 rfl; have d5 := x3.cell 5 rfl
      have c0 := xg3.cell 0 rfl; have c1 := xg3.cell 1 rfl; have c2 := xg3.cell 2 rfl; have c3 := xg3.cell 3 rfl; have c4 := xg3.cell 4 rfl; have c5 := xg3.cell 5 rfl
      go_wp2_with fail
      refine (next_any R an ac ap cn cc cp N C P (.func (.func 75) #[] #[]) mb s a _ hk3 hos hb1 hb2 hb3).mono ?_
      rintro e W6 ⟨rfl, hb5⟩
      replace x3 := x3.below hb5
      replace xg3 := xg3.below hb5
      replace hrow3 := own_below hrow3 hb5
      replace hown3 := hown3.gr hb5
      replace hg3 := gr_trans' hg3 (Below.gr hb5 mb)
      clear hb5 hk3 c0 c1 c2 c3 c4 c5 d0 d1 d2 d3 d4 d5
      obtain ⟨s', hs'⟩ : ∃ x, x = nxt R N C s a := ⟨_, rfl⟩
      rw [← hs']
      have Hs' := hid hs'; clear hs'
      have hlg := xg3.lt
      have hst : ∃ Y, ((((((W6.setCell ⟨g, 0, none⟩ (.int .i64 s'.b0)).setCell ⟨g, 1, none⟩ (.int .i64 s'.b1)).setCell ⟨g, 2, none⟩ (.int .i64 s'.b2)).setCell ⟨g, 3, none⟩ (.int .i64 s'.b3)).setCell ⟨g, 4, none⟩ (.int .i64 s'.p)).setCell ⟨g, 5, none⟩ (.int .i64 s'.c)) = Y ∧
          Bx Y g #[.int .i64 s'.b0, .int .i64 s'.b1, .int .i64 s'.b2, .int .i64 s'.b3, .int .i64 s'.p, .int .i64 s'.c] 121 ∧ W6.grownBy Y (some g) := ⟨_, rfl, Bx.set6 xg3 _ _ _ _ _ _, set6_grown W6 g _ _ _ _ _ _⟩
      obtain ⟨Y, hY, yg, hgY⟩ := hst
      have y0 := x3.gr hgY (by omega)
      have hownY := hown3.gro hgY (fun e => by cases e; omega)
      have hrowY := hrow3.kept hgY (.inr (fun e => by have := (hrow3.lt _ e).1; omega))
      have hgY2 := gr_own hg3 hgY (fun k hk => by cases hk; omega)
      have hgs3 := yg.lt
      have f0 := xg3.free 0; have f1 := xg3.free 1; have f2 := xg3.free 2; have f3 := xg3.free 3; have f4 := xg3.free 4; have f5 := xg3.free 5
      have c0 := xg3.cell 0 rfl; have c1 := xg3.cell 1 rfl; have c2 := xg3.cell 2 rfl; have c3 := xg3.cell 3 rfl; have c4 := xg3.cell 4 rfl; have c5 := xg3.cell 5 rfl
      clear hown3 hrow3 hg3 x3 hgY
      go_wp2_with fail
      clear hY f0 f1 f2 f3 f4 f5 c0 c1 c2 c3 c4 c5 xg3
      go_roundw
      case rel =>
        refine ⟨s', l ++ [a], D2, k2, by rw [Hs'.out]; exact Hnx.out.1, by rw [Hs'.out]; exact fit_nxt hfs a, by rw [List.length_append, List.length_singleton, ← Hn.out, List.map_append]; exact hrowY, by rw [List.length_append, List.length_singleton, ← Hn.out]; have := Hnx.out.2; rw [← Hs'.out] at this; omega, by rw [Hs'.out]; exact Hw2.out, fun x hx => ?_, hgY2, hgs3, y0, yg, hownY, hmem2, by rw [List.length_append, List.length_singleton, ← Hn.out]; omega⟩
        rcases List.mem_append.1 hx with h | h
        · exact hlr x h
        · rw [List.mem_singleton.1 h]; omega
      case measure => simp [wlen]; omega
end Go.Proofs.Ytmkmnedojgigoaa
