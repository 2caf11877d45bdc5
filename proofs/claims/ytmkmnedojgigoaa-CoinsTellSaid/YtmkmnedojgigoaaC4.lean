import Derived.Test.YtmkmnedojgigoaaC3
import Derived.Maps.AppendAt
namespace Go.Proofs.Ytmkmnedojgigoaa
open Go.RowKit

def btm (a b : Nat) : Bool := decide (b < a)
def btf (a b : Nat) : Bool := decide (a < b)
theorem more_nat (a b : Nat) (w : World) : Calls Try.prog 75 #[.int .i64 a, .int .i64 b] w fun e w' => e = .returned (.bool (btm a b)) ∧ w = w' :=
  (more_any a b w).mono fun _ _ h => by simpa [btm] using h
theorem fewer_nat (a b : Nat) (w : World) : Calls Try.prog 78 #[.int .i64 a, .int .i64 b] w fun e w' => e = .returned (.bool (btf a b)) ∧ w = w' :=
  (fewer_any a b w).mono fun _ _ h => by simpa [btf] using h

def MemoB (bt : Nat → Nat → Bool) (R : Nat) (N C : List Int) (D : DataW Unit) : Prop := ∀ (s : Sp) (l : Lit), OKs R s → keyOf Try.prog 121 (.agg #[.int .i64 s.b0, .int .i64 s.b1, .int .i64 s.b2, .int .i64 s.b3, .int .i64 s.p, .int .i64 s.c]) = some l → Go.Maps.has D l = true → D.atKey l (.lit (.int .i64 0)) = .lit (.int .i64 (bst bt R N C s))
def OwnM (w : World) (mb k : Nat) (D : DataW Unit) : Prop := w.ownsMap Try.prog 121 (plainElem Try.prog 3) mb k D
def BPost (bt : Nat → Nat → Bool) (R : Nat) (N C : List Int) (mb k : Nat) (w : World) (v : Value) (B : Nat) (e : Ending) (w' : World) : Prop :=
  e = .returned v ∧ ∃ D k', w.grownBy w' (some mb) ∧ OwnM w' mb k' D ∧ MemoB bt R N C D ∧ k' ≤ k + B
def OffW (mb : Nat) (an ac ap : Option Addr) (N C P : List Int) : Prop := Off mb an N.length ∧ Off mb ac C.length ∧ Off mb ap P.length

theorem OwnM.gr {w w' : World} {mb k : Nat} {D : DataW Unit} (h : OwnM w mb k D) (hb : Below w.heap.size w w') : OwnM w' mb k D :=
  World.ownsMap.kept h (row := none) ⟨hb.os, hb.tape, hb.output, hb.size, fun j hj _ => hb.block j hj⟩ (by simp)
theorem OwnM.lt {w : World} {mb k : Nat} {D : DataW Unit} (h : OwnM w mb k D) : mb < w.heap.size := World.ownsMap.lt h

def BestSaid (F : Nat) (bt : Nat → Nat → Bool) (n : Nat) : Prop := ∀ (R : Nat) (an ac ap : Option Addr) (cn cc cp : Nat) (N C P : List Int) (mb : Nat) (s : Sp) (w : World) (D : DataW Unit) (k : Nat), mu s < n → OKs R s → Wk w R an ac ap N C P → OffW mb an ac ap N C P → OwnM w mb k D → MemoB bt R N C D → k + Bd s ≤ 1000000000000000000 →
  Calls Try.prog 99 #[.agg #[.int .i64 (R : Int), .slice an N.length cn, .slice ac C.length cc, .slice ap P.length cp, .func (.func F) #[] #[], .map (some mb)], .agg #[.int .i64 s.b0, .int .i64 s.b1, .int .i64 s.b2, .int .i64 s.b3, .int .i64 s.p, .int .i64 s.c]] w (BPost bt R N C mb k w (.int .i64 (bst bt R N C s)) (Bd s))
def ChooseSaid (F : Nat) (bt : Nat → Nat → Bool) (n : Nat) : Prop := ∀ (R : Nat) (an ac ap : Option Addr) (cn cc cp : Nat) (N C P : List Int) (mb : Nat) (s : Sp) (w : World) (D : DataW Unit) (k : Nat), mu s < n + 1 → OKs R s → Wk w R an ac ap N C P → OffW mb an ac ap N C P → OwnM w mb k D → MemoB bt R N C D → k + Bd s ≤ 1000000000000000000 →
  Calls Try.prog 103 #[.agg #[.int .i64 (R : Int), .slice an N.length cn, .slice ac C.length cc, .slice ap P.length cp, .func (.func F) #[] #[], .map (some mb)], .agg #[.int .i64 s.b0, .int .i64 s.b1, .int .i64 s.b2, .int .i64 s.b3, .int .i64 s.p, .int .i64 s.c]] w (BPost bt R N C mb k w (.tuple #[.int .i64 (stA (ch bt (bst bt R N C) R N C s)), .int .i64 (bst bt R N C s)]) (Bd s - 1))

def cB (s : Sp) (m : Nat) : Nat := if m = 0 then Bd s - 1 else (5 - m) * Bm s

theorem ex_a (m : Nat) : ∃ a : Int, a + 2 = m := ⟨(m : Int) - 2, by omega⟩

theorem down_succ (m : Nat) (a : Int) (h : a + 2 = ((m + 1 : Nat) : Int)) : down (m + 1) = a :: down m := by
  show ((m : Int) - 1) :: down m = _
  rw [show (m : Int) - 1 = a by omega]
theorem look_no {bt : Nat → Nat → Bool} {f : Sp → Nat} {R : Nat} {N C : List Int} {s : Sp} {st : Option (Int × Nat)} {a : Int} (h : canS s a = false) : look bt f R N C s st a = st := by simp [look, h]
theorem cB_no (s : Sp) (m : Nat) (h : m ≤ 4) : cB s (m + 1) ≤ cB s m := by
  unfold cB
  rw [if_neg (by omega)]
  split
  · subst m; show 4 * Bm s ≤ _; unfold Bd; split <;> omega
  · exact Nat.mul_le_mul_right _ (by omega)
theorem cB_go {R : Nat} {N C : List Int} {s : Sp} {m : Nat} {a : Int} (h : m ≤ 4) (ha : a + 2 = ((m + 1 : Nat) : Int)) (hc : canS s a = true) : cB s (m + 1) + Bd (nxt R N C s a) ≤ cB s m := by
  unfold cB
  rw [if_neg (by omega)]
  split
  · subst m
    have : a = -1 := by omega
    subst this
    have := Bd_sel (R := R) (N := N) (C := C) hc
    show 4 * Bm s + _ ≤ _
    omega
  · have := Bd_coin (R := R) (N := N) (C := C) (show a ≠ -1 by omega) hc
    have e : (5 - m) * Bm s = (5 - (m + 1)) * Bm s + Bm s := by rw [show 5 - m = (5 - (m + 1)) + 1 by omega, Nat.succ_mul]
    omega
theorem cB_le {R : Nat} {s : Sp} (_ho : OKs R s) (m : Nat) (h : m ≤ 5) : cB s m ≤ Bd s - 1 := by
  unfold cB
  split
  · omega
  · have : (5 - m) * Bm s ≤ 4 * Bm s := Nat.mul_le_mul_right _ (by omega)
    unfold Bd; split <;> omega


set_option maxRecDepth 100000 in
set_option maxHeartbeats 1000000 in
theorem choose_75 (n : Nat) (ih : BestSaid 75 btm n) : ChooseSaid 75 btm n := by
  intro R an ac ap cn cc cp N C P mb s w D k hmu ho hk hoff hown hmem hkb
  have c4 := hk.v.c4
  obtain ⟨W, hW, hbw, hs, x0, x1⟩ := boxes2 w #[.int .i64 (R : Int), .slice an N.length cn, .slice ac C.length cc, .slice ap P.length cp, .func (.func 75) #[] #[], .map (some mb)] 90 #[.int .i64 s.b0, .int .i64 s.b1, .int .i64 s.b2, .int .i64 s.b3, .int .i64 s.p, .int .i64 s.c] 121
  have hlm := hown.lt
  replace hown := hown.gr hbw
  replace hk := hk.below hbw (Nat.le_refl _)
  have hg := Below.gr hbw mb
  have n0 : w.heap.size ≠ mb := by omega
  have n1 : w.heap.size + 1 ≠ mb := by omega
  clear hs hbw
  have c0 := x0.cell 0 rfl; have c1 := x0.cell 1 rfl; have c2 := x0.cell 2 rfl; have c3 := x0.cell 3 rfl; have c4 := x0.cell 4 rfl; have c5 := x0.cell 5 rfl
  go_enter Try.func103, Try.ntmps103
  go_wp2
  go_loopw [4, 5, 6, 7] (fun v4 v5 v6 v7 wr => ∃ (m : Nat) (a : Int) (st : Option (Int × Nat)) (D' : DataW Unit) (k' : Nat), a + 2 = m ∧ m ≤ C.length + 1 ∧ v7 = .int .i64 a ∧ v4 = .int .i64 (stA st) ∧ v5 = .int .i64 (stV st) ∧ v6 = .bool st.isSome ∧ w.grownBy wr (some mb) ∧
      Wk wr R an ac ap N C P ∧ Bx wr w.heap.size #[.int .i64 (R : Int), .slice an N.length cn, .slice ac C.length cc, .slice ap P.length cp, .func (.func 75) #[] #[], .map (some mb)] 90 ∧ Bx wr (w.heap.size + 1) #[.int .i64 s.b0, .int .i64 s.b1, .int .i64 s.b2, .int .i64 s.b3, .int .i64 s.p, .int .i64 s.c] 121 ∧ OwnM wr mb k' D' ∧ MemoB btm R N C D' ∧ k' ≤ k + cB s m ∧
      (down m).foldl (look btm (bst btm R N C) R N C s) st = ch btm (bst btm R N C) R N C s ∧ stV st ≤ 100000) (fun _ _ _ v7 _ => (intOf v7 + 2).toNat)
  case atStart =>
    refine ⟨C.length + 1, (C.length : Int) - 1, none, D, k, by omega, Nat.le_refl _, rfl, rfl, rfl, rfl, hg, hk, x0, x1, hown, hmem, ?_, rfl, by simp [stV]⟩
    unfold cB
    omega
  case round =>
    clear hown hmem x0 x1 c0 c1 c2 c3 c4 c5 hk hg hW
    obtain ⟨m, a, st, D', k', ham, hm, rfl, rfl, rfl, rfl, hg, hk, x0, x1, hown, hmem, hkk, hfold, hst⟩ := hrel
    have Hf := hid hfold; clear hfold
    have hv := hk.v
    have c4' := hv.c4
    have c0 := x0.cell 0 rfl; have c1 := x0.cell 1 rfl; have c2 := x0.cell 2 rfl; have c3 := x0.cell 3 rfl; have c4 := x0.cell 4 rfl; have c5 := x0.cell 5 rfl; have d0 := x1.cell 0 rfl; have d1 := x1.cell 1 rfl; have d2 := x1.cell 2 rfl; have d3 := x1.cell 3 rfl; have d4 := x1.cell 4 rfl; have d5 := x1.cell 5 rfl
    cases m with
    | zero =>
      have ea : ¬ (-1 : Int) ≤ a := by omega
      have e : st = ch btm (bst btm R N C) R N C s := Hf.out
      have E := hid e
      clear e Hf
      go_wp2
      go_ret2
      exact ⟨by rw [bst_eq hv ho, ← E.out]; rfl, D', k', hg, hown, hmem, by simpa [cB] using hkk⟩
    | succ m =>
      have ea : (-1 : Int) ≤ a := by omega
      have ha2 : a < (C.length : Int) := by omega
      rw [down_succ m a ham, List.foldl_cons] at Hf
      cases hcan : canS s a
      · rw [look_no hcan] at Hf
        go_wp2_with fail
        refine (can_any _ _ _ _ _ _ _ _ _ _ _ _ s a _ hv ea ha2).mono ?_
        rintro e W1 ⟨rfl, hb1⟩
        replace hg := hg.trans (Below.gr hb1 mb)
        replace hown := hown.gr hb1
        replace hk := hk.below hb1 (Nat.le_refl _); replace x0 := x0.below hb1; replace x1 := x1.below hb1; clear hb1
        clear c0 c1 c2 c3 c4 c5 d0 d1 d2 d3 d4 d5
        go_wp2
        go_roundw
        case rel => exact ⟨m, a - 1, st, D', k', by omega, by omega, by go_num, rfl, rfl, rfl, hg, hk, x0, x1, hown, hmem, Nat.le_trans hkk (Nat.add_le_add_left (cB_no s m (by omega)) _), Hf.out, hst⟩
        case measure => simp [intOf]; omega
      · have hnx := nxt_ok hv ho hcan
        have hbl := bgt_le hv ho ea ha2
        have hbs := bst_le (bt := btm) hv _ _ (Nat.lt_succ_self _) hnx.1
        have hnn := hnx.1.n
        have hcg := cB_go (R := R) (N := N) (C := C) (show m ≤ 4 by omega) ham hcan
        have hcl := cB_le ho m (by omega)
        go_wp2_with fail
        refine (can_any _ _ _ _ _ _ _ _ _ _ _ _ s a _ hv ea ha2).mono ?_
        rintro e W1 ⟨rfl, hb1⟩
        replace hg := hg.trans (Below.gr hb1 mb)
        replace hown := hown.gr hb1
        replace hk := hk.below hb1 (Nat.le_refl _); (try clear c0 c1 c2 c3 c4 c5); replace x0 := x0.below hb1; have c0 := x0.cell 0 rfl; have c1 := x0.cell 1 rfl; have c2 := x0.cell 2 rfl; have c3 := x0.cell 3 rfl; have c4 := x0.cell 4 rfl; have c5 := x0.cell 5 rfl; (try clear d0 d1 d2 d3 d4 d5); replace x1 := x1.below hb1; have d0 := x1.cell 0 rfl; have d1 := x1.cell 1 rfl; have d2 := x1.cell 2 rfl; have d3 := x1.cell 3 rfl; have d4 := x1.cell 4 rfl; have d5 := x1.cell 5 rfl; clear hb1
        go_wp2_with fail
        refine (next_any _ _ _ _ _ _ _ _ _ _ _ _ s a _ hk ho ea ha2 hcan).mono ?_
        rintro e W2 ⟨rfl, hb1⟩
        replace hg := hg.trans (Below.gr hb1 mb)
        replace hown := hown.gr hb1
        replace hk := hk.below hb1 (Nat.le_refl _); (try clear c0 c1 c2 c3 c4 c5); replace x0 := x0.below hb1; have c0 := x0.cell 0 rfl; have c1 := x0.cell 1 rfl; have c2 := x0.cell 2 rfl; have c3 := x0.cell 3 rfl; have c4 := x0.cell 4 rfl; have c5 := x0.cell 5 rfl; (try clear d0 d1 d2 d3 d4 d5); replace x1 := x1.below hb1; have d0 := x1.cell 0 rfl; have d1 := x1.cell 1 rfl; have d2 := x1.cell 2 rfl; have d3 := x1.cell 3 rfl; have d4 := x1.cell 4 rfl; have d5 := x1.cell 5 rfl; clear hb1
        have y := Bx.new W2 #[.int .i64 (nxt R N C s a).b0, .int .i64 (nxt R N C s a).b1, .int .i64 (nxt R N C s a).b2, .int .i64 (nxt R N C s a).b3, .int .i64 (nxt R N C s a).p, .int .i64 (nxt R N C s a).c] 121
        have hb1 := below_one (w := W2) (.cells #[.int .i64 (nxt R N C s a).b0, .int .i64 (nxt R N C s a).b1, .int .i64 (nxt R N C s a).b2, .int .i64 (nxt R N C s a).b3, .int .i64 (nxt R N C s a).p, .int .i64 (nxt R N C s a).c] 121)
        replace hg := hg.trans (Below.gr hb1 mb)
        replace hown := hown.gr hb1
        replace hk := hk.below hb1 (Nat.le_refl _); (try clear c0 c1 c2 c3 c4 c5); replace x0 := x0.below hb1; have c0 := x0.cell 0 rfl; have c1 := x0.cell 1 rfl; have c2 := x0.cell 2 rfl; have c3 := x0.cell 3 rfl; have c4 := x0.cell 4 rfl; have c5 := x0.cell 5 rfl; (try clear d0 d1 d2 d3 d4 d5); replace x1 := x1.below hb1; have d0 := x1.cell 0 rfl; have d1 := x1.cell 1 rfl; have d2 := x1.cell 2 rfl; have d3 := x1.cell 3 rfl; have d4 := x1.cell 4 rfl; have d5 := x1.cell 5 rfl; clear hb1
        go_wp2_with fail
        generalize World.alloc W2 _ = W3 at *
        refine (ih _ _ _ _ _ _ _ _ _ _ _ (nxt R N C s a) _ D' k' (by omega) hnx.1 hk hoff hown hmem (by omega)).mono ?_
        rintro e W4 ⟨rfl, D2, k2, hg2, hown2, hmem2, hk2⟩
        replace hk := hk.gr hg2 hoff
        replace x0 := x0.gr hg2 n0
        replace x1 := x1.gr hg2 n1
        replace hg := hg.trans hg2
        clear c0 c1 c2 c3 c4 c5 d0 d1 d2 d3 d4 d5 y hown hmem
        have c0 := x0.cell 0 rfl; have c1 := x0.cell 1 rfl; have c2 := x0.cell 2 rfl; have c3 := x0.cell 3 rfl; have c4 := x0.cell 4 rfl; have c5 := x0.cell 5 rfl
        have hst2 : bgt R N C s a + bst btm R N C (nxt R N C s a) ≤ 100000 := by omega
        cases st with
        | none =>
          go_wp2
          go_roundw
          case rel => exact ⟨m, a - 1, some (a, bgt R N C s a + bst btm R N C (nxt R N C s a)), D2, k2, by omega, by omega, by go_num, rfl, by go_num, rfl, hg, hk, x0, x1, hown2, hmem2, by omega, by have := Hf.out; simpa [look, hcan] using this, by show _ ≤ _; first | omega | (simp only [stV]; omega)⟩
          case measure => simp [intOf]; omega
        | some q =>
          obtain ⟨a0, v0⟩ := q
          simp only [stA, stV, Option.isSome_some] at *
          go_wp2_with fail
          have e9 : ((bgt R N C s a : Nat) : Int) + ((bst btm R N C (nxt R N C s a) : Nat) : Int) = ((bgt R N C s a + bst btm R N C (nxt R N C s a) : Nat) : Int) := by simp
          rw [e9]
          refine (more_nat _ v0 _).mono ?_
          rintro e W5 ⟨rfl, rfl⟩
          clear e9
          cases hbt : btm (bgt R N C s a + bst btm R N C (nxt R N C s a)) v0
          · go_wp2
            go_roundw
            case rel => exact ⟨m, a - 1, some (a0, v0), D2, k2, by omega, by omega, by go_num, rfl, by go_num, rfl, hg, hk, x0, x1, hown2, hmem2, by omega, by have := Hf.out; simpa [look, hcan, hbt] using this, by show _ ≤ _; first | omega | (simp only [stV]; omega)⟩
            case measure => simp [intOf]; omega
          · go_wp2
            go_roundw
            case rel => exact ⟨m, a - 1, some (a, bgt R N C s a + bst btm R N C (nxt R N C s a)), D2, k2, by omega, by omega, by go_num, rfl, by go_num, rfl, hg, hk, x0, x1, hown2, hmem2, by omega, by have := Hf.out; simpa [look, hcan, hbt] using this, by show _ ≤ _; first | omega | (simp only [stV]; omega)⟩
            case measure => simp [intOf]; omega

set_option maxRecDepth 100000 in
set_option maxHeartbeats 1000000 in
theorem choose_78 (n : Nat) (ih : BestSaid 78 btf n) : ChooseSaid 78 btf n := by
  intro R an ac ap cn cc cp N C P mb s w D k hmu ho hk hoff hown hmem hkb
  have c4 := hk.v.c4
  obtain ⟨W, hW, hbw, hs, x0, x1⟩ := boxes2 w #[.int .i64 (R : Int), .slice an N.length cn, .slice ac C.length cc, .slice ap P.length cp, .func (.func 78) #[] #[], .map (some mb)] 90 #[.int .i64 s.b0, .int .i64 s.b1, .int .i64 s.b2, .int .i64 s.b3, .int .i64 s.p, .int .i64 s.c] 121
  have hlm := hown.lt
  replace hown := hown.gr hbw
  replace hk := hk.below hbw (Nat.le_refl _)
  have hg := Below.gr hbw mb
  have n0 : w.heap.size ≠ mb := by omega
  have n1 : w.heap.size + 1 ≠ mb := by omega
  clear hs hbw
  have c0 := x0.cell 0 rfl; have c1 := x0.cell 1 rfl; have c2 := x0.cell 2 rfl; have c3 := x0.cell 3 rfl; have c4 := x0.cell 4 rfl; have c5 := x0.cell 5 rfl
  go_enter Try.func103, Try.ntmps103
  go_wp2
  go_loopw [4, 5, 6, 7] (fun v4 v5 v6 v7 wr => ∃ (m : Nat) (a : Int) (st : Option (Int × Nat)) (D' : DataW Unit) (k' : Nat), a + 2 = m ∧ m ≤ C.length + 1 ∧ v7 = .int .i64 a ∧ v4 = .int .i64 (stA st) ∧ v5 = .int .i64 (stV st) ∧ v6 = .bool st.isSome ∧ w.grownBy wr (some mb) ∧
      Wk wr R an ac ap N C P ∧ Bx wr w.heap.size #[.int .i64 (R : Int), .slice an N.length cn, .slice ac C.length cc, .slice ap P.length cp, .func (.func 78) #[] #[], .map (some mb)] 90 ∧ Bx wr (w.heap.size + 1) #[.int .i64 s.b0, .int .i64 s.b1, .int .i64 s.b2, .int .i64 s.b3, .int .i64 s.p, .int .i64 s.c] 121 ∧ OwnM wr mb k' D' ∧ MemoB btf R N C D' ∧ k' ≤ k + cB s m ∧
      (down m).foldl (look btf (bst btf R N C) R N C s) st = ch btf (bst btf R N C) R N C s ∧ stV st ≤ 100000) (fun _ _ _ v7 _ => (intOf v7 + 2).toNat)
  case atStart =>
    refine ⟨C.length + 1, (C.length : Int) - 1, none, D, k, by omega, Nat.le_refl _, rfl, rfl, rfl, rfl, hg, hk, x0, x1, hown, hmem, ?_, rfl, by simp [stV]⟩
    unfold cB
    omega
  case round =>
    clear hown hmem x0 x1 c0 c1 c2 c3 c4 c5 hk hg hW
    obtain ⟨m, a, st, D', k', ham, hm, rfl, rfl, rfl, rfl, hg, hk, x0, x1, hown, hmem, hkk, hfold, hst⟩ := hrel
    have Hf := hid hfold; clear hfold
    have hv := hk.v
    have c4' := hv.c4
    have c0 := x0.cell 0 rfl; have c1 := x0.cell 1 rfl; have c2 := x0.cell 2 rfl; have c3 := x0.cell 3 rfl; have c4 := x0.cell 4 rfl; have c5 := x0.cell 5 rfl; have d0 := x1.cell 0 rfl; have d1 := x1.cell 1 rfl; have d2 := x1.cell 2 rfl; have d3 := x1.cell 3 rfl; have d4 := x1.cell 4 rfl; have d5 := x1.cell 5 rfl
    cases m with
    | zero =>
      have ea : ¬ (-1 : Int) ≤ a := by omega
      have e : st = ch btf (bst btf R N C) R N C s := Hf.out
      have E := hid e
      clear e Hf
      go_wp2
      go_ret2
      exact ⟨by rw [bst_eq hv ho, ← E.out]; rfl, D', k', hg, hown, hmem, by simpa [cB] using hkk⟩
    | succ m =>
      have ea : (-1 : Int) ≤ a := by omega
      have ha2 : a < (C.length : Int) := by omega
      rw [down_succ m a ham, List.foldl_cons] at Hf
      cases hcan : canS s a
      · rw [look_no hcan] at Hf
        go_wp2_with fail
        refine (can_any _ _ _ _ _ _ _ _ _ _ _ _ s a _ hv ea ha2).mono ?_
        rintro e W1 ⟨rfl, hb1⟩
        replace hg := hg.trans (Below.gr hb1 mb)
        replace hown := hown.gr hb1
        replace hk := hk.below hb1 (Nat.le_refl _); replace x0 := x0.below hb1; replace x1 := x1.below hb1; clear hb1
        clear c0 c1 c2 c3 c4 c5 d0 d1 d2 d3 d4 d5
        go_wp2
        go_roundw
        case rel => exact ⟨m, a - 1, st, D', k', by omega, by omega, by go_num, rfl, rfl, rfl, hg, hk, x0, x1, hown, hmem, Nat.le_trans hkk (Nat.add_le_add_left (cB_no s m (by omega)) _), Hf.out, hst⟩
        case measure => simp [intOf]; omega
      · have hnx := nxt_ok hv ho hcan
        have hbl := bgt_le hv ho ea ha2
        have hbs := bst_le (bt := btf) hv _ _ (Nat.lt_succ_self _) hnx.1
        have hnn := hnx.1.n
        have hcg := cB_go (R := R) (N := N) (C := C) (show m ≤ 4 by omega) ham hcan
        have hcl := cB_le ho m (by omega)
        go_wp2_with fail
        refine (can_any _ _ _ _ _ _ _ _ _ _ _ _ s a _ hv ea ha2).mono ?_
        rintro e W1 ⟨rfl, hb1⟩
        replace hg := hg.trans (Below.gr hb1 mb)
        replace hown := hown.gr hb1
        replace hk := hk.below hb1 (Nat.le_refl _); (try clear c0 c1 c2 c3 c4 c5); replace x0 := x0.below hb1; have c0 := x0.cell 0 rfl; have c1 := x0.cell 1 rfl; have c2 := x0.cell 2 rfl; have c3 := x0.cell 3 rfl; have c4 := x0.cell 4 rfl; have c5 := x0.cell 5 rfl; (try clear d0 d1 d2 d3 d4 d5); replace x1 := x1.below hb1; have d0 := x1.cell 0 rfl; have d1 := x1.cell 1 rfl; have d2 := x1.cell 2 rfl; have d3 := x1.cell 3 rfl; have d4 := x1.cell 4 rfl; have d5 := x1.cell 5 rfl; clear hb1
        go_wp2_with fail
        refine (next_any _ _ _ _ _ _ _ _ _ _ _ _ s a _ hk ho ea ha2 hcan).mono ?_
        rintro e W2 ⟨rfl, hb1⟩
        replace hg := hg.trans (Below.gr hb1 mb)
        replace hown := hown.gr hb1
        replace hk := hk.below hb1 (Nat.le_refl _); (try clear c0 c1 c2 c3 c4 c5); replace x0 := x0.below hb1; have c0 := x0.cell 0 rfl; have c1 := x0.cell 1 rfl; have c2 := x0.cell 2 rfl; have c3 := x0.cell 3 rfl; have c4 := x0.cell 4 rfl; have c5 := x0.cell 5 rfl; (try clear d0 d1 d2 d3 d4 d5); replace x1 := x1.below hb1; have d0 := x1.cell 0 rfl; have d1 := x1.cell 1 rfl; have d2 := x1.cell 2 rfl; have d3 := x1.cell 3 rfl; have d4 := x1.cell 4 rfl; have d5 := x1.cell 5 rfl; clear hb1
        have y := Bx.new W2 #[.int .i64 (nxt R N C s a).b0, .int .i64 (nxt R N C s a).b1, .int .i64 (nxt R N C s a).b2, .int .i64 (nxt R N C s a).b3, .int .i64 (nxt R N C s a).p, .int .i64 (nxt R N C s a).c] 121
        have hb1 := below_one (w := W2) (.cells #[.int .i64 (nxt R N C s a).b0, .int .i64 (nxt R N C s a).b1, .int .i64 (nxt R N C s a).b2, .int .i64 (nxt R N C s a).b3, .int .i64 (nxt R N C s a).p, .int .i64 (nxt R N C s a).c] 121)
        replace hg := hg.trans (Below.gr hb1 mb)
        replace hown := hown.gr hb1
        replace hk := hk.below hb1 (Nat.le_refl _); (try clear c0 c1 c2 c3 c4 c5); replace x0 := x0.below hb1; have c0 := x0.cell 0 rfl; have c1 := x0.cell 1 rfl; have c2 := x0.cell 2 rfl; have c3 := x0.cell 3 rfl; have c4 := x0.cell 4 rfl; have c5 := x0.cell 5 rfl; (try clear d0 d1 d2 d3 d4 d5); replace x1 := x1.below hb1; have d0 := x1.cell 0 rfl; have d1 := x1.cell 1 rfl; have d2 := x1.cell 2 rfl; have d3 := x1.cell 3 rfl; have d4 := x1.cell 4 rfl; have d5 := x1.cell 5 rfl; clear hb1
        go_wp2_with fail
        generalize World.alloc W2 _ = W3 at *
        refine (ih _ _ _ _ _ _ _ _ _ _ _ (nxt R N C s a) _ D' k' (by omega) hnx.1 hk hoff hown hmem (by omega)).mono ?_
        rintro e W4 ⟨rfl, D2, k2, hg2, hown2, hmem2, hk2⟩
        replace hk := hk.gr hg2 hoff
        replace x0 := x0.gr hg2 n0
        replace x1 := x1.gr hg2 n1
        replace hg := hg.trans hg2
        clear c0 c1 c2 c3 c4 c5 d0 d1 d2 d3 d4 d5 y hown hmem
        have c0 := x0.cell 0 rfl; have c1 := x0.cell 1 rfl; have c2 := x0.cell 2 rfl; have c3 := x0.cell 3 rfl; have c4 := x0.cell 4 rfl; have c5 := x0.cell 5 rfl
        have hst2 : bgt R N C s a + bst btf R N C (nxt R N C s a) ≤ 100000 := by omega
        cases st with
        | none =>
          go_wp2
          go_roundw
          case rel => exact ⟨m, a - 1, some (a, bgt R N C s a + bst btf R N C (nxt R N C s a)), D2, k2, by omega, by omega, by go_num, rfl, by go_num, rfl, hg, hk, x0, x1, hown2, hmem2, by omega, by have := Hf.out; simpa [look, hcan] using this, by show _ ≤ _; first | omega | (simp only [stV]; omega)⟩
          case measure => simp [intOf]; omega
        | some q =>
          obtain ⟨a0, v0⟩ := q
          simp only [stA, stV, Option.isSome_some] at *
          go_wp2_with fail
          have e9 : ((bgt R N C s a : Nat) : Int) + ((bst btf R N C (nxt R N C s a) : Nat) : Int) = ((bgt R N C s a + bst btf R N C (nxt R N C s a) : Nat) : Int) := by simp
          rw [e9]
          refine (fewer_nat _ v0 _).mono ?_
          rintro e W5 ⟨rfl, rfl⟩
          clear e9
          cases hbt : btf (bgt R N C s a + bst btf R N C (nxt R N C s a)) v0
          · go_wp2
            go_roundw
            case rel => exact ⟨m, a - 1, some (a0, v0), D2, k2, by omega, by omega, by go_num, rfl, by go_num, rfl, hg, hk, x0, x1, hown2, hmem2, by omega, by have := Hf.out; simpa [look, hcan, hbt] using this, by show _ ≤ _; first | omega | (simp only [stV]; omega)⟩
            case measure => simp [intOf]; omega
          · go_wp2
            go_roundw
            case rel => exact ⟨m, a - 1, some (a, bgt R N C s a + bst btf R N C (nxt R N C s a)), D2, k2, by omega, by omega, by go_num, rfl, by go_num, rfl, hg, hk, x0, x1, hown2, hmem2, by omega, by have := Hf.out; simpa [look, hcan, hbt] using this, by show _ ≤ _; first | omega | (simp only [stV]; omega)⟩
            case measure => simp [intOf]; omega

end Go.Proofs.Ytmkmnedojgigoaa
