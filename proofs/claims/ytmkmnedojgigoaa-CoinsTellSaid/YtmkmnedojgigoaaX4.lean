import Derived.Test.YtmkmnedojgigoaaV1
import Derived.Maps.OwnOps
import Derived.Maps.OwnSet
import Derived.DeepKeys4
import Derived.Laws.EntriesVeiled
import Derived.Test.YtmkmnedojgigoaaC4
import Derived.Lib.SliceRun
namespace Go.Proofs.Ytmkmnedojgigoaa
open Go.RowKit

/-- A look-up in the call's own map of bools, without 'ok'. -/
theorem wpList_lookup_own_bool {H : Type} {P : Program} (w : World) {ops : Array Oper} {rest : List Oper} {o : Oper} {a : Act} {Q : Exit → Act → World → Prop}
    (hg : o.guard = none) (m x : Operand) (t : TypeId) (hop : o.op = Op.lookup t m x false)
    (k e : TypeId) (K : Go.Maps.Keyed P k) (ht : P.underlying t = some (.map k e)) (he : P.underlying e = some .bool) (hz : (zeroValue e).run P w = .ok (.bool false) w) (b n : Nat) (D : DataW H)
    (hm : a.eval m = .map (some b)) (hown : w.ownsMap P k (plainElem P e) b n D) (key : Value) (kl : Lit) (hx : a.eval x = key) (hkey : keyOf P k key = some kl)
    (hK : ∀ c : Bool, D.atKey kl (.lit (.bool false)) = .lit (.bool c) → wpList P ops Q rest (a.put o.dst (.bool c)) w) :
    wpList P ops Q (o :: rest) a w := by
  refine wpList_plain hg fun K' hK' => ?_
  obtain ⟨v, ps, hrun, hv⟩ := hown.lookup K ht hz (plainElem_bool he false) hkey
  have hc : ∃ c, v = .bool c ∧ D.atKey kl (.lit (.bool false)) = .lit (.bool c) := by
    unfold plainElem at hv
    rw [he] at hv
    cases v <;> simp at hv
    exact ⟨_, rfl, hv.1.symm⟩
  obtain ⟨c, rfl, hat⟩ := hc
  unfold Oper.wp
  simp [execOp, hop, hm, hx, hrun, Result.andThen]
  exact hK' _ _ (hK c hat)

theorem law91 : Go.Maps.Keyed Try.prog 91 :=
  Go.Maps.Keyed.of_law (deep_law_laid laidOut (m := 4) (by omega) (of_decide_eq_true (by kernel_rfl)) (by kernel_rfl) (by kernel_rfl))
theorem zero4 (w : World) : (zeroValue 4).run Try.prog w = .ok (.bool false) w := by kernel_rfl
theorem cells91 : Try.prog.cellsOf 91 = 4 := by kernel_rfl
theorem kt91 : Try.prog.keyType 91 = true := by kernel_rfl
theorem key91 (x0 x1 x2 x3 : Nat) (h0 : x0 ≤ 1000000) (h1 : x1 ≤ 1000000) (h2 : x2 ≤ 1000000) (h3 : x3 ≤ 1000000) :
    ∃ l, keyOf Try.prog 91 (.agg #[.int .i64 x0, .int .i64 x1, .int .i64 x2, .int .i64 x3]) = some l := by
  have w0 := wf64 (x := (x0 : Int)) (by omega)
  have w1 := wf64 (x := (x1 : Int)) (by omega)
  have w2 := wf64 (x := (x2 : Int)) (by omega)
  have w3 := wf64 (x := (x3 : Int)) (by omega)
  unfold keyOf
  simp only [Try.underlying91, kt91, tsize]
  refine ⟨.string (keyBytes [.int .i64 x0, .int .i64 x1, .int .i64 x2, .int .i64 x3]), ?_⟩
  rw [if_pos (by simp [Value.formed, Try.underlying91, cells91])]
  have e : Try.prog.keyLits (177 + 1) 91 (Value.agg #[.int .i64 x0, .int .i64 x1, .int .i64 x2, .int .i64 x3]).cells.toList = some [.int .i64 x0, .int .i64 x1, .int .i64 x2, .int .i64 x3] := by
    have k91 : ∀ n : Nat, Try.prog.keyLits (n + 2) 91 [.int .i64 x0, .int .i64 x1, .int .i64 x2, .int .i64 x3] = some [.int .i64 x0, .int .i64 x1, .int .i64 x2, .int .i64 x3] := by
      intro n
      simp [Program.keyLits, Try.underlying91, Try.underlying3, cells91, cells3, List.range_succ, w0, w1, w2, w3]
    exact k91 176
  rw [e]
  rfl
theorem bgEq {q q' : Bg} (h : (Value.agg #[.int .i64 q.a, .int .i64 q.b, .int .i64 q.c, .int .i64 q.d]) = .agg #[.int .i64 q'.a, .int .i64 q'.b, .int .i64 q'.c, .int .i64 q'.d]) : q = q' := by
  cases q; cases q'
  simp at h
  simp; omega
theorem under142 : Try.prog.underlying 142 = some (.map 91 4) := by kernel_rfl

/-- The plays that coins give, as an array of four. -/
def kB (L : List (Int × Int)) : Bg := ⟨(L.getD 0 (0, 0)).2.toNat, (L.getD 1 (0, 0)).2.toNat, (L.getD 2 (0, 0)).2.toNat, (L.getD 3 (0, 0)).2.toNat⟩
theorem kB_snoc : ∀ (L : List (Int × Int)) (x : Int) (g : Nat), L.length < 4 → kB (L ++ [(x, (g : Int))]) = (kB L).set L.length g
  | [], x, g, _ => by simp [kB, Bg.set]
  | [a], x, g, _ => by simp [kB, Bg.set]
  | [a, b], x, g, _ => by simp [kB, Bg.set]
  | [a, b, c], x, g, _ => by simp [kB, Bg.set]
  | a :: b :: c :: d :: L, x, g, h => by simp at h; omega
/-- The plays that tell a place. -/
def plB (R : Nat) (N C : List Int) (ks : List Int) (p : Nat) : Bg := kB (whatS R N C p ks)
/-- Each place gives something else. -/
def TellsB (R : Nat) (N C : List Int) (ks : List Int) : Prop := ∀ p q, p < R → q < R → plB R N C ks p = plB R N C ks q → p = q
def OwnB (w : World) (mb k : Nat) (D : DataW Unit) : Prop := w.ownsMap Try.prog 91 (plainElem Try.prog 4) mb k D
/-- The map has just the plays of the first places, which are all different. -/
def MapB (R : Nat) (N C : List Int) (ks : List Int) (i : Nat) (D : DataW Unit) : Prop :=
  Go.Maps.IsMap D ∧ (∀ p, p < i → ∀ l, keyOf Try.prog 91 (.agg (plB R N C ks p).vs) = some l → D.atKey l (.lit (.bool false)) = .lit (.bool true)) ∧
    ∀ p q, p < i → q < i → plB R N C ks p = plB R N C ks q → p = q
theorem MapB.next {R : Nat} {N C ks : List Int} {i : Nat} {D : DataW Unit} (h : MapB R N C ks i D) {l : Lit} (hl : keyOf Try.prog 91 (.agg (plB R N C ks i).vs) = some l) (hn : D.atKey l (.lit (.bool false)) = .lit (.bool false)) :
    MapB R N C ks (i + 1) (D.put l (.lit (.bool true))) := by
  obtain ⟨h1, h2, h3⟩ := h
  have hne : ∀ p, p < i → plB R N C ks p ≠ plB R N C ks i := fun p hp e => by
    have := h2 p hp l (by rw [e]; exact hl)
    rw [hn] at this
    simp at this
  refine ⟨?_, fun p hp l' hl' => ?_, fun p q hp hq e => ?_⟩
  · obtain ⟨es, rfl⟩ := h1
    exact ⟨_, rfl⟩
  · by_cases e : p = i
    · subst e
      have e2 : l' = l := by rw [hl] at hl'; cases hl'; rfl
      subst e2
      exact Go.Maps.atKey_put_same h1 (law91.key hl) _ _
    · have e2 : l' ≠ l := fun e2 => by
        subst e2
        exact hne p (by omega) (bgEq (law91.inj hl' hl))
      rw [Go.Maps.atKey_put_other e2]
      exact h2 p (by omega) l' hl'
  · by_cases e1 : p = i
    · by_cases e2 : q = i
      · omega
      · subst e1; exact absurd e.symm (hne q (by omega))
    · by_cases e2 : q = i
      · subst e2; exact absurd e (hne p (by omega))
      · exact h3 p q (by omega) (by omega) e
theorem kB_le {R : Nat} {N C : List Int} (hv : Vw R N C) (ks : List Int) (p : Nat) (hk : ks.all (isKindB C) = true) (_hp : p < R) : (plB R N C ks p).a ≤ 2400 ∧ (plB R N C ks p).b ≤ 2400 ∧ (plB R N C ks p).c ≤ 2400 ∧ (plB R N C ks p).d ≤ 2400 := by
  have h := List.all_eq_true.1 (seen_what (N := N) hv ks p hk)
  have hx : ∀ i, ((whatS R N C p ks).getD i (0, 0)).2.toNat ≤ 2400 := fun i => by
    rcases Nat.lt_or_ge i (whatS R N C p ks).length with hi | hi
    · have := h _ (List.getElem_mem hi)
      simp only [isSeenB, Bool.and_eq_true, inR_iff] at this
      simp [List.getD, hi]
      omega
    · simp [List.getD, List.getElem?_eq_none hi]
  exact ⟨hx 0, hx 1, hx 2, hx 3⟩
end Go.Proofs.Ytmkmnedojgigoaa
namespace Go.Proofs.Ytmkmnedojgigoaa
open Go.RowKit

theorem OwnB.kept {w w' : World} {mb k : Nat} {D : DataW Unit} {r : Option Nat} (h : OwnB w mb k D) (hg : w.grownBy w' r) (hne : r ≠ some mb) : OwnB w' mb k D :=
  World.ownsMap.kept h (row := r) hg (by first | exact hne | exact fun e => hne e.symm | exact fun e => hne e)
theorem OwnB.below {w w' : World} {mb k : Nat} {D : DataW Unit} (h : OwnB w mb k D) (hb : Below w.heap.size w w') : OwnB w' mb k D :=
  World.ownsMap.kept h (row := none) ⟨hb.os, hb.tape, hb.output, hb.size, fun j hj _ => hb.block j hj⟩ (by simp)
theorem cell_grown' (w : World) (a : Addr) (v : Value) : w.grownBy (w.setCell a v) (some a.block) :=
  ⟨rfl, rfl, rfl, by simp, fun k _ hk => heap_setCell_other w a k v (fun e => hk (by simp [e]))⟩
def TellPost (R : Nat) (N C ks : List Int) (w : World) (e : Ending) (w' : World) : Prop := Below w.heap.size w w' ∧ ∃ b : Bool, e = .returned (.bool b) ∧ (b = true → TellsB R N C ks)

set_option maxRecDepth 100000 in
set_option maxHeartbeats 3000000 in
theorem tells_any (R : Nat) (an ac ap : Option Addr) (cn cc cp : Nat) (N C P : List Int) (a : Option Addr) (ca : Nat) (ks : List Int) (w : World) (hk : Wk w R an ac ap N C P) (hX : Ints w a ks) (hl : ks.length ≤ 4) (hall : ks.all (isKindB C) = true) :
    Calls Try.prog 111 #[.agg #[.int .i64 (R : Int), .slice an N.length cn, .slice ac C.length cc, .slice ap P.length cp], .slice a ks.length ca] w (TellPost R N C ks w) := by
  have hmm := @run_makeMap Try.prog
  have hv := hk.v
  have r1 := hv.r1
  have r2 := hv.r2
  obtain ⟨W, hW, hb, hs, x0⟩ := boxes1 w #[.int .i64 (R : Int), .slice an N.length cn, .slice ac C.length cc, .slice ap P.length cp] 73
  have hmb : w.heap.size < W.heap.size := by omega
  have own0 : OwnB (W.alloc (.map #[] 0)) W.heap.size 0 (.map []) := World.ownsMap_made W Try.prog 91 (plainElem Try.prog 4)
  have hb1 := below_one (w := W) (.map #[] 0)
  replace x0 := x0.below hb1
  replace hb := hb.trans (hb1.mono hb.size)
  clear hb1 hs
  have c0 := x0.cell 0 rfl; have c1 := x0.cell 1 rfl; have c2 := x0.cell 2 rfl; have c3 := x0.cell 3 rfl
  go_enter Try.func111, Try.ntmps111
  go_wp2
  clear hW c0 c1 c2 c3 hmm
  generalize W.alloc _ = W1 at *
  generalize W.heap.size = mb at *
  go_loopw [16] (fun v16 wr => ∃ (i : Nat) (D : DataW Unit) (k' : Nat), i ≤ R ∧ v16 = .int .i64 (i : Int) ∧ OwnB wr mb k' D ∧ k' ≤ i ∧ MapB R N C ks i D ∧ Below w.heap.size w wr ∧ Bx wr w.heap.size #[.int .i64 (R : Int), .slice an N.length cn, .slice ac C.length cc, .slice ap P.length cp] 73) (fun v16 _ => R - (intOf v16).toNat)
  case atStart => exact ⟨0, _, 0, Nat.zero_le _, rfl, own0, Nat.le_refl _, ⟨⟨_, rfl⟩, fun p hp => by omega, fun p q hp => by omega⟩, hb, x0⟩
  case round =>
    clear own0 hb x0
    obtain ⟨i, D, k', hi, rfl, hown, hk', hmap, hb, x0⟩ := hrel
    obtain ⟨wo, rfl⟩ : ∃ wo : World, wo = wr := ⟨_, rfl⟩
    have hmo : mb < wo.heap.size := World.ownsMap.lt hown
    by_cases hlt : i < R
    · have hltI : (i : Int) < (R : Int) := by omega
      go_wp2
      obtain ⟨W7, hW7, hb7, hs7, x7⟩ := boxes1 wo #[.int .i64 0, .int .i64 0, .int .i64 0, .int .i64 0] 91
      rw [hW7]
      replace hown := hown.below hb7
      replace x0 := x0.below hb7
      replace hb := hb.trans (hb7.mono hb.size)
      obtain ⟨g, hg⟩ : ∃ x, x = wo.heap.size := ⟨_, rfl⟩
      rw [← hg] at x7 hmo ⊢
      have hwg : w.heap.size < g := by rw [hg]; exact Nat.lt_of_lt_of_le hmb (by omega)
      clear hW7 hb7 hs7 hg
      go_loopw [8, 22] (fun v8 v22 wj => ∃ (j q : Nat), j ≤ ks.length ∧ v22 = .int .i64 (j : Int) ∧ v8 = .int .i64 (q : Int) ∧ q = (i + tot C (ks.take j)) % R ∧ q < R ∧ OwnB wj mb k' D ∧ Below w.heap.size w wj ∧ Bx wj w.heap.size #[.int .i64 (R : Int), .slice an N.length cn, .slice ac C.length cc, .slice ap P.length cp] 73 ∧ Bx wj g (kB (whatS R N C i (ks.take j))).vs 91) (fun _ v22 _ => ks.length - (intOf v22).toNat)
      case atStart => exact ⟨0, i, Nat.zero_le _, rfl, rfl, by simp [tot, Nat.mod_eq_of_lt hlt], hlt, hown, hb, x0, x7⟩
      case round =>
        clear hown hb x0 x7
        obtain ⟨j, q, hj, rfl, rfl, hqe, hq, hown, hb, x0, x7⟩ := hrel
        have Hq := hid hqe; clear hqe
        have hgw := x7.lt
        by_cases hjl : j < ks.length
        · have hX2 := hX.below hb (Nat.le_refl _)
          obtain ⟨b, off, x, rfl, hbs, hcx, _, _, hx, _⟩ := hX2.at hjl
          obtain ⟨n, rfl, hn⟩ := kind_nat (List.all_eq_true.1 hall x (List.mem_of_getElem? hx.out))
          have hco := (hv.coin hn).2
          have hwl : (whatS R N C i (ks.take j)).length = j := by rw [whatS_len, List.length_take]; omega
          have hsn : kB (whatS R N C i (ks.take (j + 1))) = (kB (whatS R N C i (ks.take j))).set j (gv R N q (cw C n)) := by
            rw [List.take_add_one, hx.out, Option.toList_some, whatS_snoc _ _ _ hlt, kB_snoc _ _ _ (by omega), hwl, ← Hq.out, Int.toNat_natCast]
          have htk : (i + tot C (ks.take (j + 1))) % R = (q + cw C n) % R := by
            rw [List.take_add_one, hx.out, Option.toList_some, tot_snoc, ← Nat.add_assoc, Nat.add_mod, ← Hq.out, Int.toNat_natCast, Nat.add_mod q (cw C n), Nat.mod_eq_of_lt hq]
          have Hsn := hid hsn; have Htk := hid htk
          obtain ⟨A, hA⟩ : ∃ A, A = kB (whatS R N C i (ks.take j)) := ⟨_, rfl⟩
          rw [← hA] at x7 Hsn
          have hk2 := hk.below hb (Nat.le_refl _)
          clear hsn htk hA hwl hx
          have hjI : (j : Int) < (ks.length : Int) := by omega
          have hj4 : (j : Int) < 4 := by omega
          have hj4' : j < 4 := by omega
          have hj0 : (0 : Int) ≤ (j : Int) := by omega
          have c0 := x0.cell 0 rfl; have c1 := x0.cell 1 rfl; have c2 := x0.cell 2 rfl; have c3 := x0.cell 3 rfl
          go_wp2_with fail
          refine (worth_any _ _ _ _ _ _ _ _ _ _ n _ hk2 hn).mono ?_
          rintro e W8 ⟨rfl, hb1⟩
          replace hown := hown.below hb1
          replace x7 := x7.below hb1
          replace hk2 := hk2.below hb1 (Nat.le_refl _); (try clear c0 c1 c2 c3); replace x0 := x0.below hb1; have c0 := x0.cell 0 rfl; have c1 := x0.cell 1 rfl; have c2 := x0.cell 2 rfl; have c3 := x0.cell 3 rfl; replace hb := hb.trans (hb1.mono hb.size); clear hb1
          have hgv := gv_le_c hv q (cw C n)
          obtain ⟨cc', hcc⟩ : ∃ t, t = cw C n := ⟨_, rfl⟩
          rw [← hcc] at hco hgv Hsn Htk ⊢
          clear hcc
          go_wp2_with fail
          refine (gives_any _ _ _ _ _ _ _ _ _ _ q cc' _ hk2 (by omega) (by omega)).mono ?_
          rintro e W9 ⟨rfl, hb1⟩
          replace hown := hown.below hb1
          replace x7 := x7.below hb1
          replace hk2 := hk2.below hb1 (Nat.le_refl _); (try clear c0 c1 c2 c3); replace x0 := x0.below hb1; have c0 := x0.cell 0 rfl; have c1 := x0.cell 1 rfl; have c2 := x0.cell 2 rfl; have c3 := x0.cell 3 rfl; replace hb := hb.trans (hb1.mono hb.size); clear hb1
          obtain ⟨G, hG⟩ : ∃ t, t = gv R N q cc' := ⟨_, rfl⟩
          rw [← hG] at Hsn ⊢
          clear hG
          have ck := x7.cell j (Bg.vs_at A hj4')
          have fr := x7.free j
          go_upto_region 12 with fail
          have x9 := x7.set j (.int .i64 (G : Nat))
          rw [Bg.vs_set _ hj4'] at x9
          have hown9 := hown.kept (cell_grown' W9 ⟨g, j, none⟩ (.int .i64 (G : Nat))) (fun e => by have h := Option.some.inj e; dsimp only at h; omega)
          have x09 := x0.other (a := ⟨g, j, none⟩) (by show w.heap.size ≠ g; omega) (.int .i64 (G : Nat))
          have hb9 := hb.setCell (show w.heap.size ≤ (⟨g, j, none⟩ : Addr).block from by show w.heap.size ≤ g; omega) (.int .i64 (G : Nat))
          generalize W9.setCell _ _ = W10 at *
          clear x7 hown x0 hb ck fr c0 c1 c2 c3 hk2
          have c0 := x09.cell 0 rfl; have c1 := x09.cell 1 rfl; have c2 := x09.cell 2 rfl; have c3 := x09.cell 3 rfl
          go_wp2_with fail
          refine (turned_any _ _ _ _ _ _ _ _ _ _ q cc' _ hv (by omega) (by omega)).mono ?_
          rintro e W11 ⟨rfl, hb1⟩
          replace hown9 := hown9.below hb1
          replace x9 := x9.below hb1
          replace x09 := x09.below hb1
          replace hb9 := hb9.trans (hb1.mono hb9.size)
          clear hb1 c0 c1 c2 c3
          obtain ⟨q', hq'⟩ : ∃ t, t = (q + cc') % R := ⟨_, rfl⟩
          have hq'l : q' < R := by rw [hq']; exact Nat.mod_lt _ r1
          rw [← hq'] at Htk ⊢
          clear hq'
          go_wp2
          go_roundw
          case rel => exact ⟨j + 1, q', by omega, by go_num, rfl, Htk.out.symm, hq'l, hown9, hb9, x09, by rw [Hsn.out]; exact x9⟩
          case measure => simp [intOf]; omega
        · have hjI : (ks.length : Int) ≤ (j : Int) := by omega
          have hjl' : j = ks.length := by omega
          rw [hjl', List.take_length] at x7
          have hle := kB_le (N := N) hv ks i hall hlt
          obtain ⟨l, hkl⟩ := key91 (plB R N C ks i).a (plB R N C ks i).b (plB R N C ks i).c (plB R N C ks i).d (by omega) (by omega) (by omega) (by omega)
          have hnext := hmap.next (l := l) hkl
          have Hmap := hid hmap; have Hnext := hid hnext
          obtain ⟨q1, hq1⟩ : ∃ t, t = plB R N C ks i := ⟨_, rfl⟩
          rw [show kB (whatS R N C i ks) = q1 from hq1.symm] at x7
          rw [← hq1] at hkl
          clear hq1 hle hmap hnext
          obtain ⟨v, ps, hrun, hv1⟩ := hown.lookup law91 under142 (zero4 _) (plainElem_bool Try.underlying4 false) hkl
          have hc : ∃ c, v = .bool c ∧ D.atKey l (.lit (.bool false)) = .lit (.bool c) := by
            unfold plainElem at hv1
            rw [Try.underlying4] at hv1
            cases v <;> simp at hv1
            exact ⟨_, rfl, hv1.1.symm⟩
          obtain ⟨c, rfl, hat⟩ := hc
          clear hv1
          replace x7 : Bx wr g #[.int .i64 q1.a, .int .i64 q1.b, .int .i64 q1.c, .int .i64 q1.d] 91 := x7
          have e0 := x7.cell 0 rfl; have e1 := x7.cell 1 rfl; have e2 := x7.cell 2 rfl; have e3 := x7.cell 3 rfl
          cases c
          · go_wp2_with (first | (at_mapUpdate; go_must (refine wpList_mapUpdate_own _ rfl _ _ _ 142 rfl 91 4 law91 under142 (plainElem Try.prog 4) mb k' D rfl hown (by unfold maxLen; omega) _ _ l rfl rfl hkl _ [] (plainElem_bool Try.underlying4 true) ?_); intro w1 hownU hgU))
            have hbU := hb.grown hgU hb.size (fun k hk => by cases hk; omega)
            have x0U := x0.gb hgU (fun k hk => by cases hk; omega)
            clear hown hb x0 x7 e0 e1 e2 e3 hrun hgU
            go_wp2
            go_roundw
            case rel => exact ⟨i + 1, _, k' + 1, by omega, by go_num, hownU, by omega, Hnext.out hat, hbU, x0U⟩
            case measure => simp [intOf]; omega
          · go_wp2
            go_ret
            exact ⟨hb, false, rfl, fun h => by cases h⟩
    · have hltI : (R : Int) ≤ (i : Int) := by omega
      obtain rfl : i = R := by omega
      have hm3 := hid hmap.2.2
      clear hmap
      go_wp2
      go_ret
      exact ⟨hb, true, rfl, fun _ p q hp hq e => hm3.out p q hp hq e⟩
end Go.Proofs.Ytmkmnedojgigoaa
namespace Go.Proofs.Ytmkmnedojgigoaa
open Go.RowKit

def ClonePost (ks : List Int) (w : World) (e : Ending) (w' : World) : Prop := Below w.heap.size w w' ∧ ∃ v : Value, e = .returned v ∧ w'.ownsRow w.heap.size 3 1 v ks.length (ks.map (Value.int .i64))
theorem ints_none {w : World} {ks : List Int} (h : Ints w none ks) : ks = [] := by
  match ks, h with
  | [], _ => rfl
  | k :: ks, h =>
    obtain ⟨b, off, e, _⟩ := h.2.2 0 (by simp)
    cases e

set_option maxRecDepth 100000 in
set_option maxHeartbeats 1000000 in
theorem clone_any (a : Option Addr) (ca : Nat) (ks : List Int) (w : World) (hX : Ints w a ks) (hl : ks.length ≤ 1000) :
    Calls Try.prog 118 #[.slice a ks.length ca] w (ClonePost ks w) := by
  obtain ⟨j0, hj, jz0, jz1, jz2⟩ := info_parts info3
  rcases a with _ | ad
  · have hk := ints_none hX
    subst hk
    have hE : ∀ w, (binOp .eql 22 (.slice none 0 ca) (.slice none 0 0)).run Try.prog w = .ok (.bool true) w := fun w => Lib.run_eql_slice_nil w 22 3 none 0 ca 0 0 under22
    go_enter Try.func118, Try.ntmps118
    go_wp2
    go_ret
    exact ⟨Below.refl _ _, _, rfl, World.ownsRow_nil _ _ _ _⟩
  · have hown := own_lit0 w 3 1
    have hb1 := below_one (w := w) (.cells #[] 3)
    have hcl := (hX.below hb1 (Nat.le_refl _)).cls
    generalize hn : ks.length = n at *
    have hE : ∀ w, (binOp .eql 22 (.slice (some ad) n ca) (.slice none 0 0)).run Try.prog w = .ok (.bool false) w := fun w => Lib.run_eql_slice_nil w 22 3 (some ad) n ca 0 0 under22
    go_enter Try.func118, Try.ntmps118
    go_wp2_with (at_builtin; refine wpList_app rfl (.tmp 5) (.tmp 6) 22 rfl w.heap.size 3 j0 (.int .i64 0) 1 8 under22 hj jz0 jz1 jz2 rfl (by decide) _ 0 [] rfl hown (some ad) n ca (ks.map (Value.int .i64)) rfl (by simp [hn]) hcl (ints_one ks) (by unfold maxLen; omega) (by omega) (by simp) ?_; intro v1 W3 hown' hg)
    have hb2 := hb1.grown hg (by simp) (own_ge hown)
    clear hown hb1 hcl hg
    go_wp2
    go_ret
    exact ⟨hb2, _, rfl, by rw [hn]; simpa using hown'⟩

/-- A list of n kinds, whose memory is not that of a row. -/
def HdOk (w : World) (C : List Int) (n : Nat) (own : Option Nat) (x : Value) : Prop :=
  ∃ (a : Option Addr) (c : Nat) (ks : List Int), x = .slice a n c ∧ Ints w a ks ∧ ks.length = n ∧ ks.all (isKindB C) = true ∧ ∀ ad, a = some ad → own ≠ some ad.block
/-- m lists of n kinds each. -/
def LLs (w : World) (A : Option Addr) (m n : Nat) (C : List Int) : Prop :=
  ∀ i, i < m → ∃ b off, A = some ⟨b, off, none⟩ ∧ b < w.heap.size ∧ ∃ (a : Option Addr) (c : Nat) (ks : List Int), w.cell? ⟨b, off + i, none⟩ = some (.slice a n c) ∧ Ints w a ks ∧ ks.length = n ∧ ks.all (isKindB C) = true
theorem LLs.below {w w' : World} {A : Option Addr} {m n : Nat} {C : List Int} (h : LLs w A m n C) (hb : Below w.heap.size w w') : LLs w' A m n C := fun i hi => by
  obtain ⟨b, off, h1, h2, a, c, ks, h3, h4, h5, h6⟩ := h i hi
  exact ⟨b, off, h1, Nat.lt_of_lt_of_le h2 hb.size, a, c, ks, Below.keep hb h3, h4.below hb (Nat.le_refl _), h5, h6⟩
theorem LLs.below' {w w' : World} {A : Option Addr} {m n : Nat} {C : List Int} (h : LLs w A m n C) {B : Nat} (hb : Below B w w') (hB : w.heap.size ≤ B := by exact Nat.le_refl _) : LLs w' A m n C := by
  exact h.below (hb.mono hB)
theorem Below.gr' {w w' : World} (h : Below w.heap.size w w') : w.grownBy w' none := ⟨h.os, h.tape, h.output, h.size, fun k hk _ => h.block k hk⟩
theorem Ints.gro {w w' : World} {r : Option Nat} {a : Option Addr} {xs : List Int} (h : Ints w a xs) (hg : w.grownBy w' r) (hne : ∀ ad, a = some ad → r ≠ some ad.block) : Ints w' a xs := by
  refine ⟨h.1, h.2.1, fun i hi => ?_⟩
  obtain ⟨b, off, ha, hb, hc⟩ := h.2.2 i hi
  refine ⟨b, off, ha, Nat.lt_of_lt_of_le hb hg.size, ?_⟩
  have hk := hg.block b hb (fun e => hne _ ha (by first | exact e | exact e.symm))
  rw [← hc]
  unfold World.cell?
  simp only [hk]
theorem HdOk.gro {w w' : World} {C : List Int} {n : Nat} {own own' r : Option Nat} {x : Value} (h : HdOk w C n own x) (hn : 1 ≤ n) (hg : w.grownBy w' r) (hr : ∀ k, r = some k → own = some k) (ho : own' = own ∨ ∃ k, own' = some k ∧ w.heap.size ≤ k) : HdOk w' C n own' x := by
  obtain ⟨a, c, ks, h1, h2, h3, h4, h5⟩ := h
  refine ⟨a, c, ks, h1, h2.gro hg (fun ad e h => h5 ad e (hr _ h)), h3, h4, fun ad e h => ?_⟩
  rcases ho with rfl | ⟨k, rfl, hk⟩
  · exact h5 ad e h
  · cases h
    obtain ⟨b, off, e2, hb, _⟩ := h2.2.2 0 (by omega)
    rw [e] at e2
    cases e2
    simp at hk; omega
end Go.Proofs.Ytmkmnedojgigoaa
namespace Go.Proofs.Ytmkmnedojgigoaa
open Go.RowKit

theorem under99 : Try.prog.underlying 99 = some (.slice 22) := by kernel_rfl
theorem info22 : (Try.prog.info? 22).map (fun i => (i.zero, i.size, i.bytes)) = some (some (.slice none 0 0), 1, 24) := by kernel_rfl
theorem long_step {wj W1 W2 : World} {v v2 : Value} {ks : List Int} {n k : Nat} {C : List Int} (hb1 : Below wj.heap.size wj W1) (hrow : W1.ownsRow wj.heap.size 3 1 v n (ks.map (Value.int .i64)))
    (hrow2 : W2.ownsRow wj.heap.size 3 1 v2 (n + 1) (ks.map (Value.int .i64) ++ [.int .i64 (k : Int)])) (hg2 : (W1.alloc (.cells #[.int .i64 (k : Int)] 3)).grownBy W2 v.ownBlock) (hkl : ks.length = n) (hka : ks.all (isKindB C) = true) (hkB : isKindB C (k : Int) = true) (hn : n ≤ 10) (c4 : C.length ≤ 4) :
    Below wj.heap.size wj W2 ∧ ∃ (a2 : Option Addr) (c2 : Nat), v2 = .slice a2 (n + 1) c2 ∧ Ints W2 a2 (ks ++ [(k : Int)]) ∧ (ks ++ [(k : Int)]).length = n + 1 ∧ (ks ++ [(k : Int)]).all (isKindB C) = true ∧ ∀ ad, a2 = some ad → wj.heap.size ≤ ad.block := by
  have hb12 : Below wj.heap.size wj W2 := (hb1.trans ((below_one (w := W1) (.cells #[.int .i64 (k : Int)] 3)).mono hb1.size)).grown hg2 (by have := hb1.size; simp; omega) (own_ge hrow)
  have hln : (ks ++ [(k : Int)]).length = n + 1 := by rw [List.length_append, hkl]; rfl
  have hall2 : (ks ++ [(k : Int)]).all (isKindB C) = true := by rw [List.all_append, hka]; simpa using hkB
  have hrow2' : W2.ownsRow wj.heap.size 3 1 v2 (ks ++ [(k : Int)]).length ((ks ++ [(k : Int)]).map (Value.int .i64)) := by rw [hln]; simpa using hrow2
  have hrng : ∀ x ∈ ks ++ [(k : Int)], -9223372036854775808 ≤ x ∧ x ≤ 9223372036854775807 := fun x hx => by
    have := inR_iff.1 (List.all_eq_true.1 hall2 x hx); omega
  obtain ⟨a2, c2, rfl, hi2⟩ := Ints.of_own hrow2' (by omega) hrng
  exact ⟨hb12, a2, c2, by rw [hln], hi2, hln, hall2, own_new hrow2'⟩

theorem LLs_of_own {w : World} {base : Nat} {A : Option Addr} {c n : Nat} {C : List Int} {own : Option Nat} {xs : List Value} (h : w.ownsRow base 22 1 (.slice A xs.length c) xs.length xs) (hx : ∀ x ∈ xs, HdOk w C n own x) : LLs w A xs.length n C := fun i hi => by
  obtain ⟨g, cap, e⟩ := Go.Joins.ownsRow_form h (by omega)
  simp only [Value.slice.injEq] at e
  obtain ⟨rfl, _, rfl⟩ := e
  have hc := h.cellAt i (by omega)
  rw [List.getElem?_eq_getElem hi] at hc
  obtain ⟨a, c', ks, e1, h2, h3, h4, _⟩ := hx _ (List.getElem_mem hi)
  rw [e1] at hc
  exact ⟨g, 0, rfl, (h.lt g rfl).2, a, c', ks, by rw [Nat.zero_add]; exact hc, h2, h3, h4⟩

def LongPost (C : List Int) (m n : Nat) (w : World) (e : Ending) (w' : World) : Prop :=
  Below w.heap.size w w' ∧ ∃ (A : Option Addr) (c : Nat), e = .returned (.slice A (m * C.length) c) ∧ LLs w' A (m * C.length) (n + 1) C

set_option maxRecDepth 100000 in
set_option maxHeartbeats 3000000 in
theorem longer_any (R : Nat) (an ac ap : Option Addr) (cn cc cp : Nat) (N C P : List Int) (A : Option Addr) (cA m n : Nat) (w : World) (hk : Wk w R an ac ap N C P) (hL : LLs w A m n C) (hm : m ≤ 1024) (hn : n ≤ 10) :
    Calls Try.prog 112 #[.agg #[.int .i64 (R : Int), .slice an N.length cn, .slice ac C.length cc, .slice ap P.length cp], .slice A m cA] w (LongPost C m n w) := by
  obtain ⟨j0, hj, jz0, jz1, jz2⟩ := info_parts info3
  obtain ⟨i0, hi0, iz0, iz1, iz2⟩ := info_parts info22
  have hv := hk.v
  have c4 := hv.c4
  obtain ⟨W, hW, hb, hs, x0⟩ := boxes1 w #[.int .i64 (R : Int), .slice an N.length cn, .slice ac C.length cc, .slice ap P.length cp] 73
  clear hs
  go_enter Try.func112, Try.ntmps112
  go_wp2
  clear hW
  go_loopw [5, 11] (fun v5 v11 wr => ∃ (i : Nat) (xs : List Value), i ≤ m ∧ v11 = .int .i64 (i : Int) ∧ xs.length = i * C.length ∧ wr.ownsRow (w.heap.size + 1) 22 1 v5 xs.length xs ∧ Below w.heap.size w wr ∧ Bx wr w.heap.size #[.int .i64 (R : Int), .slice an N.length cn, .slice ac C.length cc, .slice ap P.length cp] 73 ∧ ∀ x ∈ xs, HdOk wr C (n + 1) v5.ownBlock x) (fun _ v11 _ => m - (intOf v11).toNat)
  case atStart => exact ⟨0, [], Nat.zero_le _, rfl, by simp, World.ownsRow_nil _ _ _ _, hb, x0, fun x hx => by simp at hx⟩
  case round =>
    clear hb x0
    obtain ⟨i, xs, hi, rfl, hxl, hown, hb, x0, hxs⟩ := hrel
    obtain ⟨wo, rfl⟩ : ∃ wo : World, wo = wr := ⟨_, rfl⟩
    by_cases hlt : i < m
    · obtain ⟨b, off, rfl, hbs0, a, c, ks, hcell0, hks0, hkl, hka⟩ := hL i hlt
      have hcell := Below.keep (hb.mono (Nat.le_refl _)) hcell0
      have hbs : b < wo.heap.size := Nat.lt_of_lt_of_le hbs0 hb.size
      have c0 := x0.cell 0 rfl; have c1 := x0.cell 1 rfl; have c2 := x0.cell 2 rfl; have c3 := x0.cell 3 rfl
      have hltI : (i : Int) < (m : Int) := by omega
      have HxL := hid hxl
      have hn1 : i * C.length ≤ 1024 * 4 := Nat.mul_le_mul (by omega) c4
      have hxb : xs.length ≤ 4096 := by omega
      clear hxl
      go_wp2
      go_loopw [5, 19] (fun v5 v19 wj => ∃ (k : Nat) (ys : List Value), k ≤ C.length ∧ v19 = .int .i64 (k : Int) ∧ ys.length = i * C.length + k ∧ wj.ownsRow (w.heap.size + 1) 22 1 v5 ys.length ys ∧ Below w.heap.size w wj ∧ Bx wj w.heap.size #[.int .i64 (R : Int), .slice an N.length cn, .slice ac C.length cc, .slice ap P.length cp] 73 ∧ ∀ x ∈ ys, HdOk wj C (n + 1) v5.ownBlock x) (fun _ v19 _ => C.length - (intOf v19).toNat)
      case atStart => exact ⟨0, xs, Nat.zero_le _, rfl, HxL.out, hown, hb, x0, hxs⟩
      case round =>
        clear hown hb x0 hxs hcell c0 c1 c2 c3 HxL hxb
        obtain ⟨k, ys, hkk, rfl, hyl, hown, hb, x0, hys⟩ := hrel
        obtain ⟨wj, rfl⟩ : ∃ wj : World, wj = wr := ⟨_, rfl⟩
        obtain ⟨p, hp⟩ : ∃ x, x = ys.length := ⟨_, rfl⟩
        rw [← hp] at hown hyl
        have Hp := hid hp; have Hyl := hid hyl
        have hpb : p ≤ 4100 := by omega
        clear hp hyl
        have hl0 := x0.lt
        have hks := hks0.below hb (Nat.le_refl _)
        by_cases hkl2 : k < C.length
        · have hkI : (k : Int) < (C.length : Int) := by omega
          have hkB : isKindB C (k : Int) = true := inR_iff.2 (by omega)
          go_wp2_with fail
          have hcl1 := clone_any a c ks wj hks (by omega)
          rw [hkl] at hcl1
          refine hcl1.mono ?_
          rintro e W1 ⟨hb1, v, rfl, hrow⟩
          rw [hkl] at hrow
          have hge1 := own_ge hrow
          have hsz1 := hb1.size
          clear hcl1
          go_wp2_with (first
            | (at_builtin; refine wpList_append_own _ rfl _ _ 22 rfl wj.heap.size 3 j0 (.int .i64 0) 1 8 under22 hj jz0 jz1 jz2 rfl (by decide) v n _ rfl (hrow.alloc _) ⟨W1.heap.size, 0, none⟩ 1 1 [.int .i64 (k : Int)] rfl rfl (cell_one_new _ _ _) (ints_oneCell .i64 [(k : Int)]) (by unfold maxLen; omega) (by omega) (by simp; omega) ?_
               intro v2 W2 hrow2 hg2 _
               obtain ⟨hb12, a2, c2, rfl, hi2, hln, hall2, hblk⟩ := long_step hb1 hrow hrow2 hg2 hkl hka hkB hn c4
               have hown2 := own_below2 hown hb12
               have hb2 := hb.trans (hb12.mono hb.size)
               have hbW := below_one (w := W2) (.cells #[.slice a2 (n + 1) c2] 22)
               have hcls := Cls.of_bx (Bx.new W2 #[.slice a2 (n + 1) c2] 22)
               have hsz2 := hb2.size)
            | (at_builtin; refine wpList_appAt rfl (.tmp 22) (.tmp 28) 99 rfl (w.heap.size + 1) 22 i0 (.slice none 0 0) 1 24 under99 hi0 iz0 iz1 iz2 rfl (by decide) u5 p ys rfl (own_below2 hown2 hbW) (some ⟨W2.heap.size, 0, none⟩) 1 1 [.slice a2 (n + 1) c2] rfl rfl hcls (by simp; rfl) (by unfold maxLen; omega) (by omega) (by simp; omega) ?_
               intro v3 W3 hown3 hg3 hat))
          have hge5 := own_ge2 hown2
          have hlt5 := fun g (h : u5.ownBlock = some g) => (hown.lt g h).2
          have hgt := (World.grownBy_alloc W2 (.cells #[.slice a2 (n + 1) c2] 22) u5.ownBlock).trans hg3
          have hb3 : Below w.heap.size w W3 := (hb2.trans (hbW.mono hsz2)).grown hg3 (by simp; omega) (fun k hk => by have := hge5 k hk; omega)
          have x03 := ((x0.below hb12).below hbW).gb hg3 (fun k hk => by have := hge5 k hk; omega)
          have hat2 : v3.ownBlock = u5.ownBlock ∨ ∃ g, v3.ownBlock = some g ∧ W2.heap.size ≤ g := by
            rcases hat with h | h
            · exact .inl h
            · exact .inr ⟨_, h, by simp⟩
          have hys3 : ∀ x ∈ ys ++ [Value.slice a2 (n + 1) c2], HdOk W3 C (n + 1) v3.ownBlock x := fun x hx => by
            rcases List.mem_append.1 hx with h | h
            · exact ((hys x h).gro (by omega) (Below.gr' hb12) (fun k hk => by cases hk) (.inl rfl)).gro (by omega) hgt (fun k hk => hk) hat2
            · rw [List.mem_singleton.1 h]
              have hne : ∀ ad, a2 = some ad → u5.ownBlock ≠ some ad.block := fun ad e e2 => by
                have h1 := hlt5 _ e2
                have h2 := hblk ad e
                omega
              refine ⟨a2, c2, ks ++ [(k : Int)], rfl, hi2.gro hgt hne, hln, hall2, fun ad e e2 => ?_⟩
              rcases hat2 with h | ⟨g', h, hg'⟩
              · exact hne ad e (h ▸ e2)
              · rw [h] at e2
                obtain ⟨b', off', e3, hb', _⟩ := hi2.2.2 0 (by omega)
                rw [e] at e3
                cases e3
                cases e2
                simp at hg'; omega
          have hrow3 : W3.ownsRow (w.heap.size + 1) 22 1 v3 (ys ++ [Value.slice a2 (n + 1) c2]).length (ys ++ [Value.slice a2 (n + 1) c2]) := by
            rw [List.length_append, ← Hp.out]; exact hown3
          clear hown3 hg3 hat hgt hown2 hbW hcls hi2 hb12 hb1 hg2 hrow hrow2 hown x0 hb
          go_roundw
          case rel => exact ⟨k + 1, _, by omega, by go_num, by rw [List.length_append, ← Hp.out, Hyl.out]; rfl, hrow3, hb3, x03, hys3⟩
          case measure => simp [intOf]; omega
        · have hkI : (C.length : Int) ≤ (k : Int) := by omega
          have hyl2 : ys.length = (i + 1) * C.length := by rw [← Hp.out, Hyl.out, Nat.succ_mul, show k = C.length by omega]
          rw [Hp.out] at hown
          have HY := hid hyl2
          clear hyl2
          go_wp2
          go_roundw
          case rel => exact ⟨i + 1, ys, by omega, by go_num, HY.out, hown, hb, x0, hys⟩
          case measure => simp [intOf]; omega
    · have hltI : (m : Int) ≤ (i : Int) := by omega
      have him : i = m := by omega
      rw [him] at hxl
      obtain ⟨A2, c2, rfl⟩ := own_slice2 hown
      have HF := hid (And.intro hxl hxs)
      clear hxl hxs
      have hLL := LLs_of_own hown HF.out.2
      have HLL := hid hLL; have HF1 := hid HF.out.1
      clear hLL HF hown
      go_wp2
      go_ret
      exact ⟨hb, A2, c2, by rw [← HF1.out]; rfl, by rw [← HF1.out]; exact HLL.out⟩
end Go.Proofs.Ytmkmnedojgigoaa
