import Derived.Test.YtmkmnedojgigoaaX4
namespace Go.Proofs.Ytmkmnedojgigoaa
open Go.RowKit

/-- The map has just the plays of the first places, which are all different. -/
def MapE (R : Nat) (N C : List Int) (ks : List Int) (i : Nat) (D : DataW Unit) : Prop :=
  Go.Maps.IsMap D ∧ (∀ p, p < i → ∀ l, keyOf Try.prog 91 (.agg (plB R N C ks p).vs) = some l → D.atKey l (.lit (.bool false)) = .lit (.bool true)) ∧
    (∀ p q, p < i → q < i → plB R N C ks p = plB R N C ks q → p = q) ∧ ∀ q l, keyOf Try.prog 91 (.agg (plB R N C ks q).vs) = some l → D.atKey l (.lit (.bool false)) = .lit (.bool true) → ∃ p, p < i ∧ plB R N C ks p = plB R N C ks q
theorem MapE.next {R : Nat} {N C ks : List Int} {i : Nat} {D : DataW Unit} (h : MapE R N C ks i D) {l : Lit} (hl : keyOf Try.prog 91 (.agg (plB R N C ks i).vs) = some l) (hn : D.atKey l (.lit (.bool false)) = .lit (.bool false)) :
    MapE R N C ks (i + 1) (D.put l (.lit (.bool true))) := by
  obtain ⟨h1, h2, h3, h4⟩ := h
  have hne : ∀ p, p < i → plB R N C ks p ≠ plB R N C ks i := fun p hp e => by
    have := h2 p hp l (by rw [e]; exact hl)
    rw [hn] at this
    simp at this
  refine ⟨?_, fun p hp l' hl' => ?_, fun p q hp hq e => ?_, fun q l' hl' ha => ?_⟩
  · obtain ⟨es, rfl⟩ := h1
    exact ⟨_, rfl⟩
  · by_cases e : p = i
    · subst e
      have e2 : l' = l := by rw [hl] at hl'; cases hl'; rfl
      subst e2
      exact Go.Maps.atKey_put_same h1 (law91.key hl) _ _
    · have e2 : l' ≠ l := fun e2 => by
        subst e2
        exact hne p (by omega) (bgEq (law91.inj hl' hl))
      rw [Go.Maps.atKey_put_other e2]
      exact h2 p (by omega) l' hl'
  · by_cases e1 : p = i
    · by_cases e2 : q = i
      · omega
      · subst e1; exact absurd e.symm (hne q (by omega))
    · by_cases e2 : q = i
      · subst e2; exact absurd e (hne p (by omega))
      · exact h3 p q (by omega) (by omega) e
  · by_cases e2 : l' = l
    · subst e2
      exact ⟨i, by omega, (bgEq (law91.inj hl' hl)).symm⟩
    · rw [Go.Maps.atKey_put_other e2] at ha
      obtain ⟨p, hp, e⟩ := h4 q l' hl' ha
      exact ⟨p, by omega, e⟩
def TellPostE (R : Nat) (N C ks : List Int) (w : World) (e : Ending) (w' : World) : Prop := Below w.heap.size w w' ∧ ∃ b : Bool, e = .returned (.bool b) ∧ (b = true ↔ TellsB R N C ks)

set_option maxRecDepth 100000 in
set_option maxHeartbeats 3000000 in
theorem tells_ex (R : Nat) (an ac ap : Option Addr) (cn cc cp : Nat) (N C P : List Int) (a : Option Addr) (ca : Nat) (ks : List Int) (w : World) (hk : Wk w R an ac ap N C P) (hX : Ints w a ks) (hl : ks.length ≤ 4) (hall : ks.all (isKindB C) = true) :
    Calls Try.prog 111 #[.agg #[.int .i64 (R : Int), .slice an N.length cn, .slice ac C.length cc, .slice ap P.length cp], .slice a ks.length ca] w (TellPostE R N C ks w) := by
  have hmm := @run_makeMap Try.prog
  have hv := hk.v
  have r1 := hv.r1
  have r2 := hv.r2
  obtain ⟨W, hW, hb, hs, x0⟩ := boxes1 w #[.int .i64 (R : Int), .slice an N.length cn, .slice ac C.length cc, .slice ap P.length cp] 73
  have hmb : w.heap.size < W.heap.size := by omega
  have own0 : OwnB (W.alloc (.map #[] 0)) W.heap.size 0 (.map []) := World.ownsMap_made W Try.prog 91 (plainElem Try.prog 4)
  have hb1 := below_one (w := W) (.map #[] 0)
  replace x0 := x0.below hb1
  replace hb := hb.trans (hb1.mono hb.size)
  clear hb1 hs
  have c0 := x0.cell 0 rfl; have c1 := x0.cell 1 rfl; have c2 := x0.cell 2 rfl; have c3 := x0.cell 3 rfl
  go_enter Try.func111, Try.ntmps111
  go_wp2
  clear hW c0 c1 c2 c3 hmm
  generalize W.alloc _ = W1 at *
  generalize W.heap.size = mb at *
  go_loopw [16] (fun v16 wr => ∃ (i : Nat) (D : DataW Unit) (k' : Nat), i ≤ R ∧ v16 = .int .i64 (i : Int) ∧ OwnB wr mb k' D ∧ k' ≤ i ∧ MapE R N C ks i D ∧ Below w.heap.size w wr ∧ Bx wr w.heap.size #[.int .i64 (R : Int), .slice an N.length cn, .slice ac C.length cc, .slice ap P.length cp] 73) (fun v16 _ => R - (intOf v16).toNat)
  case atStart => exact ⟨0, _, 0, Nat.zero_le _, rfl, own0, Nat.le_refl _, ⟨⟨_, rfl⟩, fun p hp => by omega, fun p q hp => by omega, fun q l _ ha => by simp [DataW.atKey] at ha⟩, hb, x0⟩
  case round =>
    clear own0 hb x0
    obtain ⟨i, D, k', hi, rfl, hown, hk', hmap, hb, x0⟩ := hrel
    obtain ⟨wo, rfl⟩ : ∃ wo : World, wo = wr := ⟨_, rfl⟩
    have hmo : mb < wo.heap.size := World.ownsMap.lt hown
    by_cases hlt : i < R
    · have hltI : (i : Int) < (R : Int) := by omega
      go_wp2
      obtain ⟨W7, hW7, hb7, hs7, x7⟩ := boxes1 wo #[.int .i64 0, .int .i64 0, .int .i64 0, .int .i64 0] 91
      rw [hW7]
      replace hown := hown.below hb7
      replace x0 := x0.below hb7
      replace hb := hb.trans (hb7.mono hb.size)
      obtain ⟨g, hg⟩ : ∃ x, x = wo.heap.size := ⟨_, rfl⟩
      rw [← hg] at x7 hmo ⊢
      have hwg : w.heap.size < g := by rw [hg]; exact Nat.lt_of_lt_of_le hmb (by omega)
      clear hW7 hb7 hs7 hg
      go_loopw [8, 22] (fun v8 v22 wj => ∃ (j q : Nat), j ≤ ks.length ∧ v22 = .int .i64 (j : Int) ∧ v8 = .int .i64 (q : Int) ∧ q = (i + tot C (ks.take j)) % R ∧ q < R ∧ OwnB wj mb k' D ∧ Below w.heap.size w wj ∧ Bx wj w.heap.size #[.int .i64 (R : Int), .slice an N.length cn, .slice ac C.length cc, .slice ap P.length cp] 73 ∧ Bx wj g (kB (whatS R N C i (ks.take j))).vs 91) (fun _ v22 _ => ks.length - (intOf v22).toNat)
      case atStart => exact ⟨0, i, Nat.zero_le _, rfl, rfl, by simp [tot, Nat.mod_eq_of_lt hlt], hlt, hown, hb, x0, x7⟩
      case round =>
        clear hown hb x0 x7
        obtain ⟨j, q, hj, rfl, rfl, hqe, hq, hown, hb, x0, x7⟩ := hrel
        have Hq := hid hqe; clear hqe
        have hgw := x7.lt
        by_cases hjl : j < ks.length
        · have hX2 := hX.below hb (Nat.le_refl _)
          obtain ⟨b, off, x, rfl, hbs, hcx, _, _, hx, _⟩ := hX2.at hjl
          obtain ⟨n, rfl, hn⟩ := kind_nat (List.all_eq_true.1 hall x (List.mem_of_getElem? hx.out))
          have hco := (hv.coin hn).2
          have hwl : (whatS R N C i (ks.take j)).length = j := by rw [whatS_len, List.length_take]; omega
          have hsn : kB (whatS R N C i (ks.take (j + 1))) = (kB (whatS R N C i (ks.take j))).set j (gv R N q (cw C n)) := by
            rw [List.take_add_one, hx.out, Option.toList_some, whatS_snoc _ _ _ hlt, kB_snoc _ _ _ (by omega), hwl, ← Hq.out, Int.toNat_natCast]
          have htk : (i + tot C (ks.take (j + 1))) % R = (q + cw C n) % R := by
            rw [List.take_add_one, hx.out, Option.toList_some, tot_snoc, ← Nat.add_assoc, Nat.add_mod, ← Hq.out, Int.toNat_natCast, Nat.add_mod q (cw C n), Nat.mod_eq_of_lt hq]
          have Hsn := hid hsn; have Htk := hid htk
          obtain ⟨A, hA⟩ : ∃ A, A = kB (whatS R N C i (ks.take j)) := ⟨_, rfl⟩
          rw [← hA] at x7 Hsn
          have hk2 := hk.below hb (Nat.le_refl _)
          clear hsn htk hA hwl hx
          have hjI : (j : Int) < (ks.length : Int) := by omega
          have hj4 : (j : Int) < 4 := by omega
          have hj4' : j < 4 := by omega
          have hj0 : (0 : Int) ≤ (j : Int) := by omega
          have c0 := x0.cell 0 rfl; have c1 := x0.cell 1 rfl; have c2 := x0.cell 2 rfl; have c3 := x0.cell 3 rfl
          go_wp2_with fail
          refine (worth_any _ _ _ _ _ _ _ _ _ _ n _ hk2 hn).mono ?_
          rintro e W8 ⟨rfl, hb1⟩
          replace hown := hown.below hb1
          replace x7 := x7.below hb1
          replace hk2 := hk2.below hb1 (Nat.le_refl _); (try clear c0 c1 c2 c3); replace x0 := x0.below hb1; have c0 := x0.cell 0 rfl; have c1 := x0.cell 1 rfl; have c2 := x0.cell 2 rfl; have c3 := x0.cell 3 rfl; replace hb := hb.trans (hb1.mono hb.size); clear hb1
          have hgv := gv_le_c hv q (cw C n)
          obtain ⟨cc', hcc⟩ : ∃ t, t = cw C n := ⟨_, rfl⟩
          rw [← hcc] at hco hgv Hsn Htk ⊢
          clear hcc
          go_wp2_with fail
          refine (gives_any _ _ _ _ _ _ _ _ _ _ q cc' _ hk2 (by omega) (by omega)).mono ?_
          rintro e W9 ⟨rfl, hb1⟩
          replace hown := hown.below hb1
          replace x7 := x7.below hb1
          replace hk2 := hk2.below hb1 (Nat.le_refl _); (try clear c0 c1 c2 c3); replace x0 := x0.below hb1; have c0 := x0.cell 0 rfl; have c1 := x0.cell 1 rfl; have c2 := x0.cell 2 rfl; have c3 := x0.cell 3 rfl; replace hb := hb.trans (hb1.mono hb.size); clear hb1
          obtain ⟨G, hG⟩ : ∃ t, t = gv R N q cc' := ⟨_, rfl⟩
          rw [← hG] at Hsn ⊢
          clear hG
          have ck := x7.cell j (Bg.vs_at A hj4')
          have fr := x7.free j
          go_upto_region 12 with fail
          have x9 := x7.set j (.int .i64 (G : Nat))
          rw [Bg.vs_set _ hj4'] at x9
          have hown9 := hown.kept (cell_grown' W9 ⟨g, j, none⟩ (.int .i64 (G : Nat))) (fun e => by have h := Option.some.inj e; dsimp only at h; omega)
          have x09 := x0.other (a := ⟨g, j, none⟩) (by show w.heap.size ≠ g; omega) (.int .i64 (G : Nat))
          have hb9 := hb.setCell (show w.heap.size ≤ (⟨g, j, none⟩ : Addr).block from by show w.heap.size ≤ g; omega) (.int .i64 (G : Nat))
          generalize W9.setCell _ _ = W10 at *
          clear x7 hown x0 hb ck fr c0 c1 c2 c3 hk2
          have c0 := x09.cell 0 rfl; have c1 := x09.cell 1 rfl; have c2 := x09.cell 2 rfl; have c3 := x09.cell 3 rfl
          go_wp2_with fail
          refine (turned_any _ _ _ _ _ _ _ _ _ _ q cc' _ hv (by omega) (by omega)).mono ?_
          rintro e W11 ⟨rfl, hb1⟩
          replace hown9 := hown9.below hb1
          replace x9 := x9.below hb1
          replace x09 := x09.below hb1
          replace hb9 := hb9.trans (hb1.mono hb9.size)
          clear hb1 c0 c1 c2 c3
          obtain ⟨q', hq'⟩ : ∃ t, t = (q + cc') % R := ⟨_, rfl⟩
          have hq'l : q' < R := by rw [hq']; exact Nat.mod_lt _ r1
          rw [← hq'] at Htk ⊢
          clear hq'
          go_wp2
          go_roundw
          case rel => exact ⟨j + 1, q', by omega, by go_num, rfl, Htk.out.symm, hq'l, hown9, hb9, x09, by rw [Hsn.out]; exact x9⟩
          case measure => simp [intOf]; omega
        · have hjI : (ks.length : Int) ≤ (j : Int) := by omega
          have hjl' : j = ks.length := by omega
          rw [hjl', List.take_length] at x7
          have hle := kB_le (N := N) hv ks i hall hlt
          obtain ⟨l, hkl⟩ := key91 (plB R N C ks i).a (plB R N C ks i).b (plB R N C ks i).c (plB R N C ks i).d (by omega) (by omega) (by omega) (by omega)
          have hnext := hmap.next (l := l) hkl
          have hfnd : D.atKey l (.lit (.bool false)) = .lit (.bool true) → ∃ p, p < i ∧ plB R N C ks p = plB R N C ks i := fun h => hmap.2.2.2 i l hkl h
          have Hfnd := hid hfnd; clear hfnd
          have Hmap := hid hmap; have Hnext := hid hnext
          obtain ⟨q1, hq1⟩ : ∃ t, t = plB R N C ks i := ⟨_, rfl⟩
          rw [show kB (whatS R N C i ks) = q1 from hq1.symm] at x7
          rw [← hq1] at hkl
          clear hq1 hle hmap hnext
          obtain ⟨v, ps, hrun, hv1⟩ := hown.lookup law91 under142 (zero4 _) (plainElem_bool Try.underlying4 false) hkl
          have hc : ∃ c, v = .bool c ∧ D.atKey l (.lit (.bool false)) = .lit (.bool c) := by
            unfold plainElem at hv1
            rw [Try.underlying4] at hv1
            cases v <;> simp at hv1
            exact ⟨_, rfl, hv1.1.symm⟩
          obtain ⟨c, rfl, hat⟩ := hc
          clear hv1
          replace x7 : Bx wr g #[.int .i64 q1.a, .int .i64 q1.b, .int .i64 q1.c, .int .i64 q1.d] 91 := x7
          have e0 := x7.cell 0 rfl; have e1 := x7.cell 1 rfl; have e2 := x7.cell 2 rfl; have e3 := x7.cell 3 rfl
          cases c
          · go_wp2_with (first | (at_mapUpdate; go_must (refine wpList_mapUpdate_own _ rfl _ _ _ 142 rfl 91 4 law91 under142 (plainElem Try.prog 4) mb k' D rfl hown (by unfold maxLen; omega) _ _ l rfl rfl hkl _ [] (plainElem_bool Try.underlying4 true) ?_); intro w1 hownU hgU))
            have hbU := hb.grown hgU hb.size (fun k hk => by cases hk; omega)
            have x0U := x0.gb hgU (fun k hk => by cases hk; omega)
            clear hown hb x0 x7 e0 e1 e2 e3 hrun hgU
            go_wp2
            go_roundw
            case rel => exact ⟨i + 1, _, k' + 1, by omega, by go_num, hownU, by omega, Hnext.out hat, hbU, x0U⟩
            case measure => simp [intOf]; omega
          · go_wp2
            go_ret
            exact ⟨hb, false, rfl, ⟨fun h => (by cases h), fun h => by obtain ⟨p, hp, e⟩ := Hfnd.out hat; have := h p i (by omega) hlt e; omega⟩⟩
    · have hltI : (R : Int) ≤ (i : Int) := by omega
      obtain rfl : i = R := by omega
      have hm3 := hid hmap.2.2.1
      clear hmap
      go_wp2
      go_ret
      exact ⟨hb, true, rfl, ⟨fun _ p q hp hq e => hm3.out p q hp hq e, fun _ => rfl⟩⟩
end Go.Proofs.Ytmkmnedojgigoaa
