import Derived.Test.YthgjjlkdekfdbaaT8
/-! The reference's look at a contract; what the statements look at. -/
namespace Go.Proofs.Ythgjjlkdekfdbaa
set_option linter.unusedSimpArgs false
set_option linter.unusedVariables false
open Go Go.RowKit

set_option maxRecDepth 100000 in
set_option maxHeartbeats 1000000 in
theorem far_any (ac : Option Addr) (cc n : Nat) (L : Int) (hn : n ≤ 9223372036854775807) (w : World) : Calls Try.prog 14 #[.agg #[.slice ac n cc, .int .i64 L]] w fun e w' => e = .returned (.bool (decide (40 < n))) ∧ Below w.heap.size w w' := by
  obtain ⟨W, hW, hb, _, x0⟩ := boxes1 w #[.slice ac n cc, .int .i64 L] 24
  have c0 := x0.cell 0 rfl; have c1 := x0.cell 1 rfl
  obtain ⟨r, hr⟩ : ∃ r, r = decide (40 < n) := ⟨_, rfl⟩
  rw [← hr]
  by_cases h : 40 < n
  · have hI : (40 : Int) < (n : Int) := by omega
    have hd := hid (show r = true by rw [hr]; exact decide_eq_true h)
    clear h hr
    go_enter Try.func14, Try.ntmps14
    go_wp2
    go_ret
    exact ⟨ret_bool (by rw [hd.out]), hb⟩
  · have hI : (n : Int) ≤ 40 := by omega
    have hd := hid (show r = false by rw [hr]; exact decide_eq_false h)
    clear h hr
    go_enter Try.func14, Try.ntmps14
    go_wp2
    go_ret
    exact ⟨ret_bool (by rw [hd.out]; exact decide_eq_false (by omega)), hb⟩

/-- The error of a contract. -/
def cod (b : Bool) : Int := if b then 0 else 90
theorem shB_loan {cs : List Cl} {L : Int} (h : cenB L = false) : shB cs L = false := by
  unfold cenB at h; unfold shB; rw [h]; simp
set_option maxRecDepth 100000 in
set_option maxHeartbeats 6000000 in
theorem refCheck_any (ac : Option Addr) (cc : Nat) (cs : List Cl) (L : Int) (w : World) (hX : Clz w ac cs) : Calls Try.prog 18 #[.agg #[.slice ac cs.length cc, .int .i64 L]] w fun e w' => e = .returned (.int .i64 (cod (shB cs L))) ∧ Below w.heap.size w w' := by
  obtain ⟨W, hW, hb, _, x0⟩ := boxes1 w #[.slice ac cs.length cc, .int .i64 L] 24
  have c0 := x0.cell 0 rfl; have c1 := x0.cell 1 rfl
  have hlen := hX.len
  have HL := fun h => shB_len (cs := cs) (L := L) h
  have HL2 := fun h => shB_loan (cs := cs) (L := L) h
  have HN := fun x hx h => shB_no (cs := cs) (L := L) (x := x) hx h
  have HA := fun h ha => shB_all (cs := cs) (L := L) h ha
  have hce := fun V => IsCents_any L V
  obtain ⟨q, hq⟩ : ∃ q, q = shB cs L := ⟨_, rfl⟩
  rw [← hq] at HL HL2 HN HA ⊢
  clear hq
  obtain ⟨n, hn⟩ : ∃ n, n = cs.length := ⟨_, rfl⟩
  rw [← hn] at hlen HL HA c0 x0 hW
  rw [← hn]
  have HLN := hid hn
  clear hn
  by_cases h5 : n ≤ 5
  · have h5I : (n : Int) ≤ 5 := by omega
    replace HA := HA h5
    cases hcl : cenB L
    · have HR := hid (HL2 hcl)
      rw [hcl] at hce
      clear HL HL2 HA HN hX h5
      go_enter Try.func18, Try.ntmps18
      go_wp2_with fail
      refine (hce _).mono ?_
      rintro e V1 ⟨rfl, rfl⟩
      go_wp2
      go_ret
      exact ⟨ret_int (by rw [HR.out]; rfl), hb⟩
    · rw [hcl] at hce HA
      have hX1 := hX.below hb (Nat.le_refl _)
      clear HL HL2 hX
      go_enter Try.func18, Try.ntmps18
      go_wp2_with fail
      refine (hce _).mono ?_
      rintro e V1 ⟨rfl, rfl⟩
      go_wp2
      clear hW c0 c1
      go_loopw [3, 4] (fun v3 v4 wr => ∃ k : Nat, k ≤ n ∧ v3 = .int .i64 (k : Int) ∧ Hid ((cs.take k).all clB = true) ∧ Below W.heap.size W wr) (fun v3 _ _ => n - (intOf v3).toNat)
      case atStart => exact ⟨0, Nat.zero_le _, rfl, hid rfl, Below.refl _ _⟩
      case round =>
        obtain ⟨k, hk, rfl, HK, hb1⟩ := hrel
        have x0r := x0.below hb1
        have c0 := x0r.cell 0 rfl
        by_cases hlt : k < n
        · have hXr := hX1.below hb1 (Nat.le_refl _)
          obtain ⟨b, off, x, rfl, hbl, ⟨q0, q1, q2, q3⟩, _, hmem, _, _, htk⟩ := hXr.at (k := k) (by rw [← HLN.out]; exact hlt)
          have hkI : (k : Int) < n := by omega
          have hk0 : (0 : Int) ≤ (k : Int) := by omega
          have h1 := fun V => within_any x.k 1 5 V
          have h2 := fun V => IsCents_any x.c V
          have h3 := fun V => within_any x.p 0 100 V
          have h4 := fun V => within_any x.m 0 100 V
          have hno := HN x hmem
          have hcb : clB x = (inI 1 x.k 5 && cenB x.c && inI 0 x.p 100 && inI 0 x.m 100) := rfl
          have hba := below_one (w := wr) (.cells #[.int .i64 x.k, .int .i64 x.c, .int .i64 x.p, .int .i64 x.m] 56)
          have hb2 := hb1.trans (hba.mono hb1.size)
          have hbr := hb.trans (hb2.mono hb.size)
          have hyes := fun hh => all_snoc (x := x) HK.out hh
          have xn := Bx.new wr #[.int .i64 x.k, .int .i64 x.c, .int .i64 x.p, .int .i64 x.m] 56
          generalize clB x = r at *
          generalize inI 1 x.k 5 = r1 at *
          generalize cenB x.c = r2 at *
          generalize inI 0 x.p 100 = r3 at *
          generalize inI 0 x.m 100 = r4 at *
          subst hcb
          clear HN hmem hXr hba HA
          go_upto_region 7 with fail
          clear q0 q1 q2 q3 c0
          generalize wr.heap.size = gb at *
          generalize wr.alloc _ = V2 at *
          have d0 := xn.cell 0 rfl; have d1 := xn.cell 1 rfl; have d2 := xn.cell 2 rfl; have d3 := xn.cell 3 rfl
          cases r1
          · have HR := hid (hno rfl)
            clear hno hyes htk
            go_wp2_with fail
            refine (h1 _).mono ?_
            rintro e V3 ⟨rfl, rfl⟩
            go_wp2
            go_ret
            exact ⟨ret_int (by rw [HR.out]; rfl), hbr⟩
          · cases r2
            · have HR := hid (hno rfl)
              clear hno hyes htk
              go_wp2_with fail
              refine (h1 _).mono ?_
              rintro e V3 ⟨rfl, rfl⟩
              go_wp2_with fail
              refine (h2 _).mono ?_
              rintro e V3 ⟨rfl, rfl⟩
              go_wp2
              go_ret
              exact ⟨ret_int (by rw [HR.out]; rfl), hbr⟩
            · cases r3
              · have HR := hid (hno rfl)
                clear hno hyes htk
                go_wp2_with fail
                refine (h1 _).mono ?_
                rintro e V3 ⟨rfl, rfl⟩
                go_wp2_with fail
                refine (h2 _).mono ?_
                rintro e V3 ⟨rfl, rfl⟩
                go_wp2_with fail
                refine (h3 _).mono ?_
                rintro e V3 ⟨rfl, rfl⟩
                go_wp2
                go_ret
                exact ⟨ret_int (by rw [HR.out]; rfl), hbr⟩
              · cases r4
                · have HR := hid (hno rfl)
                  clear hno hyes htk
                  go_wp2_with fail
                  refine (h1 _).mono ?_
                  rintro e V3 ⟨rfl, rfl⟩
                  go_wp2_with fail
                  refine (h2 _).mono ?_
                  rintro e V3 ⟨rfl, rfl⟩
                  go_wp2_with fail
                  refine (h3 _).mono ?_
                  rintro e V3 ⟨rfl, rfl⟩
                  go_wp2_with fail
                  refine (h4 _).mono ?_
                  rintro e V3 ⟨rfl, rfl⟩
                  go_wp2
                  go_ret
                  exact ⟨ret_int (by rw [HR.out]; rfl), hbr⟩
                · have HK2 := hid (show (cs.take (k + 1)).all clB = true by rw [htk.out]; exact hyes rfl)
                  clear hno hyes htk hbr
                  go_wp2_with fail
                  refine (h1 _).mono ?_
                  rintro e V3 ⟨rfl, rfl⟩
                  go_wp2_with fail
                  refine (h2 _).mono ?_
                  rintro e V3 ⟨rfl, rfl⟩
                  go_wp2_with fail
                  refine (h3 _).mono ?_
                  rintro e V3 ⟨rfl, rfl⟩
                  go_wp2_with fail
                  refine (h4 _).mono ?_
                  rintro e V3 ⟨rfl, rfl⟩
                  go_wp2
                  go_roundw
                  case rel => exact ⟨k + 1, by omega, by simp, HK2, hb2⟩
                  case measure => simp [intOf]; omega
        · have hkn : k = n := by omega
          have hall : cs.all clB = true := by
            have := HK.out
            rwa [hkn, HLN.out, List.take_length] at this
          have HR := hid (HA hall)
          have hkI : ¬ (k : Int) < n := by omega
          have hbr := hb.trans (hb1.mono hb.size)
          clear hall hkn HA HN HK hX1 x0r x0
          go_wp2
          go_ret
          exact ⟨ret_int (by rw [HR.out]; rfl), hbr⟩
  · have h5I : (5 : Int) < (n : Int) := by omega
    have HR := hid (HL h5)
    clear HL HL2 HA HN hX h5
    go_enter Try.func18, Try.ntmps18
    go_wp2
    go_ret
    exact ⟨ret_int (by rw [HR.out]; rfl), hb⟩

/-- Whether a contract is one that the statements ask about. -/
def isB (cs : List Cl) (L : Int) : Bool := decide (cs.length ≤ 40) && shB cs L
theorem isB_iff {cs : List Cl} {L : Int} : isB cs L = shB cs L := by
  unfold isB
  by_cases h : cs.length ≤ 40
  · rw [decide_eq_true h, Bool.true_and]
  · rw [decide_eq_false h, Bool.false_and, shB_len (by omega)]
set_option maxRecDepth 100000 in
set_option maxHeartbeats 2000000 in
theorem isShare_any (ac : Option Addr) (cc : Nat) (cs : List Cl) (L : Int) (w : World) (hl : cs.length ≤ 9223372036854775807) (hX : cs.length ≤ 1000 → Clz w ac cs) : Calls Try.prog 38 #[.agg #[.slice ac cs.length cc, .int .i64 L]] w fun e w' => e = .returned (.bool (shB cs L)) ∧ Below w.heap.size w w' := by
  obtain ⟨W, hW, hb, _, x0⟩ := boxes1 w #[.slice ac cs.length cc, .int .i64 L] 24
  have hf := far_any ac cc cs.length L hl W
  have c0 := x0.cell 0 rfl; have c1 := x0.cell 1 rfl
  by_cases h : 40 < cs.length
  · have HR := hid (shB_len (cs := cs) (L := L) (by omega))
    rw [decide_eq_true h] at hf
    clear h hl hX
    go_enter Try.func38, Try.ntmps38
    go_wp2_with fail
    refine hf.mono ?_
    rintro e V1 ⟨rfl, hb1⟩
    replace hb := hb.trans (hb1.mono hb.size)
    clear c0 c1 x0 hb1 hf
    go_wp2
    go_ret
    exact ⟨ret_bool (by rw [HR.out]), hb⟩
  · rw [decide_eq_false h] at hf
    have hX1 := (hX (by omega)).below hb (Nat.le_refl _)
    have hck := fun V hh => refCheck_any ac cc cs L V hh
    generalize shB cs L = q at *
    clear h hl hX
    go_enter Try.func38, Try.ntmps38
    go_wp2_with fail
    refine hf.mono ?_
    rintro e V1 ⟨rfl, hb1⟩
    replace x0 := x0.below hb1
    replace hX1 := hX1.below hb1 (Nat.le_refl _)
    replace hb := hb.trans (hb1.mono hb.size)
    clear c0 c1 hb1 hf
    have c0 := x0.cell 0 rfl; have c1 := x0.cell 1 rfl
    go_wp2_with fail
    refine (hck _ hX1).mono ?_
    rintro e V2 ⟨rfl, hb1⟩
    replace hb := hb.trans (hb1.mono hb.size)
    clear c0 c1 hb1 hck x0 hX1
    cases q
    · go_wp2
      go_ret
      exact ⟨rfl, hb⟩
    · go_wp2
      go_ret
      exact ⟨rfl, hb⟩

set_option maxRecDepth 100000 in
set_option maxHeartbeats 2000000 in
theorem isSplit_ok (u : Wk) (t L : Int) (h : Inv t L u) (h0 : u.rest = 0) (ht : t ≤ 1000000) (w : World) : Calls Try.prog 40 #[.agg #[.int .i64 u.op, .int .i64 u.ow, .int .i64 u.rp], .int .i64 t, .int .i64 L] w fun e w' => e = .returned (.bool true) ∧ Below w.heap.size w w' := by
  obtain ⟨W, hW, hb, _, x0⟩ := boxes1 w #[.int .i64 u.op, .int .i64 u.ow, .int .i64 u.rp] 33
  obtain ⟨h1, h2, h3, h4, h5, h6, h7, h8⟩ := h
  have a1 : u.op ≤ t := by omega
  have a2 : u.ow = t - u.op := by omega
  have a3 : (u.ow == t - u.op) = true := by simp [a2]
  have e0 : IntKind.i64.wrap (t - u.op) = t - u.op := IntWalk.i64_in _ (by omega)
  have a4 : u.rp ≤ L := by omega
  have c0 := x0.cell 0 rfl; have c1 := x0.cell 1 rfl; have c2 := x0.cell 2 rfl
  clear h0 h2 h4 h5 h6 h8 a2
  by_cases hm : u.op ≤ L
  · go_enter Try.func40, Try.ntmps40
    go_wp2
    go_ret
    exact ⟨rfl, hb⟩
  · have hm2 : L < u.op := by omega
    go_enter Try.func40, Try.ntmps40
    go_wp2
    go_ret
    exact ⟨rfl, hb⟩
end Go.Proofs.Ythgjjlkdekfdbaa
