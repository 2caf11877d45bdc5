import Derived.Test.YthgjjlkdekfdbaaT1
/-! Whether a contract is valid. -/
namespace Go.Proofs.Ythgjjlkdekfdbaa
set_option linter.unusedSimpArgs false
set_option linter.unusedVariables false
open Go Go.RowKit

theorem shB_len {cs : List Cl} {L : Int} (h : ¬ cs.length ≤ 5) : shB cs L = false := by unfold shB; rw [decide_eq_false h]; simp
theorem shB_no {cs : List Cl} {L : Int} {x : Cl} (hx : x ∈ cs) (h : clB x = false) : shB cs L = false := by
  unfold shB
  have : cs.all clB = false := by
    rw [← Bool.not_eq_true, List.all_eq_true]
    intro hh
    rw [hh x hx] at h; cases h
  rw [this]; simp
theorem shB_all {cs : List Cl} {L : Int} (h : cs.length ≤ 5) (ha : cs.all clB = true) : shB cs L = cenB L := by
  unfold shB cenB; rw [decide_eq_true h, ha]; simp
theorem all_snoc {cs : List Cl} {x : Cl} (h : cs.all clB = true) (hx : clB x = true) : (cs ++ [x]).all clB = true := by
  rw [List.all_append, h]; simp [hx]

set_option maxRecDepth 100000 in
set_option maxHeartbeats 3000000 in
theorem valid_any (ac : Option Addr) (cc : Nat) (cs : List Cl) (L : Int) (w : World) (hX : Clz w ac cs) : Calls Try.prog 48 #[.agg #[.slice ac cs.length cc, .int .i64 L]] w fun e w' => e = .returned (.bool (shB cs L)) ∧ Below w.heap.size w w' := by
  obtain ⟨W, hW, hb, _, x0⟩ := boxes1 w #[.slice ac cs.length cc, .int .i64 L] 24
  have c0 := x0.cell 0 rfl; have c1 := x0.cell 1 rfl
  have hlen := hX.len
  have HL := fun h => shB_len (cs := cs) (L := L) h
  have HN := fun x hx h => shB_no (cs := cs) (L := L) (x := x) hx h
  have HA := fun h ha => shB_all (cs := cs) (L := L) h ha
  obtain ⟨r, hr⟩ : ∃ r, r = shB cs L := ⟨_, rfl⟩
  rw [← hr] at HL HN HA ⊢
  clear hr
  obtain ⟨n, hn⟩ : ∃ n, n = cs.length := ⟨_, rfl⟩
  rw [← hn] at hlen HL HA c0 x0 hW
  rw [← hn]
  have HLN := hid hn
  clear hn
  by_cases h5 : n ≤ 5
  · have h5I : (n : Int) ≤ 5 := by omega
    replace HA := HA h5
    have hX1 := hX.below hb (Nat.le_refl _)
    clear HL hX
    go_enter Try.func48, Try.ntmps48
    go_wp2
    clear hW c0 c1
    go_loopw [4, 12] (fun v4 v12 wr => ∃ k : Nat, k ≤ n ∧ v12 = .int .i64 (k : Int) ∧ Hid ((cs.take k).all clB = true) ∧ Below W.heap.size W wr) (fun _ v12 _ => n - (intOf v12).toNat)
    case atStart => exact ⟨0, Nat.zero_le _, rfl, hid rfl, Below.refl _ _⟩
    case round =>
      obtain ⟨k, hk, rfl, HK, hb1⟩ := hrel
      by_cases hlt : k < n
      · have hXr := hX1.below hb1 (Nat.le_refl _)
        obtain ⟨b, off, x, rfl, hbl, ⟨q0, q1, q2, q3⟩, _, hmem, _, _, htk⟩ := hXr.at (k := k) (by rw [← HLN.out]; exact hlt)
        have hkI : (k : Int) < n := by omega
        have hk0 : (0 : Int) ≤ (k : Int) := by omega
        have hv := fun v => isValid_any x v
        have hno := HN x hmem
        have hb2 := hb1.trans ((below_one (w := wr) (.cells #[.int .i64 x.k, .int .i64 x.c, .int .i64 x.p, .int .i64 x.m] 56)).mono hb1.size)
        have hbr := hb.trans (hb2.mono hb.size)
        have hsz := hb2.size
        cases hc : clB x
        · rw [hc] at hv
          have HR := hid (hno hc)
          clear hno hc hmem HN HA htk hXr hb1
          go_wp2_with fail
          refine (hv _).mono ?_
          rintro e V1 ⟨rfl, hb3⟩
          replace hbr := hbr.trans (hb3.mono hbr.size)
          clear q0 q1 q2 q3 hv
          go_wp2
          go_ret
          exact ⟨ret_bool (by rw [HR.out]), hbr⟩
        · rw [hc] at hv
          have HK2 := hid (show (cs.take (k + 1)).all clB = true by rw [htk.out]; exact all_snoc HK.out hc)
          clear hno hc hmem HN HA htk hXr hb1 hbr
          go_wp2_with fail
          refine (hv _).mono ?_
          rintro e V1 ⟨rfl, hb3⟩
          replace hb2 := hb2.trans (hb3.mono hb2.size)
          clear q0 q1 q2 q3 hv
          go_wp2
          go_roundw
          case rel => exact ⟨k + 1, by omega, by simp, HK2, hb2⟩
          case measure => simp [intOf]; omega
      · have hkn : k = n := by omega
        have hall : cs.all clB = true := by
          have := HK.out
          rwa [hkn, HLN.out, List.take_length] at this
        have HR := HA hall
        have hce := isCents_any L wr
        rw [← HR] at hce
        have hkI : ¬ (k : Int) < n := by omega
        replace x0 := x0.below hb1
        have hbr := hb.trans (hb1.mono hb.size)
        have c0 := x0.cell 0 rfl; have c1 := x0.cell 1 rfl
        clear HR hall hkn HA HN HK hX1 x0
        go_wp2_with fail
        refine hce.mono ?_
        rintro e V1 ⟨rfl, rfl⟩
        go_wp2
        go_ret
        exact ⟨rfl, hbr⟩
  · have h5I : (5 : Int) < (n : Int) := by omega
    have HR := hid (HL h5)
    clear HL HA HN hX h5
    go_enter Try.func48, Try.ntmps48
    go_wp2
    go_ret
    exact ⟨ret_bool (by rw [HR.out]), hb⟩

/-- The error of a contract that is asked for something. -/
def askE (cs : List Cl) (L : Int) (o : Bool) : Int := if shB cs L then (if o then 0 else 1) else 90
set_option maxRecDepth 100000 in
set_option maxHeartbeats 2000000 in
theorem check_any (ac : Option Addr) (cc : Nat) (cs : List Cl) (L : Int) (o : Bool) (w : World) (hX : Clz w ac cs) : Calls Try.prog 50 #[.agg #[.slice ac cs.length cc, .int .i64 L], .bool o] w fun e w' => e = .returned (.int .i64 (askE cs L o)) ∧ Below w.heap.size w w' := by
  obtain ⟨W, hW, hb, _, x0⟩ := boxes1 w #[.slice ac cs.length cc, .int .i64 L] 24
  have hv := valid_any ac cc cs L W (hX.below hb (Nat.le_refl _))
  unfold askE
  generalize shB cs L = r at *
  have c0 := x0.cell 0 rfl; have c1 := x0.cell 1 rfl
  clear x0
  go_enter Try.func50, Try.ntmps50
  go_wp2_with fail
  refine hv.mono ?_
  rintro e W1 ⟨rfl, hb1⟩
  replace hb := hb.trans (hb1.mono hb.size)
  clear c0 c1 hW hv
  cases r
  · go_wp2
    go_ret
    exact ⟨rfl, hb⟩
  · cases o
    · go_wp2
      go_ret
      exact ⟨rfl, hb⟩
    · go_wp2
      go_ret
      exact ⟨rfl, hb⟩
set_option maxRecDepth 100000 in
set_option maxHeartbeats 2000000 in
theorem Check_any (ac : Option Addr) (cc : Nat) (cs : List Cl) (L : Int) (w : World) (hX : Clz w ac cs) : Calls Try.prog 17 #[.agg #[.slice ac cs.length cc, .int .i64 L]] w fun e w' => e = .returned (.int .i64 (if shB cs L then 0 else 90)) ∧ Below w.heap.size w w' := by
  obtain ⟨W, hW, hb, _, x0⟩ := boxes1 w #[.slice ac cs.length cc, .int .i64 L] 24
  have hv := valid_any ac cc cs L W (hX.below hb (Nat.le_refl _))
  generalize shB cs L = r at *
  have c0 := x0.cell 0 rfl; have c1 := x0.cell 1 rfl
  clear x0
  go_enter Try.func17, Try.ntmps17
  go_wp2_with fail
  refine hv.mono ?_
  rintro e W1 ⟨rfl, hb1⟩
  replace hb := hb.trans (hb1.mono hb.size)
  clear c0 c1 hW hv
  cases r
  · go_wp2
    go_ret
    exact ⟨rfl, hb⟩
  · go_wp2
    go_ret
    exact ⟨rfl, hb⟩
end Go.Proofs.Ythgjjlkdekfdbaa
