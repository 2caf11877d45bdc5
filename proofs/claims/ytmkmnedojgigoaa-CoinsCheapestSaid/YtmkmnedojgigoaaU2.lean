import Derived.Test.YtmkmnedojgigoaaL1
import Derived.Test.YtmkmnedojgigoaaU1
import Derived.Lib.SmallJoins
namespace Go.Proofs.Ytmkmnedojgigoaa
open Go.RowKit

set_option maxRecDepth 100000 in
set_option maxHeartbeats 1000000 in
theorem rcan_any (R : Nat) (an ac : Option Addr) (cn cc : Nat) (N C : List Int) (L : Nat) (w : World) (hC : Ints w ac C) (hv : Vw R N C) (h2 : L ≤ 5000) :
    Calls Try.prog 84 #[.agg #[.int .i64 (R : Int), .slice an N.length cn, .slice ac C.length cc], .int .i64 L] w (RowPost (canL C L) w) := by
  obtain ⟨j0, hj, jz0, jz1, jz2⟩ := info_parts info3
  have c4 := hv.c4
  obtain ⟨W, hW, hb, hs, x0⟩ := boxes1 w #[.int .i64 (R : Int), .slice an N.length cn, .slice ac C.length cc] 24
  have hC0 := hC; clear hC
  have y : (W.alloc (.cells #[.int .i64 1] 3)).ownsRow (w.heap.size + 1) 3 1 (.slice (some ⟨W.heap.size, 0, none⟩) 1 1) 1 [.int .i64 1] := World.ownsRow_lit W #[.int .i64 1] 1 (by omega) (by unfold maxLen; omega) rfl
  have hb1 := below_one (w := W) (.cells #[.int .i64 1] 3)
  replace x0 := x0.below hb1
  replace hb := hb.trans (hb1.mono hb.size)
  clear hb1 hs
  go_enter Try.func84, Try.ntmps84
  go_wp2
  clear hW
  generalize W.alloc _ = W1 at *
  go_loopw [5, 6] (fun v5 v6 wr => ∃ (n : Nat), n ≤ L ∧ v6 = .int .i64 ((n : Int) + 1) ∧ wr.ownsRow (w.heap.size + 1) 3 1 v5 (canL C n).length ((canL C n).map (Value.int .i64)) ∧ Below w.heap.size w wr ∧ Bx wr w.heap.size #[.int .i64 (R : Int), .slice an N.length cn, .slice ac C.length cc] 24) (fun _ v6 _ => L + 1 - (intOf v6).toNat)
  case atStart => exact ⟨0, Nat.zero_le _, rfl, y, hb, x0⟩
  case round =>
    clear y hb x0
    obtain ⟨n, hn, rfl, hown, hb, x0⟩ := hrel
    obtain ⟨q0, hq0⟩ : ∃ x, x = (canL C n).length := ⟨_, rfl⟩
    rw [← hq0] at hown
    have hl : q0 = n + 1 := by rw [hq0, canL_len]
    have Hq0 := hid hq0; clear hq0
    have hqb : q0 ≤ 5001 := by omega
    obtain ⟨wo, rfl⟩ : ∃ wo : World, wo = wr := ⟨_, rfl⟩
    by_cases hlt : n < L
    · obtain ⟨g, cap, rfl⟩ := Go.Joins.ownsRow_form hown (by omega)
      have hlB : decide ((n : Int) + 1 ≤ (L : Int)) = true := by simp; omega
      have Hl := hid hl; clear hl
      go_wp2
      go_loopw [7, 8] (fun v7 v8 wi => ∃ (j : Nat), j ≤ C.length ∧ v8 = .int .i64 j ∧ v7 = .int .i64 (if (C.take j).any (one (tab C n) (n + 1)) then 1 else 0) ∧ Qd wo wi) (fun _ v8 _ => C.length - (intOf v8).toNat)
      case atStart => exact ⟨0, Nat.zero_le _, rfl, by simp, Qd.refl _⟩
      case round =>
        obtain ⟨j, hj', rfl, rfl, hqd⟩ := hrel
        have hb1 := hqd.below wo.heap.size
        replace hown := own_below hown hb1
        (try clear c0 c1 c2); replace x0 := x0.below hb1; have c0 := x0.cell 0 rfl; have c1 := x0.cell 1 rfl; have c2 := x0.cell 2 rfl; replace hb := hb.trans (hb1.mono hb.size); clear hb1
        by_cases hjl : j < C.length
        · have hC := hC0.below hb (Nat.le_refl _)
          obtain ⟨ba, off, x, rfl, hbs, hc, _, _, hx, hd⟩ := hC.at hjl
          have hco := hv.coin hjl
          have hxe : x = (cw C j : Int) := by have := hx.out; rw [hco.1] at this; simpa using this.symm
          have htk : (C.take (j + 1)).any (one (tab C n) (n + 1)) = ((C.take j).any (one (tab C n) (n + 1)) || one (tab C n) (n + 1) x) := by rw [List.take_add_one, hx.out]; simp
          have Htk := hid htk
          generalize cw C j = q at *
          subst hxe
          have hq := hco.2
          clear htk hco hx hd
          by_cases hle : q ≤ n + 1
          · have z0 := hown.cellAt (n + 1 - q) (by have := Hl.out; omega)
            rw [List.getElem?_map, canL_at C (by omega)] at z0
            have ho1 : one (tab C n) (n + 1) (q : Int) = (tab C n).getD (n + 1 - q) false := by simp [one]; intro; omega
            rw [← ho1] at z0
            clear ho1
            have b1 : (n : Int) + 1 - (q : Int) < (q0 : Int) := by have := Hl.out; omega
            obtain ⟨z, hz⟩ : ∃ z : Int, z = if (C.take j).any (one (tab C n) (n + 1)) then 1 else 0 := ⟨_, rfl⟩
            rw [← hz]
            have Hz := hid hz; clear hz
            cases hb0 : one (tab C n) (n + 1) (q : Int)
            · rw [hb0, Bool.or_false] at Htk
              rw [hb0] at z0
              simp only [Bool.false_eq_true, if_false, Option.map_some] at z0
              clear hb0
              go_wp2
              go_roundw
              case rel => exact ⟨j + 1, by omega, by go_num, by rw [Htk.out, Hz.out], hqd⟩
              case measure => simp [intOf]; omega
            · rw [hb0, Bool.or_true] at Htk
              rw [hb0] at z0
              simp only [if_true, Option.map_some] at z0
              clear hb0
              go_wp2
              go_roundw
              case rel => exact ⟨j + 1, by omega, by go_num, by rw [Htk.out]; rfl, hqd⟩
              case measure => simp [intOf]; omega
          · have ho1 : one (tab C n) (n + 1) (q : Int) = false := by simp [one]; intro; omega
            rw [ho1, Bool.or_false] at Htk
            clear ho1
            obtain ⟨z, hz⟩ : ∃ z : Int, z = if (C.take j).any (one (tab C n) (n + 1)) then 1 else 0 := ⟨_, rfl⟩
            rw [← hz]
            have Hz := hid hz; clear hz
            go_wp2
            go_roundw
            case rel => exact ⟨j + 1, by omega, by go_num, by rw [Htk.out, Hz.out], hqd⟩
            case measure => simp [intOf]; omega
        · obtain rfl : j = C.length := by omega
          rw [List.take_of_length_le (Nat.le_refl _)]
          obtain ⟨z, hz⟩ : ∃ z : Int, z = if C.any (one (tab C n) (n + 1)) then 1 else 0 := ⟨_, rfl⟩
          rw [← hz]
          have HS := hid (canL_next C n)
          have hlt0 := x0.lt
          rw [← hz] at HS
          clear hz
          go_wp2_with (first | (at_builtin; go_must (refine wpList_append_own _ rfl _ _ 22 rfl (w.heap.size + 1) 3 j0 (.int .i64 0) 1 8 under22 hj jz0 jz1 jz2 rfl (by decide) _ _ _ rfl (hown.alloc _) ⟨wr.heap.size, 0, none⟩ 1 1 [.int .i64 z] rfl rfl (cell_one_new _ _ _) (ints_oneCell .i64 [z]) (by unfold maxLen; omega) (by omega) (by simp; omega) ?_); intro v' w1 hown' hgrow _))
          have hge := own_ge hown
          have hb' : Below w.heap.size w w1 := (hb.alloc (by omega) _).grown hgrow (by simp; omega) (fun k hk => by have := hge k hk; omega)
          have x0' := (x0.alloc (.cells #[.int .i64 z] 3)).gb hgrow (fun k hk => by have := hge k hk; omega)
          clear hown hgrow x0 hb hge c0 c1 c2
          go_wp2
          go_roundw
          case rel => exact ⟨n + 1, by omega, by go_num, by rw [HS.out, List.length_append, ← Hq0.out]; simpa using hown', hb', x0'⟩
          case measure => simp [intOf]; omega
    · go_wp2
      go_ret
      obtain rfl : n = L := by omega
      rw [Hq0.out] at hown
      obtain ⟨a, ca, rfl, hi⟩ := Ints.of_own hown (by rw [canL_len]; omega) (fun x hx => by have := canL_rng C n x hx; omega)
      exact ⟨hb, a, ca, rfl, hi, fun x hx => by have := own_new hown x hx; omega⟩
end Go.Proofs.Ytmkmnedojgigoaa
