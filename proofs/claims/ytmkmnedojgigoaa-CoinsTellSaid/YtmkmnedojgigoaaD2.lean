import Derived.Test.YtmkmnedojgigoaaD1
namespace Go.Proofs.Ytmkmnedojgigoaa
open Go.RowKit

def vrowB (xs : List Bool) : Array Value := (xs.map Value.bool).toArray
theorem vrowB_at {xs : List Bool} {k : Nat} {x : Bool} (h : xs[k]? = some x) : (vrowB xs)[k]? = some (.bool x) := by simp [vrowB, h]
theorem vrowB_set (xs : List Bool) (k : Nat) (x : Bool) : (vrowB xs).setIfInBounds k (.bool x) = vrowB (xs.set k x) := by
  simp [vrowB, List.map_set]
theorem made_bools (n : Nat) : (madeCells (Value.bool false).cells (n * 1)).toList.toArray = vrowB (List.replicate n false) := by
  unfold vrowB
  congr 1
  have e : ∀ x : Nat, (Value.bool false).cells[x % (Value.bool false).cells.size]! = .bool false := fun x => by
    have : x % (Value.bool false).cells.size = 0 := Nat.mod_one x
    rw [this]; rfl
  simp only [madeCells, Nat.mul_one]
  simp only [e]
  simp [List.map_const']
theorem under137 : Try.prog.underlying 137 = some (.slice 4) := by kernel_rfl
theorem info4 : (Try.prog.info? 4).map (fun i => (i.zero, i.size, i.bytes)) = some (some (.bool false), 1, 1) := by kernel_rfl

/-- Can so many cents be the worth of coins, given the table of all lesser ones. -/
def one (T : List Bool) (n : Nat) (w : Int) : Bool := decide (w ≤ n) && T.getD (n - w.toNat) false
/-- Which cents up to n can be the worth of coins. -/
def tab (C : List Int) : Nat → List Bool
  | 0 => [true]
  | n + 1 => tab C n ++ [C.any (one (tab C n) (n + 1))]
theorem tab_len (C : List Int) : ∀ n, (tab C n).length = n + 1
  | 0 => rfl
  | n + 1 => by simp [tab, tab_len C n]
/-- The worths of coins from 1 to n. -/
def sml (C : List Int) : Nat → List Int
  | 0 => []
  | n + 1 => if C.any (one (tab C n) (n + 1)) then sml C n ++ [((n + 1 : Nat) : Int)] else sml C n
theorem sml_len (C : List Int) : ∀ n, (sml C n).length ≤ n
  | 0 => Nat.le_refl _
  | n + 1 => by
    have := sml_len C n
    unfold sml
    split
    · simp; omega
    · omega
/-- The row of bools at the beginning of a round, with b where the round's own cents stand. -/
def brow (C : List Int) (L n : Nat) (b : Bool) : List Bool := tab C n ++ b :: List.replicate (L - (n + 1)) false
theorem brow_len (C : List Int) (L n : Nat) (b : Bool) (h : n + 1 ≤ L) : (brow C L n b).length = L + 1 := by simp [brow, tab_len]; omega
theorem brow_at (C : List Int) (L n : Nat) (b : Bool) : (brow C L n b)[n + 1]? = some b := by
  unfold brow
  rw [List.getElem?_append_right (by rw [tab_len]; omega), tab_len]
  simp
theorem brow_old (C : List Int) (L n i : Nat) (b : Bool) (h : i ≤ n) : (brow C L n b)[i]? = some ((tab C n).getD i false) := by
  unfold brow
  have := tab_len C n
  rw [List.getElem?_append_left (by omega)]
  simp [List.getD, show i < (tab C n).length by omega]
theorem brow_set (C : List Int) (L n : Nat) (b c : Bool) : (brow C L n b).set (n + 1) c = brow C L n c := by
  unfold brow
  rw [List.set_append_right _ _ (by rw [tab_len]; omega), tab_len]
  simp
theorem brow_next (C : List Int) (L n : Nat) (h : n + 2 ≤ L) : brow C L n (C.any (one (tab C n) (n + 1))) = brow C L (n + 1) false := by
  unfold brow
  rw [show L - (n + 1) = (L - (n + 1 + 1)) + 1 by omega, List.replicate_succ]
  simp [tab]
theorem brow_zero (C : List Int) (L : Nat) (h : 1 ≤ L) : (List.replicate (L + 1) false).set 0 true = brow C L 0 false := by
  obtain ⟨m, rfl⟩ : ∃ m, L = m + 1 := ⟨L - 1, by omega⟩
  simp [brow, tab, List.replicate_succ]

def SumsPost (C : List Int) (L : Nat) (w : World) (e : Ending) (w' : World) : Prop :=
  Below w.heap.size w w' ∧ ∃ (v : Value) (a : Option Addr) (ca : Nat), e = .returned v ∧ v = .slice a (sml C L).length ca ∧ Ints w' a (sml C L)

theorem Ints.of_own {w : World} {base : Nat} {v : Value} {xs : List Int} (h : w.ownsRow base 3 1 v xs.length (xs.map (Value.int .i64))) (h1 : xs.length ≤ 9223372036854775807) (h2 : ∀ x ∈ xs, -9223372036854775808 ≤ x ∧ x ≤ 9223372036854775807) :
    ∃ a ca, v = .slice a xs.length ca ∧ Ints w a xs := by
  rcases h.2 with ⟨h', h0⟩ | ⟨g, cap, cur, h', hb, hg, hc1, _, hs, ht⟩
  · exact ⟨none, 0, by rw [h', h0], h1, h2, fun i hi => by omega⟩
  · refine ⟨some ⟨g, 0, none⟩, cap, h', h1, h2, fun i hi => ⟨g, 0, rfl, (Array.getElem?_eq_some_iff.1 hg).1, ?_⟩⟩
    rw [h'] at h
    have := World.ownsRow.cellAt h i (by omega)
    rw [Nat.zero_add, this]
    simp [List.getD, hi]

theorem own_ge {w : World} {base : Nat} {e : TypeId} {v : Value} {n : Nat} {xs : List Value} (h : w.ownsRow base e 1 v n xs) : ∀ k, v.ownBlock = some k → base ≤ k := by
  intro k hk
  rcases h.2 with ⟨h', _⟩ | ⟨g, cap, cur, h', hb, _⟩
  · rw [h'] at hk; simp [Value.ownBlock] at hk
  · rw [h'] at hk; simp [Value.ownBlock] at hk; omega
theorem Bx.gb {w w' : World} {b : Nat} {vs : Array Value} {T : TypeId} {row : Option Nat} (h : Bx w b vs T) (hg : w.grownBy w' row) (hne : ∀ k, row = some k → b ≠ k) : Bx w' b vs T := by
  have := hg.block b h.lt (fun e => hne b e.symm rfl)
  unfold Bx at *; rw [this]; exact h
theorem sml_mem (C : List Int) : ∀ (n : Nat) (x : Int), x ∈ sml C n → 1 ≤ x ∧ x ≤ n
  | 0, x, h => by simp [sml] at h
  | n + 1, x, h => by
    unfold sml at h
    split at h
    · rcases List.mem_append.1 h with h | h
      · have := sml_mem C n x h; omega
      · simp at h; omega
    · have := sml_mem C n x h; omega

set_option maxRecDepth 100000 in
set_option maxHeartbeats 3000000 in
theorem sums_any (R : Nat) (an ac ap : Option Addr) (cn cc cp : Nat) (N C P : List Int) (L : Nat) (w : World) (hk : Wk w R an ac ap N C P) (h1 : 1 ≤ L) (h2 : L ≤ 100000) :
    Calls Try.prog 105 #[.agg #[.int .i64 (R : Int), .slice an N.length cn, .slice ac C.length cc, .slice ap P.length cp], .int .i64 L] w (SumsPost C L w) := by
  have hv := hk.v
  have c4' := hv.c4
  obtain ⟨i0, hi, hz0, hz1, hz2⟩ := info_parts info4
  obtain ⟨j0, hj, jz0, jz1, jz2⟩ := info_parts info3
  obtain ⟨W, hW, hb, hs, x0⟩ := boxes1 w #[.int .i64 (R : Int), .slice an N.length cn, .slice ac C.length cc, .slice ap P.length cp] 73
  have Hs := hid hs; clear hs
  have e1 : ((L + 1 : Nat) : Int) = (L : Int) + 1 := by omega
  have hC0 := hk.hC
  go_enter Try.func105, Try.ntmps105
  go_wp2_with (first | (at_make; go_must (refine wpList_make_full _ rfl _ _ 137 rfl (w.heap.size + 1) 4 i0 (.bool false) 1 under137 hi hz0 hz1 _ _ _ _ (L + 1) rfl rfl (by omega) (by omega) (by rw [hz2]; omega) (by unfold maxLen; omega) (by have := Hs.out; omega) ?_); intro W1 hown hgrow; have hb1 : Below W.heap.size W W1 := (Below.refl _ _).grown hgrow (Nat.le_refl _) (fun k hk => by cases hk); have y1 := Bx.of_own hown; rw [made_bools] at y1; have z0 := y1.cell 0 (vrowB_at (x := false) (by simp)); have z1 := y1.free 0))
  have y2 : Bx (W1.setCell ⟨W.heap.size, 0, none⟩ (.bool true)) W.heap.size (vrowB (brow C L 0 false)) 4 := by
    have := y1.set 0 (.bool true)
    rwa [vrowB_set, brow_zero C L h1] at this
  have x1 : Bx (W1.setCell ⟨W.heap.size, 0, none⟩ (.bool true)) w.heap.size #[.int .i64 (R : Int), .slice an N.length cn, .slice ac C.length cc, .slice ap P.length cp] 73 := (x0.below hb1).other (by show w.heap.size ≠ W.heap.size; have := Hs.out; omega) _
  have hb2 : Below w.heap.size w (W1.setCell ⟨W.heap.size, 0, none⟩ (.bool true)) := (hb.trans (hb1.mono hb.size)).setCell (by show w.heap.size ≤ W.heap.size; have := Hs.out; omega) _
  generalize hWX : W1.setCell ⟨W.heap.size, 0, none⟩ (.bool true) = W2 at *
  clear hWX y1 z0 z1 hown hgrow hb1 x0 hb hW e1
  generalize hgg : W.heap.size = g at *
  have Hg := hid Hs.out
  clear hgg Hs
  go_loopw [5, 7] (fun v5 v7 wr => ∃ (n : Nat), n ≤ L ∧ v7 = .int .i64 ((n : Int) + 1) ∧ wr.ownsRow (g + 1) 3 1 v5 (sml C n).length ((sml C n).map (Value.int .i64)) ∧ Below w.heap.size w wr ∧ Bx wr w.heap.size #[.int .i64 (R : Int), .slice an N.length cn, .slice ac C.length cc, .slice ap P.length cp] 73 ∧ g + 1 ≤ wr.heap.size ∧ (n < L → Bx wr g (vrowB (brow C L n false)) 4)) (fun _ v7 _ => L + 1 - (intOf v7).toNat)
  case atStart => exact ⟨0, Nat.zero_le _, rfl, World.ownsRow_nil _ _ _ _, hb2, x1, y2.lt, fun _ => y2⟩
  case round =>
    clear hb2 x1 y2
    obtain ⟨n, hn, rfl, hown, hb, x1, hsz, hy⟩ := hrel
    have hsl := sml_len C n
    by_cases hlt : n < L
    · have y2 := hy hlt
      have hltB : decide ((n : Int) + 1 ≤ (L : Int)) = true := by simp; omega
      have hC := hC0.below hb (Nat.le_refl _)
      have c0 := x1.cell 0 rfl; have c1 := x1.cell 1 rfl; have c2 := x1.cell 2 rfl; have c3 := x1.cell 3 rfl
      obtain ⟨wo, rfl⟩ : ∃ wo : World, wo = wr := ⟨_, rfl⟩
      go_wp2
      go_loopw [24] (fun v24 wi => ∃ (j : Nat), j ≤ C.length ∧ v24 = .int .i64 j ∧ wi.ownsRow (g + 1) 3 1 u5 (sml C n).length ((sml C n).map (Value.int .i64)) ∧ Below w.heap.size w wi ∧ Bx wi w.heap.size #[.int .i64 (R : Int), .slice an N.length cn, .slice ac C.length cc, .slice ap P.length cp] 73 ∧ g + 1 ≤ wi.heap.size ∧ Bx wi g (vrowB (brow C L n ((C.take j).any (one (tab C n) (n + 1))))) 4) (fun v24 _ => C.length - (intOf v24).toNat)
      case atStart => exact ⟨0, Nat.zero_le _, rfl, hown, hb, x1, hsz, by simpa using y2⟩
      case round =>
        clear hown hb x1 hsz y2 hy hC c0 c1 c2 c3
        obtain ⟨j, hj', rfl, hown, hb, x1, hsz, y2⟩ := hrel
        have hgw : w.heap.size ≤ g := by have := Hg.out; omega
        have hgn : w.heap.size ≠ g := by have := Hg.out; omega
        by_cases hjl : j < C.length
        · have hC := hC0.below hb (Nat.le_refl _)
          obtain ⟨ba, off, x, rfl, hbs, hc, _, _, hx, hd⟩ := hC.at hjl
          have hco := hv.coin hjl
          have hxe : x = (cw C j : Int) := by have := hx.out; rw [hco.1] at this; simpa using this.symm
          have htk : (C.take (j + 1)).any (one (tab C n) (n + 1)) = ((C.take j).any (one (tab C n) (n + 1)) || one (tab C n) (n + 1) x) := by rw [List.take_add_one, hx.out]; simp
          have Htk := hid htk
          generalize cw C j = q at *
          subst hxe
          have hq := hco.2
          clear htk hco hx hd
          by_cases hle : q ≤ n + 1
          · have z0 := y2.cell (n + 1 - q) (vrowB_at (brow_old C L n (n + 1 - q) _ (by omega)))
            have z1 := y2.cell (n + 1) (vrowB_at (brow_at C L n _))
            have z2 := y2.free (n + 1)
            have ho1 : one (tab C n) (n + 1) (q : Int) = (tab C n).getD (n + 1 - q) false := by simp [one]; intro; omega
            have Ho1 := hid ho1; clear ho1
            cases hb0 : (tab C n).getD (n + 1 - q) false
            · rw [hb0] at z0 Ho1
              rw [Ho1.out, Bool.or_false] at Htk
              clear Ho1 hb0
              go_wp2
              go_roundw
              case rel => exact ⟨j + 1, by omega, by go_num, hown, hb, x1, hsz, by rw [Htk.out]; exact y2⟩
              case measure => simp [intOf]; omega
            · rw [hb0] at z0 Ho1
              rw [Ho1.out, Bool.or_true] at Htk
              clear Ho1 hb0
              go_wp2
              go_roundw
              case rel => exact ⟨j + 1, by omega, by go_num, ownsRow_setCell_below hown (by show g < g + 1; omega) _, hb.setCell (by show w.heap.size ≤ g; exact hgw) _, x1.other hgn _, by simpa [World.setCell] using hsz, by have := y2.set (n + 1) (.bool true); rw [vrowB_set, brow_set] at this; rw [Htk.out]; exact this⟩
              case measure => simp [intOf]; omega
          · have ho1 : one (tab C n) (n + 1) (q : Int) = false := by simp [one]; intro; omega
            rw [ho1, Bool.or_false] at Htk
            clear ho1
            go_wp2
            go_roundw
            case rel => exact ⟨j + 1, by omega, by go_num, hown, hb, x1, hsz, by rw [Htk.out]; exact y2⟩
            case measure => simp [intOf]; omega
        · obtain rfl : j = C.length := by omega
          rw [List.take_of_length_le (Nat.le_refl _)] at y2
          have z1 := y2.cell (n + 1) (vrowB_at (brow_at C L n _))
          have hnx : n + 1 < L → Bx wr g (vrowB (brow C L (n + 1) false)) 4 := fun h => by rw [← brow_next C L n (by omega)]; exact y2
          cases hany : C.any (one (tab C n) (n + 1))
          · rw [hany] at z1
            have hs : sml C (n + 1) = sml C n := by simp [sml, hany]
            have HS := hid hs; clear hs
            go_wp2
            go_roundw
            case rel => exact ⟨n + 1, by omega, by go_num, by rw [HS.out]; exact hown, hb, x1, hsz, hnx⟩
            case measure => simp [intOf]; omega
          · rw [hany] at z1
            have hs : sml C (n + 1) = sml C n ++ [((n + 1 : Nat) : Int)] := by simp [sml, hany]
            have HS := hid hs; clear hs
            go_wp2_with (first | (at_builtin; go_must (refine wpList_append_own _ rfl _ _ 22 rfl (g + 1) 3 j0 (.int .i64 0) 1 8 under22 hj jz0 jz1 jz2 rfl (by decide) _ _ _ rfl (hown.alloc _) ⟨wr.heap.size, 0, none⟩ 1 1 [.int .i64 ((n : Int) + 1)] rfl rfl (cell_one_new _ _ _) (ints_oneCell .i64 [(n : Int) + 1]) (by unfold maxLen; omega) (by omega) (by simp; omega) ?_); intro v' w1 hown' hgrow _))
            have hge := own_ge hown
            have hb' : Below w.heap.size w w1 := (hb.alloc (by omega) _).grown hgrow (by simp; omega) (fun k hk => by have := hge k hk; omega)
            have x1' := (x1.alloc (.cells #[.int .i64 ((n : Int) + 1)] 3)).gb hgrow (fun k hk => by have := hge k hk; omega)
            have hnx' : n + 1 < L → Bx w1 g (vrowB (brow C L (n + 1) false)) 4 := fun h => ((hnx h).alloc (.cells #[.int .i64 ((n : Int) + 1)] 3)).gb hgrow (fun k hk => by have := hge k hk; omega)
            have hsz' : g + 1 ≤ w1.heap.size := by have := hgrow.size; simp at this; omega
            clear hown hgrow hnx x1 hb hge hsz
            go_wp2
            go_roundw
            case rel => exact ⟨n + 1, by omega, by go_num, by rw [HS.out]; simpa using hown', hb', x1', hsz', hnx'⟩
            case measure => simp [intOf]; omega
    · go_wp2
      go_ret
      obtain rfl : n = L := by omega
      obtain ⟨a, ca, rfl, hi⟩ := Ints.of_own hown (by omega) (fun x hx => by have := sml_mem C n x hx; omega)
      exact ⟨hb, _, a, ca, rfl, rfl, hi⟩

end Go.Proofs.Ytmkmnedojgigoaa
