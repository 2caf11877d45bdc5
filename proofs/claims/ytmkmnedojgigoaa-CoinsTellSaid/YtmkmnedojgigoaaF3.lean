import Derived.Test.YtmkmnedojgigoaaF2
import Derived.Test.YtmkmnedojgigoaaD2
namespace Go.Proofs.Ytmkmnedojgigoaa
open Go.RowKit

/-- The places below n at which the wheel can have stood. -/
def bef (R : Nat) (N C : List Int) (xs : List (Int × Int)) : Nat → List Int
  | 0 => []
  | n + 1 => if gaveB R N C n xs then bef R N C xs n ++ [(n : Int)] else bef R N C xs n
theorem bef_len (R : Nat) (N C : List Int) (xs : List (Int × Int)) : ∀ n, (bef R N C xs n).length ≤ n
  | 0 => Nat.le_refl _
  | n + 1 => by
    have := bef_len R N C xs n
    unfold bef
    split
    · simp; omega
    · omega
theorem bef_mem (R : Nat) (N C : List Int) (xs : List (Int × Int)) : ∀ (n : Nat) (x : Int), x ∈ bef R N C xs n → 0 ≤ x ∧ x < n
  | 0, x, h => by simp [bef] at h
  | n + 1, x, h => by
    unfold bef at h
    split at h
    · rcases List.mem_append.1 h with h | h
      · have := bef_mem R N C xs n x h; omega
      · simp at h; omega
    · have := bef_mem R N C xs n x h; omega

def RowPost (xs : List Int) (w : World) (e : Ending) (w' : World) : Prop :=
  Below w.heap.size w w' ∧ ∃ (a : Option Addr) (ca : Nat), e = .returned (.slice a xs.length ca) ∧ Ints w' a xs ∧ ∀ x, a = some x → w.heap.size ≤ x.block

theorem own_new {w : World} {base : Nat} {e : TypeId} {a : Option Addr} {n m c : Nat} {xs : List Value} (h : w.ownsRow base e 1 (.slice a n c) m xs) : ∀ x, a = some x → base ≤ x.block := by
  intro x hx
  subst hx
  exact own_ge h x.block (by simp [Value.ownBlock])

theorem own_below {w w' : World} {base : Nat} {e : TypeId} {v : Value} {n : Nat} {xs : List Value} (h : w.ownsRow base e 1 v n xs) (hb : Below w.heap.size w w') : w'.ownsRow base e 1 v n xs := by
  refine ⟨h.1, ?_⟩
  rcases h.2 with h' | ⟨g, cap, cur, h1, h2, hg, h3⟩
  · exact .inl h'
  · exact .inr ⟨g, cap, cur, h1, h2, by rw [hb.block g (Array.getElem?_eq_some_iff.1 hg).1]; exact hg, h3⟩

set_option maxRecDepth 100000 in
set_option maxHeartbeats 2000000 in
theorem before_any (R : Nat) (an ac ap : Option Addr) (cn cc cp : Nat) (N C P : List Int) (a : Option Addr) (ca : Nat) (xs : List (Int × Int)) (w : World) (hk : Wk w R an ac ap N C P) (hX : Prs w a xs) (hl : xs.length ≤ 20) (hx : xs.all (isSeenB C) = true) :
    Calls Try.prog 109 #[.agg #[.int .i64 (R : Int), .slice an N.length cn, .slice ac C.length cc, .slice ap P.length cp], .slice a xs.length ca] w (RowPost (bef R N C xs R) w) := by
  have hr2 := hk.v.r2
  obtain ⟨j0, hj, jz0, jz1, jz2⟩ := info_parts info3
  obtain ⟨W, hW, hb, hs, x0⟩ := boxes1 w #[.int .i64 (R : Int), .slice an N.length cn, .slice ac C.length cc, .slice ap P.length cp] 73
  have Hs := hid hs; clear hs
  have c0 := x0.cell 0 rfl; have c1 := x0.cell 1 rfl; have c2 := x0.cell 2 rfl; have c3 := x0.cell 3 rfl
  have Hx := hid hx; clear hx
  go_enter Try.func109, Try.ntmps109
  go_wp2
  clear c0 c1 c2 c3
  go_loopw [5, 10] (fun v i wr => ∃ (n : Nat), n ≤ R ∧ i = .int .i64 n ∧ wr.ownsRow (w.heap.size + 1) 3 1 v (bef R N C xs n).length ((bef R N C xs n).map (Value.int .i64)) ∧ Below w.heap.size w wr ∧ Bx wr w.heap.size #[.int .i64 (R : Int), .slice an N.length cn, .slice ac C.length cc, .slice ap P.length cp] 73 ∧ w.heap.size + 1 ≤ wr.heap.size) (fun _ i _ => R - (intOf i).toNat)
  case atStart => exact ⟨0, Nat.zero_le _, rfl, World.ownsRow_nil _ _ _ _, hb, x0, by have := Hs.out; omega⟩
  case round =>
    clear hb x0 hW
    obtain ⟨n, hn, rfl, hown, hb, x0, hsz⟩ := hrel
    have hsl := bef_len R N C xs n
    replace hX := hX.below hb (Nat.le_refl _)
    replace hk := hk.below hb (Nat.le_refl _)
    by_cases hlt : n < R
    · have c0 := x0.cell 0 rfl; have c1 := x0.cell 1 rfl; have c2 := x0.cell 2 rfl; have c3 := x0.cell 3 rfl
      cases hg : gaveB R N C n xs
      · have hs : bef R N C xs (n + 1) = bef R N C xs n := by simp [bef, hg]
        have HS := hid hs; clear hs
        go_wp2_with fail
        refine (gave_any _ _ _ _ _ _ _ _ _ _ n _ _ xs _ hk hlt hX hl Hx.out).mono ?_
        rintro e W1 ⟨rfl, hb1⟩
        rw [hg]
        replace hown := own_below hown hb1
        replace x0 := x0.below hb1; replace hb := hb.trans (hb1.mono hb.size); clear hb1
        have hsz2 := x0.lt
        clear c0 c1 c2 c3
        go_wp2
        go_roundw
        case rel => exact ⟨n + 1, by omega, by go_num, by rw [HS.out]; exact hown, hb, x0, by omega⟩
        case measure => simp [intOf]; omega
      · have hs : bef R N C xs (n + 1) = bef R N C xs n ++ [(n : Int)] := by simp [bef, hg]
        have HS := hid hs; clear hs
        go_wp2_with fail
        refine (gave_any _ _ _ _ _ _ _ _ _ _ n _ _ xs _ hk hlt hX hl Hx.out).mono ?_
        rintro e W1 ⟨rfl, hb1⟩
        rw [hg]
        replace hown := own_below hown hb1
        replace hsz := Nat.le_trans hsz hb1.size
        replace x0 := x0.below hb1; replace hb := hb.trans (hb1.mono hb.size); clear hb1
        clear c0 c1 c2 c3
        go_wp2_with (first | (at_builtin; go_must (refine wpList_append_own _ rfl _ _ 22 rfl (w.heap.size + 1) 3 j0 (.int .i64 0) 1 8 under22 hj jz0 jz1 jz2 rfl (by decide) _ _ _ rfl (hown.alloc _) ⟨W1.heap.size, 0, none⟩ 1 1 [.int .i64 (n : Int)] rfl rfl (cell_one_new _ _ _) (ints_oneCell .i64 [(n : Int)]) (by unfold maxLen; omega) (by omega) (by simp; omega) ?_); intro v' w1 hown' hgrow _))
        have hge := own_ge hown
        have hb' : Below w.heap.size w w1 := (hb.alloc (by omega) _).grown hgrow (by simp; omega) (fun k hk => by have := hge k hk; omega)
        have x0' := (x0.alloc (.cells #[.int .i64 (n : Int)] 3)).gb hgrow (fun k hk => by have := hge k hk; omega)
        have hsz' : w.heap.size + 1 ≤ w1.heap.size := by have := hgrow.size; simp at this; omega
        clear hown hgrow x0 hb hge hsz
        go_wp2
        go_roundw
        case rel => exact ⟨n + 1, by omega, by go_num, by rw [HS.out]; simpa using hown', hb', x0', hsz'⟩
        case measure => simp [intOf]; omega
    · go_wp2
      go_ret
      obtain rfl : n = R := by omega
      obtain ⟨a, ca, he, hi⟩ := Ints.of_own hown (by omega) (fun x hx => by have := bef_mem n N C xs n x hx; omega)
      subst he
      exact ⟨hb, a, ca, rfl, hi, fun x hx => by have := own_new hown x hx; omega⟩
end Go.Proofs.Ytmkmnedojgigoaa
