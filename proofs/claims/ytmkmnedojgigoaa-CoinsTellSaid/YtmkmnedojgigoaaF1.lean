import Derived.Test.YtmkmnedojgigoaaA7
import Derived.Test.YtmkmnedojgigoaaB2
namespace Go.Proofs.Ytmkmnedojgigoaa
open Go.RowKit

/-- Slice value reads as pairs of integers. -/
def Prs (w : World) (a : Option Addr) (xs : List (Int × Int)) : Prop :=
  xs.length ≤ 4611686018427387903 ∧ (∀ x ∈ xs, -9223372036854775808 ≤ x.1 ∧ x.1 ≤ 9223372036854775807 ∧ -9223372036854775808 ≤ x.2 ∧ x.2 ≤ 9223372036854775807) ∧
    (∀ i, i < xs.length → ∃ b off, a = some ⟨b, off, none⟩ ∧ b < w.heap.size ∧ w.cell? ⟨b, off + i * 2, none⟩ = some (.int .i64 (xs.getD i (0, 0)).1) ∧ w.cell? ⟨b, off + i * 2 + 1, none⟩ = some (.int .i64 (xs.getD i (0, 0)).2))

theorem Prs.at {w : World} {a : Option Addr} {xs : List (Int × Int)} (h : Prs w a xs) {k : Nat} (hk : k < xs.length) :
    ∃ b off x y, a = some ⟨b, off, none⟩ ∧ b < w.heap.size ∧ w.cell? ⟨b, off + k * 2, none⟩ = some (.int .i64 x) ∧ w.cell? ⟨b, off + k * 2 + 1, none⟩ = some (.int .i64 y) ∧ (-9223372036854775808 ≤ x ∧ x ≤ 9223372036854775807) ∧ (-9223372036854775808 ≤ y ∧ y ≤ 9223372036854775807) ∧
      Hid (xs[k]? = some (x, y)) ∧ Hid (xs.drop k = (x, y) :: xs.drop (k + 1)) := by
  obtain ⟨_, h2, h3⟩ := h
  obtain ⟨b, off, ha, hb, hc, hd⟩ := h3 k hk
  have hm := h2 xs[k] (List.getElem_mem hk)
  refine ⟨b, off, xs[k].1, xs[k].2, ha, hb, by rw [hc]; simp [List.getD, hk], by rw [hd]; simp [List.getD, hk], ⟨hm.1, hm.2.1⟩, ⟨hm.2.2.1, hm.2.2.2⟩, ?_, ?_⟩
  · show xs[k]? = some xs[k]; simp [hk]
  · show xs.drop k = xs[k] :: _; simp

theorem Prs.below {w w' : World} {a : Option Addr} {xs : List (Int × Int)} (h : Prs w a xs) {B : Nat} (hb : Below B w w') (hB : w.heap.size ≤ B) : Prs w' a xs := by
  obtain ⟨h1, h2, h3⟩ := h
  refine ⟨h1, h2, fun i hi => ?_⟩
  obtain ⟨b, off, ha, hbs, hc, hd⟩ := h3 i hi
  have hs := hb.size
  exact ⟨b, off, ha, by omega, by rw [hb.cell (p := ⟨b, off + i * 2, none⟩) (by show b < B; omega)]; exact hc, by rw [hb.cell (p := ⟨b, off + i * 2 + 1, none⟩) (by show b < B; omega)]; exact hd⟩
theorem drop_endP {xs : List (Int × Int)} {k : Nat} (hk : k ≤ xs.length) (h : ¬ k < xs.length) : xs.drop k = [] := by
  rw [List.drop_eq_nil_iff]; omega

def isSeenB (C : List Int) (x : Int × Int) : Bool := isKindB C x.1 && inR 0 x.2 2400

set_option maxRecDepth 100000 in
set_option maxHeartbeats 1000000 in
theorem isSeen_any (R : Nat) (an ac ap : Option Addr) (cn cc cp : Nat) (N C P : List Int) (k p : Int) (w : World) (hv : Vw R N C) :
    Calls Try.prog 108 #[.agg #[.int .i64 (R : Int), .slice an N.length cn, .slice ac C.length cc, .slice ap P.length cp], .agg #[.int .i64 k, .int .i64 p]] w fun e w' => e = .returned (.bool (isSeenB C (k, p))) ∧ Below w.heap.size w w' := by
  obtain ⟨W, hW, hb, hs, x0, x1⟩ := boxes2 w #[.int .i64 (R : Int), .slice an N.length cn, .slice ac C.length cc, .slice ap P.length cp] 73 #[.int .i64 k, .int .i64 p] 50
  clear hs
  have c0 := x0.cell 0 rfl; have c1 := x0.cell 1 rfl; have c2 := x0.cell 2 rfl; have c3 := x0.cell 3 rfl; have d0 := x1.cell 0 rfl; have d1 := x1.cell 1 rfl
  cases h1 : isKindB C k
  · go_enter Try.func108, Try.ntmps108
    go_wp2_with fail
    refine (isKnd_any _ _ _ _ _ _ _ _ _ _ k _ hv).mono ?_
    rintro e W1 ⟨rfl, hb1⟩
    rw [h1]
    (try clear c0 c1 c2 c3); replace x0 := x0.below hb1; have c0 := x0.cell 0 rfl; have c1 := x0.cell 1 rfl; have c2 := x0.cell 2 rfl; have c3 := x0.cell 3 rfl; (try clear d0 d1); replace x1 := x1.below hb1; have d0 := x1.cell 0 rfl; have d1 := x1.cell 1 rfl; replace hb := hb.trans (hb1.mono hb.size); clear hb1
    clear hW
    go_wp2
    go_ret
    exact ⟨ret_bool (by simp [isSeenB, h1]), hb⟩
  · go_enter Try.func108, Try.ntmps108
    go_wp2_with fail
    refine (isKnd_any _ _ _ _ _ _ _ _ _ _ k _ hv).mono ?_
    rintro e W1 ⟨rfl, hb1⟩
    rw [h1]
    (try clear c0 c1 c2 c3); replace x0 := x0.below hb1; have c0 := x0.cell 0 rfl; have c1 := x0.cell 1 rfl; have c2 := x0.cell 2 rfl; have c3 := x0.cell 3 rfl; (try clear d0 d1); replace x1 := x1.below hb1; have d0 := x1.cell 0 rfl; have d1 := x1.cell 1 rfl; replace hb := hb.trans (hb1.mono hb.size); clear hb1
    clear hW
    go_wp2_with (first | (go_at_call 82; refine (isFrom_any _ _ _ _).mono ?_; rintro e w' ⟨rfl, rfl⟩))
    go_ret
    exact ⟨ret_bool (by simp [isSeenB, h1]), hb⟩

set_option maxRecDepth 100000 in
set_option maxHeartbeats 1000000 in
theorem seenWorth_any (R : Nat) (an ac ap : Option Addr) (cn cc cp : Nat) (N C P : List Int) (k : Nat) (p : Int) (w : World) (hk : Wk w R an ac ap N C P) (hlt : k < C.length) :
    Calls Try.prog 90 #[.agg #[.int .i64 (R : Int), .slice an N.length cn, .slice ac C.length cc, .slice ap P.length cp], .agg #[.int .i64 k, .int .i64 p]] w fun e w' => e = .returned (.int .i64 (cw C k)) ∧ Below w.heap.size w w' := by
  obtain ⟨W, hW, hb, hs, x0, x1⟩ := boxes2 w #[.int .i64 (R : Int), .slice an N.length cn, .slice ac C.length cc, .slice ap P.length cp] 73 #[.int .i64 k, .int .i64 p] 50
  clear hs
  have c0 := x0.cell 0 rfl; have c1 := x0.cell 1 rfl; have c2 := x0.cell 2 rfl; have c3 := x0.cell 3 rfl; have d0 := x1.cell 0 rfl; have d1 := x1.cell 1 rfl
  replace hk := hk.below hb (Nat.le_refl _)
  go_enter Try.func90, Try.ntmps90
  go_wp2_with fail
  refine (worth_any _ _ _ _ _ _ _ _ _ _ k _ hk hlt).mono ?_
  rintro e W1 ⟨rfl, hb1⟩
  replace hb := hb.trans (hb1.mono hb.size)
  clear c0 c1 c2 c3 d0 d1 hW hk x0 x1 hb1
  go_wp2
  go_ret
  exact ⟨rfl, hb⟩

set_option maxRecDepth 100000 in
set_option maxHeartbeats 1000000 in
theorem isListS_any (R : Nat) (an ac ap : Option Addr) (cn cc cp : Nat) (N C P : List Int) (a : Option Addr) (ca : Nat) (xs : List (Int × Int)) (w : World) (hv : Vw R N C) (hX : Prs w a xs) :
    Calls Try.prog 107 #[.slice a xs.length ca, .func (.func 108) #[.agg #[.int .i64 (R : Int), .slice an N.length cn, .slice ac C.length cc, .slice ap P.length cp]] #[]] w fun e w' => e = .returned (.bool (decide (xs.length ≤ 20) && xs.all (isSeenB C))) ∧ Below w.heap.size w w' := by
  have hm := hX.1
  by_cases hl : xs.length ≤ 20
  · go_enter Try.func107, Try.ntmps107
    go_wp2
    go_loopw [12] (fun i wr => ∃ (k : Nat), k ≤ xs.length ∧ i = .int .i64 k ∧ Below w.heap.size w wr ∧ xs.all (isSeenB C) = (xs.drop k).all (isSeenB C)) (fun i _ => xs.length - (intOf i).toNat)
    case atStart => exact ⟨0, Nat.zero_le _, rfl, Below.refl _ _, rfl⟩
    case round =>
      obtain ⟨k, hk, rfl, hb, hn⟩ := hrel
      have Hn := hid hn; clear hn
      replace hX := hX.below hb (Nat.le_refl _)
      by_cases hlt : k < xs.length
      · obtain ⟨b, off, x, y, rfl, hbs, hc, hc', _, _, hx, hd⟩ := hX.at hlt
        have b1 := below_one (w := wr) (.cells #[.int .i64 x, .int .i64 y] 50)
        replace hb := hb.trans (b1.mono hb.size)
        clear b1
        cases he : isSeenB C (x, y)
        · go_wp2_with fail
          refine (isSeen_any _ _ _ _ _ _ _ _ _ _ x y _ hv).mono ?_
          rintro e W1 ⟨rfl, hb1⟩
          replace hb := hb.trans (hb1.mono hb.size)
          clear hb1
          rw [he]
          go_wp2
          go_ret
          exact ⟨ret_bool (by rw [Hn.out, hd.out]; simp only [List.all_cons, he, Bool.false_and, Bool.and_false]), hb⟩
        · go_wp2_with fail
          refine (isSeen_any _ _ _ _ _ _ _ _ _ _ x y _ hv).mono ?_
          rintro e W1 ⟨rfl, hb1⟩
          replace hb := hb.trans (hb1.mono hb.size)
          clear hb1
          rw [he]
          go_wp2
          go_roundw
          case rel => exact ⟨k + 1, by omega, by go_num, hb, by rw [Hn.out, hd.out]; simp only [List.all_cons, he, Bool.true_and]⟩
          case measure => simp [intOf]; omega
      · go_wp2
        go_ret
        exact ⟨ret_bool (by rw [Hn.out, drop_endP hk hlt]; simp [hl]), hb⟩
  · go_enter Try.func107, Try.ntmps107
    go_wp2
    go_ret
    exact ⟨ret_bool (by simp [hl]), Below.refl _ _⟩
end Go.Proofs.Ytmkmnedojgigoaa
