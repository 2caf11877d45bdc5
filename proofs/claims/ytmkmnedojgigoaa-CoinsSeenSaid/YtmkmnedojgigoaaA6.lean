import Derived.Test.YtmkmnedojgigoaaA5
namespace Go.Proofs.Ytmkmnedojgigoaa
open Go.RowKit

set_option maxRecDepth 100000 in
set_option maxHeartbeats 1000000 in
theorem isStand_any (R : Nat) (an ac ap : Option Addr) (cn cc cp : Nat) (N C P : List Int) (p c : Int) (w : World) (hv : Vw R N C) :
    Calls Try.prog 61 #[.agg #[.int .i64 (R : Int), .slice an N.length cn, .slice ac C.length cc, .slice ap P.length cp], .agg #[.int .i64 p, .int .i64 c]] w fun e w' => e = .returned (.bool (inR 0 p (R - 1) && inR 0 c 20)) ∧ Below w.heap.size w w' := by
  obtain ⟨W, hW, hb, hs, x0, x1⟩ := boxes2 w #[.int .i64 (R : Int), .slice an N.length cn, .slice ac C.length cc, .slice ap P.length cp] 73 #[.int .i64 p, .int .i64 c] 26
  clear hs
  have c0 := x0.cell 0 rfl; have c1 := x0.cell 1 rfl; have c2 := x0.cell 2 rfl; have c3 := x0.cell 3 rfl; have d0 := x1.cell 0 rfl; have d1 := x1.cell 1 rfl
  cases hp : inR 0 p (R - 1)
  all_goals
    go_enter Try.func61, Try.ntmps61
    go_wp2_with fail
    refine (isPlace_any _ _ _ _ _ _ _ _ _ _ p W hv).mono ?_
    rintro e W1 ⟨rfl, hb1⟩
    (try clear d0 d1); replace x1 := x1.below hb1; have d0 := x1.cell 0 rfl; have d1 := x1.cell 1 rfl; replace hb := hb.trans (hb1.mono hb.size); clear hb1
    go_wp2_with (first | (go_at_call 82; refine (isFrom_any _ _ _ _).mono ?_; rintro e w' ⟨rfl, rfl⟩))
    go_ret
    exact ⟨ret_bool (by simp), hb⟩

def isActB (C : List Int) (a : Int) : Bool := (a == -1) || inR 0 a (C.length - 1)
def isKindB (C : List Int) (a : Int) : Bool := inR 0 a (C.length - 1)

set_option maxRecDepth 100000 in
set_option maxHeartbeats 1000000 in
theorem isAct_any (R : Nat) (an ac ap : Option Addr) (cn cc cp : Nat) (N C P : List Int) (a : Int) (w : World) (hv : Vw R N C) :
    Calls Try.prog 63 #[.agg #[.int .i64 (R : Int), .slice an N.length cn, .slice ac C.length cc, .slice ap P.length cp], .int .i64 a] w fun e w' => e = .returned (.bool (isActB C a)) ∧ Below w.heap.size w w' := by
  obtain ⟨W, hW, hb, hs, x0⟩ := boxes1 w #[.int .i64 (R : Int), .slice an N.length cn, .slice ac C.length cc, .slice ap P.length cp] 73
  clear hs
  have c0 := x0.cell 0 rfl; have c1 := x0.cell 1 rfl; have c2 := x0.cell 2 rfl; have c3 := x0.cell 3 rfl
  cases ha : (a == -1)
  · go_enter Try.func63, Try.ntmps63
    go_wp2_with fail
    refine (isKind_any _ _ _ _ _ _ _ _ _ _ a W hv).mono ?_
    rintro e W1 ⟨rfl, hb1⟩
    replace hb := hb.trans (hb1.mono hb.size); clear hb1
    go_wp2
    go_ret
    exact ⟨ret_bool (by simp only [isActB, ha, Bool.false_or]), hb⟩
  · go_enter Try.func63, Try.ntmps63
    go_wp2
    go_ret
    exact ⟨ret_bool (by simp only [isActB, ha, Bool.true_or]), hb⟩

theorem isKnd_any (R : Nat) (an ac ap : Option Addr) (cn cc cp : Nat) (N C P : List Int) (k : Int) (w : World) (hv : Vw R N C) :
    Calls Try.prog 68 #[.agg #[.int .i64 (R : Int), .slice an N.length cn, .slice ac C.length cc, .slice ap P.length cp], .int .i64 k] w fun e w' => e = .returned (.bool (isKindB C k)) ∧ Below w.heap.size w w' := isKind_any _ _ _ _ _ _ _ _ _ _ k w hv


set_option maxRecDepth 100000 in
set_option maxHeartbeats 1000000 in
theorem isList_isAct (R : Nat) (an ac ap : Option Addr) (cn cc cp : Nat) (N C P : List Int) (a : Option Addr) (ca : Nat) (xs : List Int) (w : World) (hv : Vw R N C) (hX : Ints w a xs) :
    Calls Try.prog 62 #[.slice a xs.length ca, .func (.func 63) #[.agg #[.int .i64 (R : Int), .slice an N.length cn, .slice ac C.length cc, .slice ap P.length cp]] #[]] w fun e w' => e = .returned (.bool (decide (xs.length ≤ 20) && xs.all (isActB C))) ∧ Below w.heap.size w w' := by
  have hm := hX.len
  by_cases hl : xs.length ≤ 20
  · go_enter Try.func62, Try.ntmps62
    go_wp2
    go_loopw [12] (fun i wr => ∃ (k : Nat), k ≤ xs.length ∧ i = .int .i64 k ∧ Below w.heap.size w wr ∧ xs.all (isActB C) = (xs.drop k).all (isActB C)) (fun i _ => xs.length - (intOf i).toNat)
    case atStart => exact ⟨0, Nat.zero_le _, rfl, Below.refl _ _, rfl⟩
    case round =>
      obtain ⟨k, hk, rfl, hb, hn⟩ := hrel
      have Hn := hid hn; clear hn
      replace hX := hX.below hb (Nat.le_refl _)
      by_cases hlt : k < xs.length
      · obtain ⟨b, off, x, rfl, hbs, hc, _, _, hx, hd⟩ := hX.at hlt
        cases he : isActB C x
        · go_wp2_with fail
          refine (isAct_any _ _ _ _ _ _ _ _ _ _ x _ hv).mono ?_
          rintro e W1 ⟨rfl, hb1⟩
          replace hb := hb.trans (hb1.mono hb.size); clear hb1
          go_wp2
          go_ret
          exact ⟨ret_bool (by rw [Hn.out, hd.out]; simp only [List.all_cons, he, Bool.false_and, Bool.and_false]), hb⟩
        · go_wp2_with fail
          refine (isAct_any _ _ _ _ _ _ _ _ _ _ x _ hv).mono ?_
          rintro e W1 ⟨rfl, hb1⟩
          replace hb := hb.trans (hb1.mono hb.size); clear hb1
          go_wp2
          go_roundw
          case rel => exact ⟨k + 1, by omega, by go_num, hb, by rw [Hn.out, hd.out]; simp only [List.all_cons, he, Bool.true_and]⟩
          case measure => simp [intOf]; omega
      · go_wp2
        go_ret
        exact ⟨ret_bool (by rw [Hn.out, drop_end hk hlt]; simp [hl]), hb⟩
  · go_enter Try.func62, Try.ntmps62
    go_wp2
    go_ret
    exact ⟨ret_bool (by simp [hl]), Below.refl _ _⟩

set_option maxRecDepth 100000 in
set_option maxHeartbeats 1000000 in
theorem isList_isKnd (R : Nat) (an ac ap : Option Addr) (cn cc cp : Nat) (N C P : List Int) (a : Option Addr) (ca : Nat) (xs : List Int) (w : World) (hv : Vw R N C) (hX : Ints w a xs) :
    Calls Try.prog 62 #[.slice a xs.length ca, .func (.func 68) #[.agg #[.int .i64 (R : Int), .slice an N.length cn, .slice ac C.length cc, .slice ap P.length cp]] #[]] w fun e w' => e = .returned (.bool (decide (xs.length ≤ 20) && xs.all (isKindB C))) ∧ Below w.heap.size w w' := by
  have hm := hX.len
  by_cases hl : xs.length ≤ 20
  · go_enter Try.func62, Try.ntmps62
    go_wp2
    go_loopw [12] (fun i wr => ∃ (k : Nat), k ≤ xs.length ∧ i = .int .i64 k ∧ Below w.heap.size w wr ∧ xs.all (isKindB C) = (xs.drop k).all (isKindB C)) (fun i _ => xs.length - (intOf i).toNat)
    case atStart => exact ⟨0, Nat.zero_le _, rfl, Below.refl _ _, rfl⟩
    case round =>
      obtain ⟨k, hk, rfl, hb, hn⟩ := hrel
      have Hn := hid hn; clear hn
      replace hX := hX.below hb (Nat.le_refl _)
      by_cases hlt : k < xs.length
      · obtain ⟨b, off, x, rfl, hbs, hc, _, _, hx, hd⟩ := hX.at hlt
        cases he : isKindB C x
        · go_wp2_with fail
          refine (isKnd_any _ _ _ _ _ _ _ _ _ _ x _ hv).mono ?_
          rintro e W1 ⟨rfl, hb1⟩
          replace hb := hb.trans (hb1.mono hb.size); clear hb1
          go_wp2
          go_ret
          exact ⟨ret_bool (by rw [Hn.out, hd.out]; simp only [List.all_cons, he, Bool.false_and, Bool.and_false]), hb⟩
        · go_wp2_with fail
          refine (isKnd_any _ _ _ _ _ _ _ _ _ _ x _ hv).mono ?_
          rintro e W1 ⟨rfl, hb1⟩
          replace hb := hb.trans (hb1.mono hb.size); clear hb1
          go_wp2
          go_roundw
          case rel => exact ⟨k + 1, by omega, by go_num, hb, by rw [Hn.out, hd.out]; simp only [List.all_cons, he, Bool.true_and]⟩
          case measure => simp [intOf]; omega
      · go_wp2
        go_ret
        exact ⟨ret_bool (by rw [Hn.out, drop_end hk hlt]; simp [hl]), hb⟩
  · go_enter Try.func62, Try.ntmps62
    go_wp2
    go_ret
    exact ⟨ret_bool (by simp [hl]), Below.refl _ _⟩

end Go.Proofs.Ytmkmnedojgigoaa
