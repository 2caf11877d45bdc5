import Derived.Test.YtipdohpbilabiaaD9
/-! Which visits are valid; which lists are a plan. -/
namespace Go.Proofs.Ytipdohpbilabiaa
set_option linter.unusedSimpArgs false
set_option linter.unusedVariables false
open Go Go.RowKit

/-- A visit as it comes in. -/
structure Sw where
  bs : List (List Int)
  st : List Int
  er : List (List Int)
  ks : List (Int × Int)
  ch : Int
def Swp (w : World) (ab ast ae ak : Option Addr) (X : Sw) : Prop := Lss w ab X.bs ∧ Ints w ast X.st ∧ Lss w ae X.er ∧ Prs w ak X.ks
theorem Swp.below {w w' : World} {ab ast ae ak : Option Addr} {X : Sw} (h : Swp w ab ast ae ak X) {B : Nat} (hb : Below B w w') (hB : w.heap.size ≤ B) : Swp w' ab ast ae ak X := ⟨h.1.below hb hB, h.2.1.below hb hB, h.2.2.1.below hb hB, h.2.2.2.below hb hB⟩

def inI (lo x hi : Int) : Bool := decide (lo ≤ x) && decide (x ≤ hi)
def risI (hi : Int) (l : List Int) (i : Nat) : Bool := inI 0 (l.getD i 0) hi && (decide (i = 0) || decide (l.getD (i - 1) 0 < l.getD i 0))
def risB (hi : Int) (l : List Int) : Bool := (List.range l.length).all (risI hi l)
def upI (hi : Int) (l : List Int) (i : Nat) : Bool := inI 0 (l.getD i 0) hi
def upB (hi : Int) (l : List Int) : Bool := (List.range l.length).all (upI hi l)
def inL (x : Int) (l : List Int) : Bool := l.any fun y => x == y
def ntI (X : Sw) : Int := (X.st.length : Int) - 1
def boxI (X : Sw) (i : Nat) : Bool := decide ((X.bs.getD i []).length ≤ 3) && risB (ntI X) (X.bs.getD i [])
def keepI (X : Sw) (i : Nat) : Bool := inI 0 (X.ks.getD i (0, 0)).1 ((X.bs.length : Int) - 1) && inL (X.ks.getD i (0, 0)).2 (X.bs.getD (X.ks.getD i (0, 0)).1.toNat [])
def eaI (X : Sw) (i : Nat) : Bool := decide ((X.er.getD i []).length = X.bs.length) && upB 999 (X.er.getD i [])
def eaB (X : Sw) : Bool := decide (X.er.length = X.st.length) && (List.range X.er.length).all (eaI X)
def vB (X : Sw) : Bool := (decide (X.bs.length ≤ 3) && decide (X.st.length ≤ 6) && decide (X.ks.length ≤ 4)) && (List.range X.bs.length).all (boxI X) && (List.range X.ks.length).all (keepI X) && (upB 9 X.st && eaB X && inI 0 X.ch 3)

set_option maxRecDepth 100000 in
set_option maxHeartbeats 1000000 in
theorem isFrom_any (lo x hi : Int) (w : World) : Calls Try.prog 70 #[.int .i64 lo, .int .i64 x, .int .i64 hi] w fun e w' => e = .returned (.bool (inI lo x hi)) ∧ w = w' := by
  by_cases h1 : lo ≤ x
  · by_cases h2 : x ≤ hi
    · go_enter Try.func70, Try.ntmps70
      go_wp2
      go_ret
      exact ⟨by simp [inI, h1, h2], rfl⟩
    · have h2' : hi < x := by omega
      go_enter Try.func70, Try.ntmps70
      go_wp2
      go_ret
      exact ⟨by (simp [inI, h2]) <;> omega, rfl⟩
  · have h1' : x < lo := by omega
    go_enter Try.func70, Try.ntmps70
    go_wp2
    go_ret
    exact ⟨by (simp [inI, h1]) <;> omega, rfl⟩

set_option maxRecDepth 100000 in
set_option maxHeartbeats 1000000 in
theorem isTitle_any (ab ast ae ak : Option Addr) (cb cs ce ck : Nat) (X : Sw) (x : Int) (w : World) (hs : X.st.length ≤ 9223372036854775807) : Calls Try.prog 72 #[.agg #[.slice ab X.bs.length cb, .slice ast X.st.length cs, .slice ae X.er.length ce, .slice ak X.ks.length ck, .int .i64 X.ch], .int .i64 x] w fun e w' => e = .returned (.bool (inI 0 x (ntI X))) ∧ Below w.heap.size w w' := by
  obtain ⟨W, hW, hb, _, x0⟩ := boxes1 w #[.slice ab X.bs.length cb, .slice ast X.st.length cs, .slice ae X.er.length ce, .slice ak X.ks.length ck, .int .i64 X.ch] 26
  have hf := isFrom_any 0 x (ntI X) W
  unfold ntI at *
  have ew : IntKind.i64.wrap ((X.st.length : Int) - 1) = (X.st.length : Int) - 1 := IntWalk.i64_in _ (by omega)
  generalize inI 0 x ((X.st.length : Int) - 1) = r at *
  have c0 := x0.cell 0 rfl; have c1 := x0.cell 1 rfl; have c2 := x0.cell 2 rfl; have c3 := x0.cell 3 rfl; have c4 := x0.cell 4 rfl
  go_enter Try.func72, Try.ntmps72
  go_wp2_with fail
  refine hf.mono ?_
  rintro e W1 ⟨rfl, rfl⟩
  clear hW x0 c0 c1 c2 c3 c4
  go_wp2
  go_ret
  exact ⟨rfl, hb⟩

set_option maxRecDepth 100000 in
set_option maxHeartbeats 2000000 in
theorem areUpTo_any (hi : Int) (a : Option Addr) (c : Nat) (l : List Int) (w : World) (hI : Ints w a l) : Calls Try.prog 77 #[.int .i64 hi, .slice a l.length c] w fun e w' => e = .returned (.bool (upB hi l)) ∧ w = w' := by
  have hlen := hI.len
  have hf := fun x => isFrom_any 0 x hi w
  unfold upB
  obtain ⟨n, hn⟩ : ∃ n, n = l.length := ⟨_, rfl⟩
  rw [← hn] at hlen ⊢
  have HN := hid hn
  clear hn
  go_enter Try.func77, Try.ntmps77
  go_wp2
  go_loopw [6, 9] (fun v6 v9 wr => ∃ k : Nat, k ≤ n ∧ v9 = .int .i64 (k : Int) ∧ Hid ((List.range k).all (upI hi l) = true) ∧ wr = w) (fun _ v9 _ => n - (intOf v9).toNat)
  case atStart => exact ⟨0, Nat.zero_le _, rfl, hid rfl, rfl⟩
  case round =>
    obtain ⟨k, hk, rfl, HA, rfl⟩ := hrel
    by_cases hlt : k < n
    · obtain ⟨b, off, x, rfl, hbl, hc, hx1, hx2, hg, _⟩ := hI.at (k := k) (by rw [← HN.out]; exact hlt)
      have hkI : (k : Int) < n := by omega
      have hk0 : (0 : Int) ≤ (k : Int) := by omega
      have hui : upI hi l k = inI 0 x hi := by unfold upI; rw [List.getD_eq_getElem?_getD, hg.out]; rfl
      have hfx := hf x
      cases hr : inI 0 x hi
      · rw [hr] at hfx hui
        have HR := hid (all_range_no (upI hi l) hlt hui)
        clear hui hr hf hg
        go_wp2_with fail
        refine hfx.mono ?_
        rintro e W1 ⟨rfl, rfl⟩
        go_wp2
        go_ret
        exact ⟨ret_bool (by rw [HR.out]), rfl⟩
      · rw [hr] at hfx hui
        have HR := hid (show (List.range (k + 1)).all (upI hi l) = true by rw [all_range_succ, HA.out, hui]; rfl)
        clear hui hr hf hg
        go_wp2_with fail
        refine hfx.mono ?_
        rintro e W1 ⟨rfl, rfl⟩
        go_wp2
        go_roundw
        case rel => exact ⟨k + 1, by omega, by simp, HR, trivial⟩
        case measure => simp [intOf]; omega
    · obtain rfl : k = n := by omega
      have hA := HA.out
      go_wp2
      go_ret
      exact ⟨ret_bool (by rw [hA]), rfl⟩

set_option maxRecDepth 100000 in
set_option maxHeartbeats 3000000 in
theorem areTitles_any (ab ast ae ak : Option Addr) (cb cs ce ck : Nat) (X : Sw) (a : Option Addr) (c : Nat) (l : List Int) (w : World) (hs : X.st.length ≤ 9223372036854775807) (hI : Ints w a l) : Calls Try.prog 75 #[.agg #[.slice ab X.bs.length cb, .slice ast X.st.length cs, .slice ae X.er.length ce, .slice ak X.ks.length ck, .int .i64 X.ch], .slice a l.length c] w fun e w' => e = .returned (.bool (risB (ntI X) l)) ∧ Below w.heap.size w w' := by
  have hlen := hI.len
  obtain ⟨W, hW, hb, _, x0⟩ := boxes1 w #[.slice ab X.bs.length cb, .slice ast X.st.length cs, .slice ae X.er.length ce, .slice ak X.ks.length ck, .int .i64 X.ch] 26
  have hI1 := hI.below hb (Nat.le_refl _)
  have hf := fun x v => isTitle_any ab ast ae ak cb cs ce ck X x v hs
  unfold risB
  obtain ⟨nt, hnt⟩ : ∃ nt, nt = ntI X := ⟨_, rfl⟩
  rw [← hnt] at hf ⊢
  clear hI hnt hs
  obtain ⟨n, hn⟩ : ∃ n, n = l.length := ⟨_, rfl⟩
  rw [← hn] at hlen ⊢
  have HN := hid hn
  clear hn
  have c0 := x0.cell 0 rfl; have c1 := x0.cell 1 rfl; have c2 := x0.cell 2 rfl; have c3 := x0.cell 3 rfl; have c4 := x0.cell 4 rfl
  go_enter Try.func75, Try.ntmps75
  go_wp2
  clear hW c0 c1 c2 c3 c4
  go_loopw [5, 6, 9] (fun v5 v6 v9 wr => ∃ k : Nat, k ≤ n ∧ v9 = .int .i64 (k : Int) ∧ Hid ((List.range k).all (risI nt l) = true) ∧ Below W.heap.size W wr) (fun _ _ v9 _ => n - (intOf v9).toNat)
  case atStart => exact ⟨0, Nat.zero_le _, rfl, hid rfl, Below.refl _ _⟩
  case round =>
    obtain ⟨k, hk, rfl, HA, hb1⟩ := hrel
    by_cases hlt : k < n
    · replace hI1 := hI1.below hb1 (Nat.le_refl _)
      obtain ⟨b, off, x, rfl, hbl, hc, hx1, hx2, hg, _⟩ := hI1.at (k := k) (by rw [← HN.out]; exact hlt)
      have hkI : (k : Int) < n := by omega
      have hk0 : (0 : Int) ≤ (k : Int) := by omega
      have hgx : l.getD k 0 = x := by rw [List.getD_eq_getElem?_getD, hg.out]; rfl
      have hui : risI nt l k = (inI 0 x nt && (decide (k = 0) || decide (l.getD (k - 1) 0 < x))) := by unfold risI; rw [hgx]
      replace x0 := x0.below hb1
      have c0 := x0.cell 0 rfl; have c1 := x0.cell 1 rfl; have c2 := x0.cell 2 rfl; have c3 := x0.cell 3 rfl; have c4 := x0.cell 4 rfl
      have hfx := fun v => hf x v
      have hbr := hb.trans (hb1.mono hb.size)
      cases hr : inI 0 x nt
      · rw [hr] at hui
        simp only [hr] at hfx
        have HR := hid (all_range_no (risI nt l) hlt hui)
        clear hui hr hf hg hgx
        go_wp2_with fail
        refine (hfx _).mono ?_
        rintro e W1 ⟨rfl, hb2⟩
        clear c0 c1 c2 c3 c4 hfx
        replace hbr := hbr.trans (hb2.mono hbr.size)
        go_wp2
        go_ret
        exact ⟨ret_bool (by rw [HR.out]), hbr⟩
      · rw [hr, Bool.true_and] at hui
        simp only [hr] at hfx
        by_cases hz : k = 0
        · have HR := hid (show (List.range (k + 1)).all (risI nt l) = true by rw [all_range_succ, HA.out, hui, hz]; rfl)
          have hzI : (k : Int) ≤ 0 := by omega
          clear hui hr hf hg hgx hz
          go_wp2_with fail
          refine (hfx _).mono ?_
          rintro e W1 ⟨rfl, hb2⟩
          clear c0 c1 c2 c3 c4 hfx
          have hb12 := hb1.trans (hb2.mono hb1.size)
          go_wp2
          go_roundw
          case rel => exact ⟨k + 1, by omega, by simp, HR, hb12⟩
          case measure => simp [intOf]; omega
        · obtain ⟨j, rfl⟩ : ∃ j, k = j + 1 := ⟨k - 1, by omega⟩
          obtain ⟨b', off', y, e, hbl', hc', hy1, hy2, hg', _⟩ := hI1.at (k := j) (by rw [← HN.out]; omega)
          cases e
          have hgy : l.getD (j + 1 - 1) 0 = y := by rw [Nat.add_sub_cancel, List.getD_eq_getElem?_getD, hg'.out]; rfl
          rw [hgy, decide_eq_false hz, Bool.false_or] at hui
          have ew : IntKind.i64.wrap (((j + 1 : Nat) : Int) - 1) = (j : Int) := by rw [IntWalk.i64_in _ (by omega)]; omega
          have hpos : (0 : Int) < ((j + 1 : Nat) : Int) := by omega
          have hjI : (j : Int) < n := by omega
          have hj0 : (0 : Int) ≤ (j : Int) := by omega
          by_cases hyx : y < x
          · have HR := hid (show (List.range (j + 1 + 1)).all (risI nt l) = true by rw [all_range_succ, HA.out, hui, decide_eq_true hyx]; rfl)
            clear hui hr hf hg hg' hgx hgy hz
            go_wp2_with fail
            refine (hfx _).mono ?_
            rintro e W1 ⟨rfl, hb2⟩
            have hc2 := Below.keep hb2 hc'
            clear c0 c1 c2 c3 c4 hfx hc hc'
            have hb12 := hb1.trans (hb2.mono hb1.size)
            go_wp2
            go_roundw
            case rel => exact ⟨j + 1 + 1, by omega, by simp, HR, hb12⟩
            case measure => simp [intOf]; omega
          · have HR := hid (all_range_no (risI nt l) hlt (by rw [hui]; exact decide_eq_false hyx))
            have hxy : x ≤ y := by omega
            clear hui hr hf hg hg' hgx hgy hz
            go_wp2_with fail
            refine (hfx _).mono ?_
            rintro e W1 ⟨rfl, hb2⟩
            have hc2 := Below.keep hb2 hc'
            clear c0 c1 c2 c3 c4 hfx hc hc'
            replace hbr := hbr.trans (hb2.mono hbr.size)
            go_wp2
            go_ret
            exact ⟨ret_bool (by rw [HR.out]), hbr⟩
    · obtain rfl : k = n := by omega
      have hA := HA.out
      go_wp2
      go_ret
      exact ⟨ret_bool (by rw [hA]), hb.trans (hb1.mono hb.size)⟩
end Go.Proofs.Ytipdohpbilabiaa
