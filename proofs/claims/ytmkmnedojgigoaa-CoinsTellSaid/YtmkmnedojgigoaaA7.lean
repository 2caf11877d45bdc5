import Derived.Test.YtmkmnedojgigoaaA5
namespace Go.Proofs.Ytmkmnedojgigoaa
open Go.RowKit

set_option maxRecDepth 100000 in
set_option maxHeartbeats 1000000 in
theorem isStand_any (R : Nat) (an ac ap : Option Addr) (cn cc cp : Nat) (N C P : List Int) (p c : Int) (w : World) (hv : Vw R N C) :
    Calls Try.prog 61 #[.agg #[.int .i64 (R : Int), .slice an N.length cn, .slice ac C.length cc, .slice ap P.length cp], .agg #[.int .i64 p, .int .i64 c]] w fun e w' => e = .returned (.bool (inR 0 p (R - 1) && inR 0 c 20)) ∧ Below w.heap.size w w' := by
  obtain ⟨W, hW, hb, hs, x0, x1⟩ := boxes2 w #[.int .i64 (R : Int), .slice an N.length cn, .slice ac C.length cc, .slice ap P.length cp] 73 #[.int .i64 p, .int .i64 c] 26
  clear hs
  have c0 := x0.cell 0 rfl; have c1 := x0.cell 1 rfl; have c2 := x0.cell 2 rfl; have c3 := x0.cell 3 rfl; have d0 := x1.cell 0 rfl; have d1 := x1.cell 1 rfl
  cases hp : inR 0 p (R - 1)
  all_goals
    go_enter Try.func61, Try.ntmps61
    go_wp2_with fail
    refine (isPlace_any _ _ _ _ _ _ _ _ _ _ p W hv).mono ?_
    rintro e W1 ⟨rfl, hb1⟩
    (try clear d0 d1); replace x1 := x1.below hb1; have d0 := x1.cell 0 rfl; have d1 := x1.cell 1 rfl; replace hb := hb.trans (hb1.mono hb.size); clear hb1
    go_wp2_with (first | (go_at_call 82; refine (isFrom_any _ _ _ _).mono ?_; rintro e w' ⟨rfl, rfl⟩))
    go_ret
    exact ⟨ret_bool (by simp), hb⟩

def isActB (C : List Int) (a : Int) : Bool := (a == -1) || inR 0 a (C.length - 1)
def isKindB (C : List Int) (a : Int) : Bool := inR 0 a (C.length - 1)

set_option maxRecDepth 100000 in
set_option maxHeartbeats 1000000 in
theorem isAct_any (R : Nat) (an ac ap : Option Addr) (cn cc cp : Nat) (N C P : List Int) (a : Int) (w : World) (hv : Vw R N C) :
    Calls Try.prog 63 #[.agg #[.int .i64 (R : Int), .slice an N.length cn, .slice ac C.length cc, .slice ap P.length cp], .int .i64 a] w fun e w' => e = .returned (.bool (isActB C a)) ∧ Below w.heap.size w w' := by
  obtain ⟨W, hW, hb, hs, x0⟩ := boxes1 w #[.int .i64 (R : Int), .slice an N.length cn, .slice ac C.length cc, .slice ap P.length cp] 73
  clear hs
  have c0 := x0.cell 0 rfl; have c1 := x0.cell 1 rfl; have c2 := x0.cell 2 rfl; have c3 := x0.cell 3 rfl
  cases ha : (a == -1)
  · go_enter Try.func63, Try.ntmps63
    go_wp2_with fail
    refine (isKind_any _ _ _ _ _ _ _ _ _ _ a W hv).mono ?_
    rintro e W1 ⟨rfl, hb1⟩
    replace hb := hb.trans (hb1.mono hb.size); clear hb1
    go_wp2
    go_ret
    exact ⟨ret_bool (by simp only [isActB, ha, Bool.false_or]), hb⟩
  · go_enter Try.func63, Try.ntmps63
    go_wp2
    go_ret
    exact ⟨ret_bool (by simp only [isActB, ha, Bool.true_or]), hb⟩

theorem isKnd_any (R : Nat) (an ac ap : Option Addr) (cn cc cp : Nat) (N C P : List Int) (k : Int) (w : World) (hv : Vw R N C) :
    Calls Try.prog 68 #[.agg #[.int .i64 (R : Int), .slice an N.length cn, .slice ac C.length cc, .slice ap P.length cp], .int .i64 k] w fun e w' => e = .returned (.bool (isKindB C k)) ∧ Below w.heap.size w w' := isKind_any _ _ _ _ _ _ _ _ _ _ k w hv


set_option maxRecDepth 100000 in
set_option maxHeartbeats 1000000 in
theorem isList_isAct (R : Nat) (an ac ap : Option Addr) (cn cc cp : Nat) (N C P : List Int) (a : Option Addr) (ca : Nat) (xs : List Int) (w : World) (hv : Vw R N C) (hX : Ints w a xs) :
    Calls Try.prog 62 #[.slice a xs.length ca, .func (.func 63) #[.agg #[.int .i64 (R : Int), .slice an N.length cn, .slice ac C.length cc, .slice ap P.length cp]] #[]] w fun e w' => e = .returned (.bool (decide (xs.length ≤ 20) && xs.all (isActB C))) ∧ Below w.heap.size w w' := by
  have hm := hX.len
  by_cases hl : xs.length ≤ 20
  · go_enter Try.func62, Try.ntmps62
    go_wp2
    go_loopw [12] (fun i wr => ∃ (k : Nat), k ≤ xs.length ∧ i = .int .i64 k ∧ Below w.heap.size w wr ∧ xs.all (isActB C) = (xs.drop k).all (isActB C)) (fun i _ => xs.length - (intOf i).toNat)
    case atStart => exact ⟨0, Nat.zero_le _, rfl, Below.refl _ _, rfl⟩
    case round =>
      obtain ⟨k, hk, rfl, hb, hn⟩ := hrel
      have Hn := hid hn; clear hn
      replace hX := hX.below hb (Nat.le_refl _)
      by_cases hlt : k < xs.length
      · obtain ⟨b, off, x, rfl, hbs, hc, _, _, hx, hd⟩ := hX.at hlt
        cases he : isActB C x
        · go_wp2_with fail
          refine (isAct_any _ _ _ _ _ _ _ _ _ _ x _ hv).mono ?_
          rintro e W1 ⟨rfl, hb1⟩
          replace hb := hb.trans (hb1.mono hb.size); clear hb1
          go_wp2
          go_ret
          exact ⟨ret_bool (by rw [Hn.out, hd.out]; simp only [List.all_cons, he, Bool.false_and, Bool.and_false]), hb⟩
        · go_wp2_with fail
          refine (isAct_any _ _ _ _ _ _ _ _ _ _ x _ hv).mono ?_
          rintro e W1 ⟨rfl, hb1⟩
          replace hb := hb.trans (hb1.mono hb.size); clear hb1
          go_wp2
          go_roundw
          case rel => exact ⟨k + 1, by omega, by go_num, hb, by rw [Hn.out, hd.out]; simp only [List.all_cons, he, Bool.true_and]⟩
          case measure => simp [intOf]; omega
      · go_wp2
        go_ret
        exact ⟨ret_bool (by rw [Hn.out, drop_end hk hlt]; simp [hl]), hb⟩
  · go_enter Try.func62, Try.ntmps62
    go_wp2
    go_ret
    exact ⟨ret_bool (by simp [hl]), Below.refl _ _⟩

set_option maxRecDepth 100000 in
set_option maxHeartbeats 1000000 in
theorem isList_isKnd (R : Nat) (an ac ap : Option Addr) (cn cc cp : Nat) (N C P : List Int) (a : Option Addr) (ca : Nat) (xs : List Int) (w : World) (hv : Vw R N C) (hX : Ints w a xs) :
    Calls Try.prog 62 #[.slice a xs.length ca, .func (.func 68) #[.agg #[.int .i64 (R : Int), .slice an N.length cn, .slice ac C.length cc, .slice ap P.length cp]] #[]] w fun e w' => e = .returned (.bool (decide (xs.length ≤ 20) && xs.all (isKindB C))) ∧ Below w.heap.size w w' := by
  have hm := hX.len
  by_cases hl : xs.length ≤ 20
  · go_enter Try.func62, Try.ntmps62
    go_wp2
    go_loopw [12] (fun i wr => ∃ (k : Nat), k ≤ xs.length ∧ i = .int .i64 k ∧ Below w.heap.size w wr ∧ xs.all (isKindB C) = (xs.drop k).all (isKindB C)) (fun i _ => xs.length - (intOf i).toNat)
    case atStart => exact ⟨0, Nat.zero_le _, rfl, Below.refl _ _, rfl⟩
    case round =>
      obtain ⟨k, hk, rfl, hb, hn⟩ := hrel
      have Hn := hid hn; clear hn
      replace hX := hX.below hb (Nat.le_refl _)
      by_cases hlt : k < xs.length
      · obtain ⟨b, off, x, rfl, hbs, hc, _, _, hx, hd⟩ := hX.at hlt
        cases he : isKindB C x
        · go_wp2_with fail
          refine (isKnd_any _ _ _ _ _ _ _ _ _ _ x _ hv).mono ?_
          rintro e W1 ⟨rfl, hb1⟩
          replace hb := hb.trans (hb1.mono hb.size); clear hb1
          go_wp2
          go_ret
          exact ⟨ret_bool (by rw [Hn.out, hd.out]; simp only [List.all_cons, he, Bool.false_and, Bool.and_false]), hb⟩
        · go_wp2_with fail
          refine (isKnd_any _ _ _ _ _ _ _ _ _ _ x _ hv).mono ?_
          rintro e W1 ⟨rfl, hb1⟩
          replace hb := hb.trans (hb1.mono hb.size); clear hb1
          go_wp2
          go_roundw
          case rel => exact ⟨k + 1, by omega, by go_num, hb, by rw [Hn.out, hd.out]; simp only [List.all_cons, he, Bool.true_and]⟩
          case measure => simp [intOf]; omega
      · go_wp2
        go_ret
        exact ⟨ret_bool (by rw [Hn.out, drop_end hk hlt]; simp [hl]), hb⟩
  · go_enter Try.func62, Try.ntmps62
    go_wp2
    go_ret
    exact ⟨ret_bool (by simp [hl]), Below.refl _ _⟩

end Go.Proofs.Ytmkmnedojgigoaa
namespace Go.Proofs.Ytmkmnedojgigoaa
open Go.RowKit

/-- The cents of some kinds. -/
def tot (C : List Int) (xs : List Int) : Nat := (xs.map (fun k => cw C k.toNat)).sum
theorem tot_cons (C : List Int) (x : Int) (xs : List Int) : tot C (x :: xs) = cw C x.toNat + tot C xs := by simp [tot]
theorem kind_nat {C : List Int} {x : Int} (h : isKindB C x = true) : ∃ n : Nat, x = n ∧ n < C.length := by
  have := inR_iff.1 h
  exact ⟨x.toNat, by omega, by omega⟩
theorem tot_le {R : Nat} {N C : List Int} (hv : Vw R N C) : ∀ (xs : List Int), xs.all (isKindB C) = true → tot C xs ≤ 100 * xs.length
  | [], _ => by simp [tot]
  | x :: xs, h => by
    simp only [List.all_cons, Bool.and_eq_true] at h
    obtain ⟨n, rfl, hn⟩ := kind_nat h.1
    have h1 := hv.coin hn
    have h2 := tot_le hv xs h.2
    rw [tot_cons, List.length_cons, Int.toNat_natCast]
    omega

set_option maxRecDepth 100000 in
set_option maxHeartbeats 1000000 in
theorem total_any (R : Nat) (an ac ap : Option Addr) (cn cc cp : Nat) (N C P : List Int) (a : Option Addr) (ca : Nat) (xs : List Int) (w : World) (hk : Wk w R an ac ap N C P) (hX : Ints w a xs) (hl : xs.length ≤ 20) (hx : xs.all (isKindB C) = true) :
    Calls Try.prog 70 #[.slice a xs.length ca, .func (.func 71) #[.agg #[.int .i64 (R : Int), .slice an N.length cn, .slice ac C.length cc, .slice ap P.length cp]] #[]] w fun e w' => e = .returned (.int .i64 (tot C xs)) ∧ Below w.heap.size w w' := by
  go_enter Try.func70, Try.ntmps70
  go_wp2
  go_loopw [5, 10] (fun s i wr => ∃ (k q : Nat), k ≤ xs.length ∧ i = .int .i64 k ∧ s = .int .i64 q ∧ q ≤ 100 * k ∧ Below w.heap.size w wr ∧ tot C xs = q + tot C (xs.drop k) ∧ (xs.drop k).all (isKindB C) = true) (fun _ i _ => xs.length - (intOf i).toNat)
  case atStart => exact ⟨0, 0, Nat.zero_le _, rfl, rfl, by omega, Below.refl _ _, by simp, hx⟩
  case round =>
    obtain ⟨k, q, hk', rfl, rfl, hq, hb, hn, ha⟩ := hrel
    have Hn := hid hn; clear hn
    replace hX := hX.below hb (Nat.le_refl _)
    replace hk := hk.below hb (Nat.le_refl _)
    clear hx
    by_cases hlt : k < xs.length
    · obtain ⟨b, off, x, rfl, hbs, hc, _, _, hx, hd⟩ := hX.at hlt
      rw [hd.out, List.all_cons, Bool.and_eq_true] at ha
      obtain ⟨n, rfl, hn⟩ := kind_nat ha.1
      have h1 := (hk.v.coin hn).2
      have Ha := hid ha.2
      clear ha
      go_wp2_with fail
      refine (worth_any _ _ _ _ _ _ _ _ _ _ n _ hk hn).mono ?_
      rintro e W1 ⟨rfl, hb1⟩
      replace hb := hb.trans (hb1.mono hb.size); clear hb1
      go_wp2
      go_roundw
      case rel => exact ⟨k + 1, q + cw C n, by omega, by go_num, by go_num, by omega, hb, by rw [Hn.out, hd.out, tot_cons]; simp; omega, Ha.out⟩
      case measure => simp [intOf]; omega
    · go_wp2
      go_ret
      exact ⟨ret_int (by rw [Hn.out, drop_end hk' hlt]; simp [tot]), hb⟩

set_option maxRecDepth 100000 in
set_option maxHeartbeats 1000000 in
theorem plays_bad (r : Int) (an ac : Option Addr) (cn cc : Nat) (N C : List Int) (p : Int) (a : Option Addr) (ca : Nat) (xs : List Int) (w : World) (hN : Ints w an N) (hC : Ints w ac C) (hv : validB r N C = false) :
    Calls Try.prog 23 #[.agg #[.int .i64 r, .slice an N.length cn, .slice ac C.length cc], .int .i64 p, .slice a xs.length ca] w fun e w' => e = .returned (.tuple #[.int .i64 0, .int .i64 10]) ∧ Below w.heap.size w w' := by
  obtain ⟨W, hW, hb, hs, x0⟩ := boxes1 w #[.int .i64 r, .slice an N.length cn, .slice ac C.length cc] 24
  clear hs
  replace hN := hN.below hb (Nat.le_refl _); replace hC := hC.below hb (Nat.le_refl _)
  have c0 := x0.cell 0 rfl; have c1 := x0.cell 1 rfl; have c2 := x0.cell 2 rfl
  go_enter Try.func23, Try.ntmps23
  go_wp2_with fail
  refine (valid_any _ _ _ _ _ _ _ _ hN hC).mono ?_
  rintro e W1 ⟨rfl, hb1⟩
  replace hb := hb.trans (hb1.mono hb.size); clear hb1
  go_wp2
  go_ret2
  exact ⟨rfl, hb⟩

def okPlays (R : Nat) (C : List Int) (p : Int) (xs : List Int) : Bool := inR 0 p (R - 1) && (decide (xs.length ≤ 20) && xs.all (isKindB C))

def plV (R : Nat) (N C : List Int) (p : Int) (xs : List Int) : Int := if okPlays R C p xs then (gv R N p.toNat (tot C xs) : Int) else 0
def plE (R : Nat) (C : List Int) (p : Int) (xs : List Int) : Int := if okPlays R C p xs then 0 else 1

set_option maxRecDepth 100000 in
set_option maxHeartbeats 1000000 in
theorem plays_good (R : Nat) (an ac : Option Addr) (cn cc : Nat) (N C : List Int) (p : Int) (a : Option Addr) (ca : Nat) (xs : List Int) (w : World) (hN : Ints w an N) (hC : Ints w ac C) (hX : Ints w a xs) (hv : Vw R N C) :
    Calls Try.prog 23 #[.agg #[.int .i64 (R : Int), .slice an N.length cn, .slice ac C.length cc], .int .i64 p, .slice a xs.length ca] w fun e w' => e = .returned (.tuple #[.int .i64 (plV R N C p xs), .int .i64 (plE R C p xs)]) ∧ Below w.heap.size w w' := by
  obtain ⟨W, hW, hb, hs, x0⟩ := boxes1 w #[.int .i64 (R : Int), .slice an N.length cn, .slice ac C.length cc] 24
  clear hs
  replace hN := hN.below hb (Nat.le_refl _); replace hC := hC.below hb (Nat.le_refl _); replace hX := hX.below hb (Nat.le_refl _)
  have c0 := x0.cell 0 rfl; have c1 := x0.cell 1 rfl; have c2 := x0.cell 2 rfl
  have hval := hv.valid
  go_enter Try.func23, Try.ntmps23
  go_wp2_with fail
  refine (valid_any _ _ _ _ _ _ _ _ hN hC).mono ?_
  rintro e W1 ⟨rfl, hb1⟩
  replace hN := hN.below hb1 (Nat.le_refl _); replace hC := hC.below hb1 (Nat.le_refl _); replace hX := hX.below hb1 (Nat.le_refl _); (try clear c0 c1 c2); replace x0 := x0.below hb1; have c0 := x0.cell 0 rfl; have c1 := x0.cell 1 rfl; have c2 := x0.cell 2 rfl; replace hb := hb.trans (hb1.mono hb.size); clear hb1
  clear hW
  go_wp2_with fail
  refine (newWheel_any _ _ _ _ _ _ _ _ hN hC hv).mono ?_
  rintro e W2 ⟨ap, cp, P, rfl, hk, hb1, _⟩
  replace hX := hX.below hb1 (Nat.le_refl _); replace hb := hb.trans (hb1.mono hb.size); clear hb1
  clear hN hC x0 c0 c1 c2 hval
  have hbw : w.heap.size ≤ W2.heap.size := hb.size
  have b1 := below_one (w := W2) (.cells #[.int .i64 (R : Int), .slice an N.length cn, .slice ac C.length cc, .slice ap P.length cp] 73)
  have x0 := Bx.new W2 #[.int .i64 (R : Int), .slice an N.length cn, .slice ac C.length cc, .slice ap P.length cp] 73
  replace hk := hk.below b1 (Nat.le_refl _); replace hX := hX.below b1 (Nat.le_refl _); replace hb := hb.trans (b1.mono hb.size)
  clear b1
  have c0 := x0.cell 0 rfl; have c1 := x0.cell 1 rfl; have c2 := x0.cell 2 rfl; have c3 := x0.cell 3 rfl
  go_wp2_with fail
  generalize W2.alloc (.cells #[.int .i64 (R : Int), .slice an N.length cn, .slice ac C.length cc, .slice ap P.length cp] 73) = W3 at *
  generalize hg : W2.heap.size = g at *
  clear hg
  refine (isPlace_any _ _ _ _ _ _ _ _ _ _ p _ hv).mono ?_
  rintro e W4 ⟨rfl, hb1⟩
  replace hk := hk.below hb1 (Nat.le_refl _); replace hX := hX.below hb1 (Nat.le_refl _); (try clear c0 c1 c2 c3); replace x0 := x0.below hb1; have c0 := x0.cell 0 rfl; have c1 := x0.cell 1 rfl; have c2 := x0.cell 2 rfl; have c3 := x0.cell 3 rfl; replace hb := hb.trans (hb1.mono hb.size); clear hb1
  have hm := hX.len
  cases h1 : inR 0 p (R - 1)
  · go_wp2
    go_ret2
    exact ⟨by simp [plV, plE, okPlays, h1], hb⟩
  · go_wp2_with fail
    refine (isList_isKnd _ _ _ _ _ _ _ _ _ _ _ _ _ _ hv hX).mono ?_
    rintro e W5 ⟨rfl, hb1⟩
    replace hk := hk.below hb1 (Nat.le_refl _); replace hX := hX.below hb1 (Nat.le_refl _); (try clear c0 c1 c2 c3); replace x0 := x0.below hb1; have c0 := x0.cell 0 rfl; have c1 := x0.cell 1 rfl; have c2 := x0.cell 2 rfl; have c3 := x0.cell 3 rfl; replace hb := hb.trans (hb1.mono hb.size); clear hb1
    cases h2 : (decide (xs.length ≤ 20) && xs.all (isKindB C))
    · go_wp2
      go_ret2
      exact ⟨by simp only [plV, plE, okPlays, h1, h2]; simp, hb⟩
    · have h3 := h2
      rw [Bool.and_eq_true, decide_eq_true_eq] at h3
      have ht := tot_le hv xs h3.2
      have hl := h3.1
      have ha := hid h3.2
      have h4 := inR_iff.1 h1
      have r2 := hv.r2
      clear h3
      have e0 := x0.ext 0 rfl; have e1 := x0.ext 1 rfl; have e2 := x0.ext 2 rfl; have e3 := x0.ext 3 rfl
      clear c0 c1 c2 c3
      go_wp2_with fail
      refine wp_region_ext_lit (by kernel_rfl) (by kernel_rfl) ?_
      repeat (quiet_step (first | (go_at_call 70; exact quiet_ext (total_any _ _ _ _ _ _ _ _ _ _ _ _ _ _ (hk.below (Ext.below _) (Nat.le_refl _)) (hX.below (Ext.below _) (Nat.le_refl _)) hl ha.out)) | (go_at_call 69; exact quiet_ext (gives_int _ _ _ _ _ _ _ _ _ _ _ _ _ (hk.below (Ext.below _) (Nat.le_refl _)) (by omega) (by omega) (by omega) (by omega)))))
      refine wpQuiet_nil ?_
      intro _ hw'
      obtain ⟨t, rfl⟩ := hw'
      replace hb := hb.trans (t.below.mono hb.size)
      go_wp2
      go_ret2
      exact ⟨by simp only [plV, plE, okPlays, h1, h2]; simp, hb⟩

end Go.Proofs.Ytmkmnedojgigoaa
