import Derived.Test.YteianfbdhakhpaaM1
import Derived.Test.YteianfbdhakhpaaProg
import Derived.Test.YteianfbdhakhpaaChecked
import Derived.Test.YteianfbdhakhpaaR5
import Derived.Test.YteianfbdhakhpaaQ6
import Derived.StillTailTactics
import Derived.Laws.EntriesVeiled
/-! Small functions. -/
namespace Go.Proofs.Yteianfbdhakhpaa
set_option linter.unusedSimpArgs false
set_option linter.unusedVariables false
open Go Go.RowKit

set_option maxRecDepth 100000 in
set_option maxHeartbeats 1000000 in
theorem isFrom_any (lo x hi : Int) (w : World) : Calls Try.prog 75 #[.int .i64 lo, .int .i64 x, .int .i64 hi] w fun e w' => e = .returned (.bool (fromI lo x hi)) ∧ w = w' := by
  by_cases h1 : lo ≤ x
  · by_cases h2 : x ≤ hi
    · go_enter Try.func75, Try.ntmps75
      go_wp2
      go_ret
      exact ⟨by simp [fromI, h1, h2], rfl⟩
    · have h2' : hi < x := by omega
      go_enter Try.func75, Try.ntmps75
      go_wp2
      go_ret
      exact ⟨by (simp [fromI, h2]) <;> omega, rfl⟩
  · have h1' : x < lo := by omega
    go_enter Try.func75, Try.ntmps75
    go_wp2
    go_ret
    exact ⟨by (simp [fromI, h1]) <;> omega, rfl⟩
set_option maxRecDepth 100000 in
set_option maxHeartbeats 1000000 in
theorem Within_any (lo x hi : Int) (w : World) : Calls Try.prog 37 #[.int .i64 x, .int .i64 lo, .int .i64 hi] w fun e w' => e = .returned (.bool (fromI lo x hi)) ∧ w = w' := by
  by_cases h1 : lo ≤ x
  · by_cases h2 : x ≤ hi
    · go_enter Try.func37, Try.ntmps37
      go_wp2
      go_ret
      exact ⟨by simp [fromI, h1, h2], rfl⟩
    · have h2' : hi < x := by omega
      go_enter Try.func37, Try.ntmps37
      go_wp2
      go_ret
      exact ⟨by (simp [fromI, h2]) <;> omega, rfl⟩
  · have h1' : x < lo := by omega
    go_enter Try.func37, Try.ntmps37
    go_wp2
    go_ret
    exact ⟨by (simp [fromI, h1]) <;> omega, rfl⟩
set_option maxRecDepth 100000 in
set_option maxHeartbeats 1000000 in
theorem within_any (lo x hi : Int) (w : World) : Calls Try.prog 49 #[.int .i64 x, .int .i64 lo, .int .i64 hi] w fun e w' => e = .returned (.bool (fromI lo x hi)) ∧ w = w' := by
  have hf := Within_any lo x hi w
  generalize fromI lo x hi = r at *
  go_enter Try.func49, Try.ntmps49
  go_wp2_with fail
  refine hf.mono ?_
  rintro e W1 ⟨rfl, rfl⟩
  go_wp2
  go_ret
  exact ⟨rfl, rfl⟩
set_option maxRecDepth 100000 in
set_option maxHeartbeats 1000000 in
theorem isTime_any (x : Int) (w : World) : Calls Try.prog 53 #[.int .i64 x] w fun e w' => e = .returned (.bool (fromI 0 x 99999)) ∧ w = w' := by
  have hf := isFrom_any 0 x 99999 w
  generalize fromI 0 x 99999 = r at *
  go_enter Try.func53, Try.ntmps53
  go_wp2_with fail
  refine hf.mono ?_
  rintro e W1 ⟨rfl, rfl⟩
  go_wp2
  go_ret
  exact ⟨rfl, rfl⟩
def cmpI (x y : Int) : Int := if x < y then -1 else if y < x then 1 else 0
set_option maxRecDepth 100000 in
set_option maxHeartbeats 1000000 in
theorem isNaN_any (x : Int) (w : World) : Calls Try.prog 101 #[.int .i64 x] w fun e w' => e = .returned (.bool false) ∧ w = w' := by
  have hB : (x != x) = false := by simp
  go_enter Try.func101, Try.ntmps101
  go_wp2
  go_ret
  exact ⟨rfl, rfl⟩
set_option maxRecDepth 100000 in
set_option maxHeartbeats 1000000 in
theorem Compare_any (x y : Int) (w : World) : Calls Try.prog 86 #[.int .i64 x, .int .i64 y] w fun e w' => e = .returned (.int .i64 (cmpI x y)) ∧ w = w' := by
  have h1 := fun v => isNaN_any x v
  have h2 := fun v => isNaN_any y v
  have HC := hid (show cmpI x y = if x < y then -1 else if y < x then 1 else 0 from rfl)
  generalize cmpI x y = r at *
  go_enter Try.func86, Try.ntmps86
  go_wp2_with fail
  refine (h1 _).mono ?_
  rintro e W1 ⟨rfl, rfl⟩
  go_wp2_with fail
  refine (h2 _).mono ?_
  rintro e W1 ⟨rfl, rfl⟩
  by_cases hlt : x < y
  · have HR := hid (show r = -1 by rw [HC.out, if_pos hlt])
    clear HC
    go_wp2
    go_ret
    exact ⟨ret_int HR.out.symm, rfl⟩
  · by_cases hgt : y < x
    · have HR := hid (show r = 1 by rw [HC.out, if_neg hlt, if_pos hgt])
      clear HC
      go_wp2
      go_ret
      exact ⟨ret_int HR.out.symm, rfl⟩
    · have HR := hid (show r = 0 by rw [HC.out, if_neg hlt, if_neg hgt])
      clear HC
      go_wp2
      go_ret
      exact ⟨ret_int HR.out.symm, rfl⟩
set_option maxRecDepth 100000 in
set_option maxHeartbeats 2000000 in
theorem index_any (a : Option Addr) (c : Nat) (l : List Int) (x : Int) (w : World) (hI : Ints w a l) : Calls Try.prog 112 #[.slice a l.length c, .int .i64 x] w fun e w' => (∃ r : Int, e = .returned (.int .i64 r) ∧ -1 ≤ r ∧ r ≤ 9223372036854775807 ∧ decide (0 ≤ r) = inL x l) ∧ w = w' := by
  have hlen := hI.len
  obtain ⟨n, hn⟩ : ∃ n, n = l.length := ⟨_, rfl⟩
  rw [← hn] at hlen ⊢
  have HN := hid hn
  clear hn
  go_enter Try.func112, Try.ntmps112
  go_wp2
  go_loopw [5, 8] (fun v5 v8 wr => ∃ k : Nat, k ≤ n ∧ v8 = .int .i64 (k : Int) ∧ Hid ((l.take k).any (fun y => x == y) = false) ∧ wr = w) (fun _ v8 _ => n - (intOf v8).toNat)
  case atStart => exact ⟨0, Nat.zero_le _, rfl, hid rfl, rfl⟩
  case round =>
    obtain ⟨k, hk, rfl, HA, rfl⟩ := hrel
    by_cases hlt : k < n
    · obtain ⟨b, off, y, rfl, hbl, hc, hx1, hx2, hg, _⟩ := hI.at (k := k) (by rw [← HN.out]; exact hlt)
      have hkI : (k : Int) < n := by omega
      have hk0 : (0 : Int) ≤ (k : Int) := by omega
      by_cases he : x = y
      · have hEQ : (x == y) = true := by simp [he]
        have HR := hid (show inL x l = true by unfold inL; rw [List.any_eq_true]; exact ⟨y, List.mem_of_getElem? hg.out, hEQ⟩)
        clear he hg
        go_wp2
        go_ret
        exact ⟨⟨(k : Int), rfl, by omega, by omega, by rw [HR.out]; exact decide_eq_true hk0⟩, rfl⟩
      · have hEQ : (x == y) = false := by simp [he]
        have HR := hid (show (l.take (k + 1)).any (fun y => x == y) = false by rw [List.take_add_one, hg.out, List.any_append, HA.out]; simp [he])
        clear he hg
        go_wp2
        go_roundw
        case rel => exact ⟨k + 1, by omega, by simp, HR, trivial⟩
        case measure => simp [intOf]; omega
    · obtain rfl : k = n := by omega
      have hA := HA.out
      rw [List.take_of_length_le (by rw [← HN.out]; omega)] at hA
      have HA2 := hid hA
      clear hA
      go_wp2
      go_ret
      exact ⟨⟨-1, rfl, by omega, by omega, by unfold inL; rw [HA2.out]; rfl⟩, rfl⟩
set_option maxRecDepth 100000 in
set_option maxHeartbeats 1000000 in
theorem contains_any (a : Option Addr) (c : Nat) (l : List Int) (x : Int) (w : World) (hI : Ints w a l) : Calls Try.prog 94 #[.slice a l.length c, .int .i64 x] w fun e w' => e = .returned (.bool (inL x l)) ∧ w = w' := by
  have hi := index_any a c l x w hI
  obtain ⟨n, hn⟩ : ∃ n, n = l.length := ⟨_, rfl⟩
  rw [← hn] at hi ⊢
  clear hn
  go_enter Try.func94, Try.ntmps94
  go_wp2_with fail
  refine hi.mono ?_
  rintro e W1 ⟨⟨r, rfl, h1, h2, h3⟩, rfl⟩
  have HR := hid h3
  clear h3
  go_wp2
  go_ret
  exact ⟨ret_bool HR.out, rfl⟩
set_option maxRecDepth 100000 in
set_option maxHeartbeats 1000000 in
theorem clip_any (a : Option Addr) (n c : Nat) (h : n ≤ c) (hc : c ≤ 9223372036854775807) (hz : a = none → c = 0) (w : World) : Calls Try.prog 115 #[.slice a n c] w fun e w' => e = .returned (.slice a n n) ∧ w = w' := by
  have hI : (n : Int) ≤ (c : Int) := by omega
  have h0 : (0 : Int) ≤ (n : Int) := by omega
  rcases a with _ | ⟨b, off, sp⟩
  · obtain rfl := hz rfl
    obtain rfl : n = 0 := by omega
    go_enter Try.func115, Try.ntmps115
    go_wp2
    go_ret
    exact ⟨rfl, rfl⟩
  · clear hz
    go_enter Try.func115, Try.ntmps115
    go_wp2
    go_ret
    exact ⟨rfl, rfl⟩
theorem inL_cons (x y : Int) (l : List Int) : inL x (y :: l) = ((x == y) || inL x l) := rfl
set_option maxRecDepth 100000 in
set_option maxHeartbeats 1000000 in
theorem In_any (a : Option Addr) (c : Nat) (l : List Int) (x : Int) (w : World) (hI : Ints w a l) : Calls Try.prog 44 #[.slice a l.length c, .int .i64 x] w fun e w' => e = .returned (.bool (inL x l)) ∧ w = w' := by
  have hlen := hI.len
  obtain ⟨r, hr⟩ : ∃ r, r = inL x l := ⟨_, rfl⟩
  rw [← hr]
  have HR := hid hr
  clear hr
  obtain ⟨n, hn⟩ : ∃ n, n = l.length := ⟨_, rfl⟩
  rw [← hn] at hlen ⊢
  have HN := hid hn
  clear hn
  go_enter Try.func44, Try.ntmps44
  go_wp2
  go_loopw [4, 5] (fun v4 v5 wr => ∃ k : Nat, k ≤ n ∧ v5 = .int .i64 (k : Int) ∧ Hid (r = inL x (l.drop k)) ∧ wr = w) (fun _ v5 _ => n - (intOf v5).toNat)
  case atStart => exact ⟨0, Nat.zero_le _, rfl, HR, rfl⟩
  case round =>
    obtain ⟨k, hk, rfl, HA, rfl⟩ := hrel
    by_cases hlt : k < n
    · obtain ⟨b, off, y, rfl, hbl, hc, hx1, hx2, hg, hd⟩ := hI.at (k := k) (by rw [← HN.out]; exact hlt)
      have hkI : (k : Int) < n := by omega
      have hk0 : (0 : Int) ≤ (k : Int) := by omega
      have hra := HA.out
      rw [hd.out, inL_cons] at hra
      by_cases hxy : y = x
      · have hyx : (y == x) = true := by simp [hxy]
        have hT : r = true := by rw [hra, hxy]; simp
        clear hra hg hd HA HR hxy
        subst hT
        go_wp2
        go_ret
        exact ⟨rfl, rfl⟩
      · have hyx : (y == x) = false := by simp [hxy]
        have hxy2 : (x == y) = false := by simp; omega
        rw [hxy2, Bool.false_or] at hra
        have HB := hid hra
        clear hra hg hd HA HR hxy2
        go_wp2
        go_roundw
        case rel => exact ⟨k + 1, by omega, by simp, HB, trivial⟩
        case measure => simp [intOf]; omega
    · obtain rfl : k = n := by omega
      have hA := HA.out
      rw [List.drop_eq_nil_iff.2 (show l.length ≤ k by rw [← HN.out]; exact Nat.le_refl _)] at hA
      replace hA : r = false := hA
      clear HR HA
      subst hA
      go_wp2
      go_ret
      exact ⟨rfl, rfl⟩
set_option maxRecDepth 100000 in
set_option maxHeartbeats 2000000 in
theorem SameInts_any (a b : Option Addr) (ca cb : Nat) (xs ys : List Int) (w : World) (hA : Ints w a xs) (hB : Ints w b ys) : Calls Try.prog 19 #[.slice a xs.length ca, .slice b ys.length cb] w fun e w' => e = .returned (.bool (decide (xs = ys))) ∧ Below w.heap.size w w' := by
  have hlen := hA.len
  have hlen2 := hB.len
  have HD := hid (show xs.length ≠ ys.length → decide (xs = ys) = false from fun h => decide_eq_false (fun e => h (by rw [e])))
  have HD2 := hid (show ∀ k : Nat, xs[k]? ≠ ys[k]? → decide (xs = ys) = false from fun k h => decide_eq_false (fun e => h (by rw [e])))
  have HD3 := hid (show ∀ k : Nat, xs.length = k → ys.length = k → xs.take k = ys.take k → decide (xs = ys) = true from fun k h1 h2 h => decide_eq_true (by rw [List.take_of_length_le (by omega), List.take_of_length_le (by omega)] at h; exact h))
  generalize decide (xs = ys) = r at *
  obtain ⟨n, hn⟩ : ∃ n, n = xs.length := ⟨_, rfl⟩
  obtain ⟨m, hm⟩ : ∃ m, m = ys.length := ⟨_, rfl⟩
  rw [← hn] at hlen HD ⊢
  rw [← hm] at hlen2 HD ⊢
  have HN := hid hn
  have HM := hid hm
  clear hn hm
  by_cases hnm : n = m
  · have hne : ((n : Int) != (m : Int)) = false := by simp [hnm]
    have HNM := hid hnm
    clear hnm HD
    go_enter Try.func19, Try.ntmps19
    go_wp2
    go_loopw [5] (fun v5 wr => ∃ k : Nat, k ≤ n ∧ v5 = .int .i64 (k : Int) ∧ Hid (xs.take k = ys.take k) ∧ Below w.heap.size w wr) (fun v5 _ => n - (intOf v5).toNat)
    case atStart => exact ⟨0, Nat.zero_le _, rfl, hid rfl, Below.refl _ _⟩
    case round =>
      obtain ⟨k, hk, rfl, HT, hb⟩ := hrel
      by_cases hlt : k < n
      · obtain ⟨b1, o1, x, rfl, _, hc1, _, _, hg1, _⟩ := (hA.below hb (Nat.le_refl _)).at (k := k) (by rw [← HN.out]; exact hlt)
        obtain ⟨b2, o2, y, rfl, _, hc2, _, _, hg2, _⟩ := (hB.below hb (Nat.le_refl _)).at (k := k) (by rw [← HM.out, ← HNM.out]; exact hlt)
        have hkI : (k : Int) < n := by omega
        have hkM : (k : Int) < m := by have := HNM.out; omega
        have hk0 : (0 : Int) ≤ (k : Int) := by omega
        have u1 := Ext.cell hc1
        have u2 := Ext.cell hc2
        have hno := HD2.out k
        by_cases hxy : x = y
        · have hxx : (x != y) = false := by simp [hxy]
          have HT2 := hid (show xs.take (k + 1) = ys.take (k + 1) by rw [List.take_add_one, List.take_add_one, HT.out, hg1.out, hg2.out, hxy])
          clear hg1 hg2 hc1 hc2 hxy hno
          go_upto_region 6 with fail
          refine wp_region_ext_lit (by kernel_rfl) (by kernel_rfl) ?_
          repeat (quiet_step (fail))
          refine wpQuiet_nil ?_
          intro _ hw'
          obtain ⟨tt, rfl⟩ := hw'
          have hb2 := hb.trans (tt.below.mono hb.size)
          go_wp2
          go_roundw
          case rel => exact ⟨k + 1, by omega, by simp, HT2, hb2⟩
          case measure => simp [intOf]; omega
        · have hxx : (x != y) = true := by simp [hxy]
          have HR := hid (hno (by rw [hg1.out, hg2.out]; intro e; injection e with e; exact hxy e))
          clear hg1 hg2 hc1 hc2 hxy hno
          go_upto_region 6 with fail
          refine wp_region_ext_lit (by kernel_rfl) (by kernel_rfl) ?_
          repeat (quiet_step (fail))
          refine wpQuiet_nil ?_
          intro _ hw'
          obtain ⟨tt, rfl⟩ := hw'
          have hb2 := hb.trans (tt.below.mono hb.size)
          go_wp2
          go_ret
          exact ⟨ret_bool HR.out.symm, hb2⟩
      · have hkn : k = n := by omega
        have HR := hid (HD3.out k (by rw [hkn, HN.out]) (by rw [hkn, HNM.out, HM.out]) HT.out)
        obtain rfl := hkn
        go_wp2
        go_ret
        exact ⟨ret_bool HR.out.symm, hb⟩
  · have hne : ((n : Int) != (m : Int)) = true := by rw [bne_iff_ne]; omega
    have HR := hid (HD.out hnm)
    clear hnm HD HD2 HD3
    go_enter Try.func19, Try.ntmps19
    go_wp2
    go_ret
    exact ⟨ret_bool HR.out.symm, Below.refl _ _⟩
set_option maxRecDepth 100000 in
set_option maxHeartbeats 2000000 in
theorem Equal_any (a b : Option Addr) (ca cb : Nat) (xs ys : List Int) (w : World) (hA : Ints w a xs) (hB : Ints w b ys) : Calls Try.prog 89 #[.slice a xs.length ca, .slice b ys.length cb] w fun e w' => e = .returned (.bool (decide (xs = ys))) ∧ Below w.heap.size w w' := by
  have hlen := hA.len
  have hlen2 := hB.len
  have HD := hid (show xs.length ≠ ys.length → decide (xs = ys) = false from fun h => decide_eq_false (fun e => h (by rw [e])))
  have HD2 := hid (show ∀ k : Nat, xs[k]? ≠ ys[k]? → decide (xs = ys) = false from fun k h => decide_eq_false (fun e => h (by rw [e])))
  have HD3 := hid (show ∀ k : Nat, xs.length = k → ys.length = k → xs.take k = ys.take k → decide (xs = ys) = true from fun k h1 h2 h => decide_eq_true (by rw [List.take_of_length_le (by omega), List.take_of_length_le (by omega)] at h; exact h))
  generalize decide (xs = ys) = r at *
  obtain ⟨n, hn⟩ : ∃ n, n = xs.length := ⟨_, rfl⟩
  obtain ⟨m, hm⟩ : ∃ m, m = ys.length := ⟨_, rfl⟩
  rw [← hn] at hlen HD ⊢
  rw [← hm] at hlen2 HD ⊢
  have HN := hid hn
  have HM := hid hm
  clear hn hm
  by_cases hnm : n = m
  · have hne : ((n : Int) != (m : Int)) = false := by simp [hnm]
    have HNM := hid hnm
    clear hnm HD
    go_enter Try.func89, Try.ntmps89
    go_wp2
    go_loopw [5, 13] (fun v5 v13 wr => ∃ k : Nat, k ≤ n ∧ v13 = .int .i64 (k : Int) ∧ Hid (xs.take k = ys.take k) ∧ Below w.heap.size w wr) (fun _ v13 _ => n - (intOf v13).toNat)
    case atStart => exact ⟨0, Nat.zero_le _, rfl, hid rfl, Below.refl _ _⟩
    case round =>
      obtain ⟨k, hk, rfl, HT, hb⟩ := hrel
      by_cases hlt : k < n
      · obtain ⟨b1, o1, x, rfl, _, hc1, _, _, hg1, _⟩ := (hA.below hb (Nat.le_refl _)).at (k := k) (by rw [← HN.out]; exact hlt)
        obtain ⟨b2, o2, y, rfl, _, hc2, _, _, hg2, _⟩ := (hB.below hb (Nat.le_refl _)).at (k := k) (by rw [← HM.out, ← HNM.out]; exact hlt)
        have hkI : (k : Int) < n := by omega
        have hkM : (k : Int) < m := by have := HNM.out; omega
        have hk0 : (0 : Int) ≤ (k : Int) := by omega
        have u1 := Ext.cell hc1
        have u2 := Ext.cell hc2
        have hno := HD2.out k
        by_cases hxy : x = y
        · have hxx : (x != y) = false := by simp [hxy]
          have HT2 := hid (show xs.take (k + 1) = ys.take (k + 1) by rw [List.take_add_one, List.take_add_one, HT.out, hg1.out, hg2.out, hxy])
          clear hg1 hg2 hc1 hc2 hxy hno
          go_upto_region 6 with fail
          refine wp_region_ext_lit (by kernel_rfl) (by kernel_rfl) ?_
          repeat (quiet_step (fail))
          refine wpQuiet_nil ?_
          intro _ hw'
          obtain ⟨tt, rfl⟩ := hw'
          have hb2 := hb.trans (tt.below.mono hb.size)
          go_wp2
          go_roundw
          case rel => exact ⟨k + 1, by omega, by simp, HT2, hb2⟩
          case measure => simp [intOf]; omega
        · have hxx : (x != y) = true := by simp [hxy]
          have HR := hid (hno (by rw [hg1.out, hg2.out]; intro e; injection e with e; exact hxy e))
          clear hg1 hg2 hc1 hc2 hxy hno
          go_upto_region 6 with fail
          refine wp_region_ext_lit (by kernel_rfl) (by kernel_rfl) ?_
          repeat (quiet_step (fail))
          refine wpQuiet_nil ?_
          intro _ hw'
          obtain ⟨tt, rfl⟩ := hw'
          have hb2 := hb.trans (tt.below.mono hb.size)
          go_wp2
          go_ret
          exact ⟨ret_bool HR.out.symm, hb2⟩
      · have hkn : k = n := by omega
        have HR := hid (HD3.out k (by rw [hkn, HN.out]) (by rw [hkn, HNM.out, HM.out]) HT.out)
        obtain rfl := hkn
        go_wp2
        go_ret
        exact ⟨ret_bool HR.out.symm, hb⟩
  · have hne : ((n : Int) != (m : Int)) = true := by rw [bne_iff_ne]; omega
    have HR := hid (HD.out hnm)
    clear hnm HD HD2 HD3
    go_enter Try.func89, Try.ntmps89
    go_wp2
    go_ret
    exact ⟨ret_bool HR.out.symm, Below.refl _ _⟩
end Go.Proofs.Yteianfbdhakhpaa
