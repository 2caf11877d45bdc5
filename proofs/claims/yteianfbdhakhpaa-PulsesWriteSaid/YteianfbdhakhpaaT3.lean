import Derived.Test.YteianfbdhakhpaaR1
import Derived.Test.YteianfbdhakhpaaProg
import Derived.Test.YteianfbdhakhpaaChecked
import Derived.Test.YteianfbdhakhpaaQ6
import Derived.StillTailTactics
import Derived.Laws.EntriesVeiled
/-! Small functions. -/
namespace Go.Proofs.Yteianfbdhakhpaa
set_option linter.unusedSimpArgs false
set_option linter.unusedVariables false
open Go Go.RowKit

set_option maxRecDepth 100000 in
set_option maxHeartbeats 1000000 in
theorem isFrom_any (lo x hi : Int) (w : World) : Calls Try.prog 75 #[.int .i64 lo, .int .i64 x, .int .i64 hi] w fun e w' => e = .returned (.bool (fromI lo x hi)) ∧ w = w' := by
  by_cases h1 : lo ≤ x
  · by_cases h2 : x ≤ hi
    · go_enter Try.func75, Try.ntmps75
      go_wp2
      go_ret
      exact ⟨by simp [fromI, h1, h2], rfl⟩
    · have h2' : hi < x := by omega
      go_enter Try.func75, Try.ntmps75
      go_wp2
      go_ret
      exact ⟨by (simp [fromI, h2]) <;> omega, rfl⟩
  · have h1' : x < lo := by omega
    go_enter Try.func75, Try.ntmps75
    go_wp2
    go_ret
    exact ⟨by (simp [fromI, h1]) <;> omega, rfl⟩
set_option maxRecDepth 100000 in
set_option maxHeartbeats 1000000 in
theorem Within_any (lo x hi : Int) (w : World) : Calls Try.prog 37 #[.int .i64 x, .int .i64 lo, .int .i64 hi] w fun e w' => e = .returned (.bool (fromI lo x hi)) ∧ w = w' := by
  by_cases h1 : lo ≤ x
  · by_cases h2 : x ≤ hi
    · go_enter Try.func37, Try.ntmps37
      go_wp2
      go_ret
      exact ⟨by simp [fromI, h1, h2], rfl⟩
    · have h2' : hi < x := by omega
      go_enter Try.func37, Try.ntmps37
      go_wp2
      go_ret
      exact ⟨by (simp [fromI, h2]) <;> omega, rfl⟩
  · have h1' : x < lo := by omega
    go_enter Try.func37, Try.ntmps37
    go_wp2
    go_ret
    exact ⟨by (simp [fromI, h1]) <;> omega, rfl⟩
set_option maxRecDepth 100000 in
set_option maxHeartbeats 1000000 in
theorem within_any (lo x hi : Int) (w : World) : Calls Try.prog 49 #[.int .i64 x, .int .i64 lo, .int .i64 hi] w fun e w' => e = .returned (.bool (fromI lo x hi)) ∧ w = w' := by
  have hf := Within_any lo x hi w
  generalize fromI lo x hi = r at *
  go_enter Try.func49, Try.ntmps49
  go_wp2_with fail
  refine hf.mono ?_
  rintro e W1 ⟨rfl, rfl⟩
  go_wp2
  go_ret
  exact ⟨rfl, rfl⟩
set_option maxRecDepth 100000 in
set_option maxHeartbeats 1000000 in
theorem isTime_any (x : Int) (w : World) : Calls Try.prog 53 #[.int .i64 x] w fun e w' => e = .returned (.bool (fromI 0 x 99999)) ∧ w = w' := by
  have hf := isFrom_any 0 x 99999 w
  generalize fromI 0 x 99999 = r at *
  go_enter Try.func53, Try.ntmps53
  go_wp2_with fail
  refine hf.mono ?_
  rintro e W1 ⟨rfl, rfl⟩
  go_wp2
  go_ret
  exact ⟨rfl, rfl⟩
def cmpI (x y : Int) : Int := if x < y then -1 else if y < x then 1 else 0
set_option maxRecDepth 100000 in
set_option maxHeartbeats 1000000 in
theorem isNaN_any (x : Int) (w : World) : Calls Try.prog 101 #[.int .i64 x] w fun e w' => e = .returned (.bool false) ∧ w = w' := by
  have hB : (x != x) = false := by simp
  go_enter Try.func101, Try.ntmps101
  go_wp2
  go_ret
  exact ⟨rfl, rfl⟩
set_option maxRecDepth 100000 in
set_option maxHeartbeats 1000000 in
theorem Compare_any (x y : Int) (w : World) : Calls Try.prog 86 #[.int .i64 x, .int .i64 y] w fun e w' => e = .returned (.int .i64 (cmpI x y)) ∧ w = w' := by
  have h1 := fun v => isNaN_any x v
  have h2 := fun v => isNaN_any y v
  have HC := hid (show cmpI x y = if x < y then -1 else if y < x then 1 else 0 from rfl)
  generalize cmpI x y = r at *
  go_enter Try.func86, Try.ntmps86
  go_wp2_with fail
  refine (h1 _).mono ?_
  rintro e W1 ⟨rfl, rfl⟩
  go_wp2_with fail
  refine (h2 _).mono ?_
  rintro e W1 ⟨rfl, rfl⟩
  by_cases hlt : x < y
  · have HR := hid (show r = -1 by rw [HC.out, if_pos hlt])
    clear HC
    go_wp2
    go_ret
    exact ⟨ret_int HR.out.symm, rfl⟩
  · by_cases hgt : y < x
    · have HR := hid (show r = 1 by rw [HC.out, if_neg hlt, if_pos hgt])
      clear HC
      go_wp2
      go_ret
      exact ⟨ret_int HR.out.symm, rfl⟩
    · have HR := hid (show r = 0 by rw [HC.out, if_neg hlt, if_neg hgt])
      clear HC
      go_wp2
      go_ret
      exact ⟨ret_int HR.out.symm, rfl⟩
set_option maxRecDepth 100000 in
set_option maxHeartbeats 2000000 in
theorem index_any (a : Option Addr) (c : Nat) (l : List Int) (x : Int) (w : World) (hI : Ints w a l) : Calls Try.prog 112 #[.slice a l.length c, .int .i64 x] w fun e w' => (∃ r : Int, e = .returned (.int .i64 r) ∧ -1 ≤ r ∧ r ≤ 9223372036854775807 ∧ decide (0 ≤ r) = inL x l) ∧ w = w' := by
  have hlen := hI.len
  obtain ⟨n, hn⟩ : ∃ n, n = l.length := ⟨_, rfl⟩
  rw [← hn] at hlen ⊢
  have HN := hid hn
  clear hn
  go_enter Try.func112, Try.ntmps112
  go_wp2
  go_loopw [5, 8] (fun v5 v8 wr => ∃ k : Nat, k ≤ n ∧ v8 = .int .i64 (k : Int) ∧ Hid ((l.take k).any (fun y => x == y) = false) ∧ wr = w) (fun _ v8 _ => n - (intOf v8).toNat)
  case atStart => exact ⟨0, Nat.zero_le _, rfl, hid rfl, rfl⟩
  case round =>
    obtain ⟨k, hk, rfl, HA, rfl⟩ := hrel
    by_cases hlt : k < n
    · obtain ⟨b, off, y, rfl, hbl, hc, hx1, hx2, hg, _⟩ := hI.at (k := k) (by rw [← HN.out]; exact hlt)
      have hkI : (k : Int) < n := by omega
      have hk0 : (0 : Int) ≤ (k : Int) := by omega
      by_cases he : x = y
      · have hEQ : (x == y) = true := by simp [he]
        have HR := hid (show inL x l = true by unfold inL; rw [List.any_eq_true]; exact ⟨y, List.mem_of_getElem? hg.out, hEQ⟩)
        clear he hg
        go_wp2
        go_ret
        exact ⟨⟨(k : Int), rfl, by omega, by omega, by rw [HR.out]; exact decide_eq_true hk0⟩, rfl⟩
      · have hEQ : (x == y) = false := by simp [he]
        have HR := hid (show (l.take (k + 1)).any (fun y => x == y) = false by rw [List.take_add_one, hg.out, List.any_append, HA.out]; simp [he])
        clear he hg
        go_wp2
        go_roundw
        case rel => exact ⟨k + 1, by omega, by simp, HR, trivial⟩
        case measure => simp [intOf]; omega
    · obtain rfl : k = n := by omega
      have hA := HA.out
      rw [List.take_of_length_le (by rw [← HN.out]; omega)] at hA
      have HA2 := hid hA
      clear hA
      go_wp2
      go_ret
      exact ⟨⟨-1, rfl, by omega, by omega, by unfold inL; rw [HA2.out]; rfl⟩, rfl⟩
set_option maxRecDepth 100000 in
set_option maxHeartbeats 1000000 in
theorem contains_any (a : Option Addr) (c : Nat) (l : List Int) (x : Int) (w : World) (hI : Ints w a l) : Calls Try.prog 94 #[.slice a l.length c, .int .i64 x] w fun e w' => e = .returned (.bool (inL x l)) ∧ w = w' := by
  have hi := index_any a c l x w hI
  obtain ⟨n, hn⟩ : ∃ n, n = l.length := ⟨_, rfl⟩
  rw [← hn] at hi ⊢
  clear hn
  go_enter Try.func94, Try.ntmps94
  go_wp2_with fail
  refine hi.mono ?_
  rintro e W1 ⟨⟨r, rfl, h1, h2, h3⟩, rfl⟩
  have HR := hid h3
  clear h3
  go_wp2
  go_ret
  exact ⟨ret_bool HR.out, rfl⟩
set_option maxRecDepth 100000 in
set_option maxHeartbeats 1000000 in
theorem clip_any (a : Option Addr) (n c : Nat) (h : n ≤ c) (hc : c ≤ 9223372036854775807) (hz : a = none → c = 0) (w : World) : Calls Try.prog 115 #[.slice a n c] w fun e w' => e = .returned (.slice a n n) ∧ w = w' := by
  have hI : (n : Int) ≤ (c : Int) := by omega
  have h0 : (0 : Int) ≤ (n : Int) := by omega
  rcases a with _ | ⟨b, off, sp⟩
  · obtain rfl := hz rfl
    obtain rfl : n = 0 := by omega
    go_enter Try.func115, Try.ntmps115
    go_wp2
    go_ret
    exact ⟨rfl, rfl⟩
  · clear hz
    go_enter Try.func115, Try.ntmps115
    go_wp2
    go_ret
    exact ⟨rfl, rfl⟩
theorem inL_cons (x y : Int) (l : List Int) : inL x (y :: l) = ((x == y) || inL x l) := rfl
set_option maxRecDepth 100000 in
set_option maxHeartbeats 1000000 in
theorem In_any (a : Option Addr) (c : Nat) (l : List Int) (x : Int) (w : World) (hI : Ints w a l) : Calls Try.prog 44 #[.slice a l.length c, .int .i64 x] w fun e w' => e = .returned (.bool (inL x l)) ∧ w = w' := by
  have hlen := hI.len
  obtain ⟨r, hr⟩ : ∃ r, r = inL x l := ⟨_, rfl⟩
  rw [← hr]
  have HR := hid hr
  clear hr
  obtain ⟨n, hn⟩ : ∃ n, n = l.length := ⟨_, rfl⟩
  rw [← hn] at hlen ⊢
  have HN := hid hn
  clear hn
  go_enter Try.func44, Try.ntmps44
  go_wp2
  go_loopw [4, 5] (fun v4 v5 wr => ∃ k : Nat, k ≤ n ∧ v5 = .int .i64 (k : Int) ∧ Hid (r = inL x (l.drop k)) ∧ wr = w) (fun _ v5 _ => n - (intOf v5).toNat)
  case atStart => exact ⟨0, Nat.zero_le _, rfl, HR, rfl⟩
  case round =>
    obtain ⟨k, hk, rfl, HA, rfl⟩ := hrel
    by_cases hlt : k < n
    · obtain ⟨b, off, y, rfl, hbl, hc, hx1, hx2, hg, hd⟩ := hI.at (k := k) (by rw [← HN.out]; exact hlt)
      have hkI : (k : Int) < n := by omega
      have hk0 : (0 : Int) ≤ (k : Int) := by omega
      have hra := HA.out
      rw [hd.out, inL_cons] at hra
      by_cases hxy : y = x
      · have hyx : (y == x) = true := by simp [hxy]
        have hT : r = true := by rw [hra, hxy]; simp
        clear hra hg hd HA HR hxy
        subst hT
        go_wp2
        go_ret
        exact ⟨rfl, rfl⟩
      · have hyx : (y == x) = false := by simp [hxy]
        have hxy2 : (x == y) = false := by simp; omega
        rw [hxy2, Bool.false_or] at hra
        have HB := hid hra
        clear hra hg hd HA HR hxy2
        go_wp2
        go_roundw
        case rel => exact ⟨k + 1, by omega, by simp, HB, trivial⟩
        case measure => simp [intOf]; omega
    · obtain rfl : k = n := by omega
      have hA := HA.out
      rw [List.drop_eq_nil_iff.2 (show l.length ≤ k by rw [← HN.out]; exact Nat.le_refl _)] at hA
      replace hA : r = false := hA
      clear HR HA
      subst hA
      go_wp2
      go_ret
      exact ⟨rfl, rfl⟩
set_option maxRecDepth 100000 in
set_option maxHeartbeats 2000000 in
theorem SameInts_any (a b : Option Addr) (ca cb : Nat) (xs ys : List Int) (w : World) (hA : Ints w a xs) (hB : Ints w b ys) : Calls Try.prog 19 #[.slice a xs.length ca, .slice b ys.length cb] w fun e w' => e = .returned (.bool (decide (xs = ys))) ∧ Below w.heap.size w w' := by
  have hlen := hA.len
  have hlen2 := hB.len
  have HD := hid (show xs.length ≠ ys.length → decide (xs = ys) = false from fun h => decide_eq_false (fun e => h (by rw [e])))
  have HD2 := hid (show ∀ k : Nat, xs[k]? ≠ ys[k]? → decide (xs = ys) = false from fun k h => decide_eq_false (fun e => h (by rw [e])))
  have HD3 := hid (show ∀ k : Nat, xs.length = k → ys.length = k → xs.take k = ys.take k → decide (xs = ys) = true from fun k h1 h2 h => decide_eq_true (by rw [List.take_of_length_le (by omega), List.take_of_length_le (by omega)] at h; exact h))
  generalize decide (xs = ys) = r at *
  obtain ⟨n, hn⟩ : ∃ n, n = xs.length := ⟨_, rfl⟩
  obtain ⟨m, hm⟩ : ∃ m, m = ys.length := ⟨_, rfl⟩
  rw [← hn] at hlen HD ⊢
  rw [← hm] at hlen2 HD ⊢
  have HN := hid hn
  have HM := hid hm
  clear hn hm
  by_cases hnm : n = m
  · have hne : ((n : Int) != (m : Int)) = false := by simp [hnm]
    have HNM := hid hnm
    clear hnm HD
    go_enter Try.func19, Try.ntmps19
    go_wp2
    go_loopw [5] (fun v5 wr => ∃ k : Nat, k ≤ n ∧ v5 = .int .i64 (k : Int) ∧ Hid (xs.take k = ys.take k) ∧ Below w.heap.size w wr) (fun v5 _ => n - (intOf v5).toNat)
    case atStart => exact ⟨0, Nat.zero_le _, rfl, hid rfl, Below.refl _ _⟩
    case round =>
      obtain ⟨k, hk, rfl, HT, hb⟩ := hrel
      by_cases hlt : k < n
      · obtain ⟨b1, o1, x, rfl, _, hc1, _, _, hg1, _⟩ := (hA.below hb (Nat.le_refl _)).at (k := k) (by rw [← HN.out]; exact hlt)
        obtain ⟨b2, o2, y, rfl, _, hc2, _, _, hg2, _⟩ := (hB.below hb (Nat.le_refl _)).at (k := k) (by rw [← HM.out, ← HNM.out]; exact hlt)
        have hkI : (k : Int) < n := by omega
        have hkM : (k : Int) < m := by have := HNM.out; omega
        have hk0 : (0 : Int) ≤ (k : Int) := by omega
        have u1 := Ext.cell hc1
        have u2 := Ext.cell hc2
        have hno := HD2.out k
        by_cases hxy : x = y
        · have hxx : (x != y) = false := by simp [hxy]
          have HT2 := hid (show xs.take (k + 1) = ys.take (k + 1) by rw [List.take_add_one, List.take_add_one, HT.out, hg1.out, hg2.out, hxy])
          clear hg1 hg2 hc1 hc2 hxy hno
          go_upto_region 6 with fail
          refine wp_region_ext_lit (by kernel_rfl) (by kernel_rfl) ?_
          repeat (quiet_step (fail))
          refine wpQuiet_nil ?_
          intro _ hw'
          obtain ⟨tt, rfl⟩ := hw'
          have hb2 := hb.trans (tt.below.mono hb.size)
          go_wp2
          go_roundw
          case rel => exact ⟨k + 1, by omega, by simp, HT2, hb2⟩
          case measure => simp [intOf]; omega
        · have hxx : (x != y) = true := by simp [hxy]
          have HR := hid (hno (by rw [hg1.out, hg2.out]; intro e; injection e with e; exact hxy e))
          clear hg1 hg2 hc1 hc2 hxy hno
          go_upto_region 6 with fail
          refine wp_region_ext_lit (by kernel_rfl) (by kernel_rfl) ?_
          repeat (quiet_step (fail))
          refine wpQuiet_nil ?_
          intro _ hw'
          obtain ⟨tt, rfl⟩ := hw'
          have hb2 := hb.trans (tt.below.mono hb.size)
          go_wp2
          go_ret
          exact ⟨ret_bool HR.out.symm, hb2⟩
      · have hkn : k = n := by omega
        have HR := hid (HD3.out k (by rw [hkn, HN.out]) (by rw [hkn, HNM.out, HM.out]) HT.out)
        obtain rfl := hkn
        go_wp2
        go_ret
        exact ⟨ret_bool HR.out.symm, hb⟩
  · have hne : ((n : Int) != (m : Int)) = true := by rw [bne_iff_ne]; omega
    have HR := hid (HD.out hnm)
    clear hnm HD HD2 HD3
    go_enter Try.func19, Try.ntmps19
    go_wp2
    go_ret
    exact ⟨ret_bool HR.out.symm, Below.refl _ _⟩
set_option maxRecDepth 100000 in
set_option maxHeartbeats 2000000 in
theorem Equal_any (a b : Option Addr) (ca cb : Nat) (xs ys : List Int) (w : World) (hA : Ints w a xs) (hB : Ints w b ys) : Calls Try.prog 89 #[.slice a xs.length ca, .slice b ys.length cb] w fun e w' => e = .returned (.bool (decide (xs = ys))) ∧ Below w.heap.size w w' := by
  have hlen := hA.len
  have hlen2 := hB.len
  have HD := hid (show xs.length ≠ ys.length → decide (xs = ys) = false from fun h => decide_eq_false (fun e => h (by rw [e])))
  have HD2 := hid (show ∀ k : Nat, xs[k]? ≠ ys[k]? → decide (xs = ys) = false from fun k h => decide_eq_false (fun e => h (by rw [e])))
  have HD3 := hid (show ∀ k : Nat, xs.length = k → ys.length = k → xs.take k = ys.take k → decide (xs = ys) = true from fun k h1 h2 h => decide_eq_true (by rw [List.take_of_length_le (by omega), List.take_of_length_le (by omega)] at h; exact h))
  generalize decide (xs = ys) = r at *
  obtain ⟨n, hn⟩ : ∃ n, n = xs.length := ⟨_, rfl⟩
  obtain ⟨m, hm⟩ : ∃ m, m = ys.length := ⟨_, rfl⟩
  rw [← hn] at hlen HD ⊢
  rw [← hm] at hlen2 HD ⊢
  have HN := hid hn
  have HM := hid hm
  clear hn hm
  by_cases hnm : n = m
  · have hne : ((n : Int) != (m : Int)) = false := by simp [hnm]
    have HNM := hid hnm
    clear hnm HD
    go_enter Try.func89, Try.ntmps89
    go_wp2
    go_loopw [5, 13] (fun v5 v13 wr => ∃ k : Nat, k ≤ n ∧ v13 = .int .i64 (k : Int) ∧ Hid (xs.take k = ys.take k) ∧ Below w.heap.size w wr) (fun _ v13 _ => n - (intOf v13).toNat)
    case atStart => exact ⟨0, Nat.zero_le _, rfl, hid rfl, Below.refl _ _⟩
    case round =>
      obtain ⟨k, hk, rfl, HT, hb⟩ := hrel
      by_cases hlt : k < n
      · obtain ⟨b1, o1, x, rfl, _, hc1, _, _, hg1, _⟩ := (hA.below hb (Nat.le_refl _)).at (k := k) (by rw [← HN.out]; exact hlt)
        obtain ⟨b2, o2, y, rfl, _, hc2, _, _, hg2, _⟩ := (hB.below hb (Nat.le_refl _)).at (k := k) (by rw [← HM.out, ← HNM.out]; exact hlt)
        have hkI : (k : Int) < n := by omega
        have hkM : (k : Int) < m := by have := HNM.out; omega
        have hk0 : (0 : Int) ≤ (k : Int) := by omega
        have u1 := Ext.cell hc1
        have u2 := Ext.cell hc2
        have hno := HD2.out k
        by_cases hxy : x = y
        · have hxx : (x != y) = false := by simp [hxy]
          have HT2 := hid (show xs.take (k + 1) = ys.take (k + 1) by rw [List.take_add_one, List.take_add_one, HT.out, hg1.out, hg2.out, hxy])
          clear hg1 hg2 hc1 hc2 hxy hno
          go_upto_region 6 with fail
          refine wp_region_ext_lit (by kernel_rfl) (by kernel_rfl) ?_
          repeat (quiet_step (fail))
          refine wpQuiet_nil ?_
          intro _ hw'
          obtain ⟨tt, rfl⟩ := hw'
          have hb2 := hb.trans (tt.below.mono hb.size)
          go_wp2
          go_roundw
          case rel => exact ⟨k + 1, by omega, by simp, HT2, hb2⟩
          case measure => simp [intOf]; omega
        · have hxx : (x != y) = true := by simp [hxy]
          have HR := hid (hno (by rw [hg1.out, hg2.out]; intro e; injection e with e; exact hxy e))
          clear hg1 hg2 hc1 hc2 hxy hno
          go_upto_region 6 with fail
          refine wp_region_ext_lit (by kernel_rfl) (by kernel_rfl) ?_
          repeat (quiet_step (fail))
          refine wpQuiet_nil ?_
          intro _ hw'
          obtain ⟨tt, rfl⟩ := hw'
          have hb2 := hb.trans (tt.below.mono hb.size)
          go_wp2
          go_ret
          exact ⟨ret_bool HR.out.symm, hb2⟩
      · have hkn : k = n := by omega
        have HR := hid (HD3.out k (by rw [hkn, HN.out]) (by rw [hkn, HNM.out, HM.out]) HT.out)
        obtain rfl := hkn
        go_wp2
        go_ret
        exact ⟨ret_bool HR.out.symm, hb⟩
  · have hne : ((n : Int) != (m : Int)) = true := by rw [bne_iff_ne]; omega
    have HR := hid (HD.out hnm)
    clear hnm HD HD2 HD3
    go_enter Try.func89, Try.ntmps89
    go_wp2
    go_ret
    exact ⟨ret_bool HR.out.symm, Below.refl _ _⟩
end Go.Proofs.Yteianfbdhakhpaa
/-! Whether a train, a list is valid. -/
namespace Go.Proofs.Yteianfbdhakhpaa
set_option linter.unusedSimpArgs false
set_option linter.unusedVariables false
open Go Go.RowKit

def w64 (x : Int) : Int := IntKind.i64.wrap x
theorem w64_in {x : Int} (h : -9223372036854775808 ≤ x ∧ x ≤ 9223372036854775807) : w64 x = x := IntWalk.i64_in x h
/-- Whether a number is a selection. -/
def selB (X : Pu) (s : Int) : Bool := fromI 0 s (w64 (w64 (X.l * X.n) - 1))
theorem selB_ok {X : Pu} (ok : POk X) (s : Int) : selB X s = fromI 0 s (X.l * X.n - 1) := by
  have m2 : 0 ≤ X.l * X.n := Int.mul_nonneg (by have := ok.l; omega) (by have := ok.n; omega)
  have m3 : X.l * X.n ≤ 5 * 5 := Int.mul_le_mul ok.l.2 ok.n.2 (by have := ok.n; omega) (by omega)
  unfold selB
  rw [w64_in (x := X.l * X.n) (by omega), w64_in (by omega)]
def cntF (f : Int → Bool) (l : List Int) : Nat := (l.filter f).length
def listB (X : Pu) (l : List Int) : Bool := decide (l.length ≤ 24) && decide (cntF (selB X) l = l.length)

set_option maxRecDepth 100000 in
set_option maxHeartbeats 1000000 in
theorem isSelection_any (aT : Option Addr) (cT : Nat) (X : Pu) (s : Int) (w : World) : Calls Try.prog 66 #[.agg #[.int .i64 X.l, .int .i64 X.n, .int .i64 X.pi, .int .i64 X.sl, .int .i64 X.ga, .int .i64 X.pa, .int .i64 X.sp, .slice aT X.ts.length cT], .int .i64 s] w fun e w' => e = .returned (.bool (selB X s)) ∧ Below w.heap.size w w' := by
  obtain ⟨W, hW, hb, _, x0⟩ := boxes1 w #[.int .i64 X.l, .int .i64 X.n, .int .i64 X.pi, .int .i64 X.sl, .int .i64 X.ga, .int .i64 X.pa, .int .i64 X.sp, .slice aT X.ts.length cT] 24
  have e1 : IntKind.i64.wrap (X.l * X.n) = w64 (X.l * X.n) := rfl
  have e2 : IntKind.i64.wrap (w64 (X.l * X.n) - 1) = w64 (w64 (X.l * X.n) - 1) := rfl
  have hf := fun V => isFrom_any 0 s (w64 (w64 (X.l * X.n) - 1)) V
  unfold selB
  generalize w64 (w64 (X.l * X.n) - 1) = m1 at *
  generalize w64 (X.l * X.n) = m2 at *
  generalize fromI 0 s m1 = r at *
  generalize X.ts.length = n at *
  have c0 := x0.cell 0 rfl; have c1 := x0.cell 1 rfl; have c2 := x0.cell 2 rfl; have c3 := x0.cell 3 rfl; have c4 := x0.cell 4 rfl; have c5 := x0.cell 5 rfl; have c6 := x0.cell 6 rfl; have c7 := x0.cell 7 rfl
  go_enter Try.func66, Try.ntmps66
  go_wp2_with fail
  refine (hf _).mono ?_
  rintro e W1 ⟨rfl, rfl⟩
  go_wp2
  go_ret
  exact ⟨rfl, hb⟩
set_option maxRecDepth 100000 in
set_option maxHeartbeats 1000000 in
theorem rIsSelection_any (aT : Option Addr) (cT : Nat) (X : Pu) (s : Int) (w : World) : Calls Try.prog 40 #[.agg #[.int .i64 X.l, .int .i64 X.n, .int .i64 X.pi, .int .i64 X.sl, .int .i64 X.ga, .int .i64 X.pa, .int .i64 X.sp, .slice aT X.ts.length cT], .int .i64 s] w fun e w' => e = .returned (.bool (selB X s)) ∧ Below w.heap.size w w' := by
  obtain ⟨W, hW, hb, _, x0⟩ := boxes1 w #[.int .i64 X.l, .int .i64 X.n, .int .i64 X.pi, .int .i64 X.sl, .int .i64 X.ga, .int .i64 X.pa, .int .i64 X.sp, .slice aT X.ts.length cT] 24
  have e1 : IntKind.i64.wrap (X.l * X.n) = w64 (X.l * X.n) := rfl
  have e2 : IntKind.i64.wrap (w64 (X.l * X.n) - 1) = w64 (w64 (X.l * X.n) - 1) := rfl
  have hf := fun V => within_any 0 s (w64 (w64 (X.l * X.n) - 1)) V
  unfold selB
  generalize w64 (w64 (X.l * X.n) - 1) = m1 at *
  generalize w64 (X.l * X.n) = m2 at *
  generalize fromI 0 s m1 = r at *
  generalize X.ts.length = n at *
  have c0 := x0.cell 0 rfl; have c1 := x0.cell 1 rfl; have c2 := x0.cell 2 rfl; have c3 := x0.cell 3 rfl; have c4 := x0.cell 4 rfl; have c5 := x0.cell 5 rfl; have c6 := x0.cell 6 rfl; have c7 := x0.cell 7 rfl
  go_enter Try.func40, Try.ntmps40
  go_wp2_with fail
  refine (hf _).mono ?_
  rintro e W1 ⟨rfl, rfl⟩
  go_wp2
  go_ret
  exact ⟨rfl, hb⟩
set_option maxRecDepth 100000 in
set_option maxHeartbeats 1000000 in
theorem isListC_any (aT : Option Addr) (cT : Nat) (X : Pu) (g : Nat) (s : Int) (w : World) (x0 : Bx w g #[.int .i64 X.l, .int .i64 X.n, .int .i64 X.pi, .int .i64 X.sl, .int .i64 X.ga, .int .i64 X.pa, .int .i64 X.sp, .slice aT X.ts.length cT] 24) : Calls Try.prog 78 #[.int .i64 s, .pointer (some ⟨g, 0, none⟩)] w fun e w' => e = .returned (.bool (selB X s)) ∧ Below w.heap.size w w' := by
  have hf := fun V => isSelection_any aT cT X s V
  generalize selB X s = r at *
  generalize X.ts.length = n at *
  have c0 := x0.cell 0 rfl; have c1 := x0.cell 1 rfl; have c2 := x0.cell 2 rfl; have c3 := x0.cell 3 rfl; have c4 := x0.cell 4 rfl; have c5 := x0.cell 5 rfl; have c6 := x0.cell 6 rfl; have c7 := x0.cell 7 rfl
  go_enter Try.func78, Try.ntmps78
  go_wp2_with fail
  refine (hf _).mono ?_
  rintro e W1 ⟨rfl, hb⟩
  go_wp2
  go_ret
  exact ⟨rfl, hb⟩
set_option maxRecDepth 100000 in
set_option maxHeartbeats 2000000 in
theorem count78_any (g : Nat) (a : Option Addr) (c : Nat) (l : List Int) (f : Int → Bool) (w : World) (hI : Ints w a l) (hf : ∀ V x, Below w.heap.size w V → x ∈ l → Calls Try.prog 78 #[.int .i64 x, .pointer (some ⟨g, 0, none⟩)] V fun e w' => e = .returned (.bool (f x)) ∧ Below V.heap.size V w') : Calls Try.prog 67 #[.slice a l.length c, .func (.func 78) #[] #[.pointer (some ⟨g, 0, none⟩)]] w fun e w' => e = .returned (.int .i64 (cntF f l)) ∧ Below w.heap.size w w' := by
  have hlen := hI.len
  have hle : cntF f l ≤ l.length := List.length_filter_le _ _
  have HK := hid (show ∀ k x, l[k]? = some x → cntF f (l.take (k + 1)) = cntF f (l.take k) + if f x = true then 1 else 0 from fun k x h => by
    unfold cntF; rw [List.take_add_one, h, List.filter_append, List.length_append]
    cases hx : f x <;> simp [hx])
  have HLE := hid (show ∀ k, cntF f (l.take k) ≤ k from fun k => Nat.le_trans (List.length_filter_le _ _) (by rw [List.length_take]; omega))
  obtain ⟨R, hR⟩ : ∃ R, R = cntF f l := ⟨_, rfl⟩
  rw [← hR] at hle ⊢
  have HR := hid hR
  obtain ⟨n, hn⟩ : ∃ n, n = l.length := ⟨_, rfl⟩
  rw [← hn] at hlen hle ⊢
  have HN := hid hn
  have HF := hid hf
  clear hn hR hf
  go_enter Try.func67, Try.ntmps67
  go_wp2
  go_loopw [5, 10] (fun v5 v10 wr => ∃ k q : Nat, k ≤ n ∧ v10 = .int .i64 (k : Int) ∧ v5 = .int .i64 (q : Int) ∧ Hid (q = cntF f (l.take k)) ∧ Below w.heap.size w wr) (fun _ v10 _ => n - (intOf v10).toNat)
  case atStart => exact ⟨0, 0, Nat.zero_le _, rfl, rfl, hid rfl, Below.refl _ _⟩
  case round =>
    obtain ⟨k, q, hk, rfl, rfl, HQ, hb⟩ := hrel
    by_cases hlt : k < n
    · obtain ⟨b1, o1, x, rfl, _, hc1, _, _, hg1, _⟩ := (hI.below hb (Nat.le_refl _)).at (k := k) (by rw [← HN.out]; exact hlt)
      have hkI : (k : Int) < n := by omega
      have hk0 : (0 : Int) ≤ (k : Int) := by omega
      have hq1 : q ≤ k := by rw [HQ.out]; exact HLE.out k
      have ewq : IntKind.i64.wrap ((q : Int) + 1) = (q : Int) + 1 := IntWalk.i64_in _ (by omega)
      have hcall := HF.out wr x hb (List.mem_of_getElem? hg1.out)
      have hs := HK.out k x hg1.out
      rw [← HQ.out] at hs
      clear hg1
      cases hx : f x with
      | true =>
        rw [hx] at hcall hs
        have HS := hid (show q + 1 = cntF f (l.take (k + 1)) by rw [hs]; rfl)
        clear hs hx
        go_wp2_with fail
        refine hcall.mono ?_
        rintro e V1 ⟨rfl, hb1⟩
        replace hb := hb.trans (hb1.mono hb.size)
        clear hb1 hcall hc1
        go_wp2
        go_roundw
        case rel => exact ⟨k + 1, q + 1, by omega, by simp, by go_num, HS, hb⟩
        case measure => simp [intOf]; omega
      | false =>
        rw [hx] at hcall hs
        have HS := hid (show q = cntF f (l.take (k + 1)) by rw [hs]; rfl)
        clear hs hx
        go_wp2_with fail
        refine hcall.mono ?_
        rintro e V1 ⟨rfl, hb1⟩
        replace hb := hb.trans (hb1.mono hb.size)
        clear hb1 hcall hc1
        go_wp2
        go_roundw
        case rel => exact ⟨k + 1, q, by omega, by simp, rfl, HS, hb⟩
        case measure => simp [intOf]; omega
    · have hkn : k = n := by omega
      have hq := HQ.out
      rw [List.take_of_length_le (by rw [hkn, HN.out]; exact Nat.le_refl _), ← HR.out] at hq
      have HQ2 := hid hq
      clear hq HQ
      go_wp2
      go_ret
      exact ⟨ret_int (by rw [HQ2.out]), hb⟩
set_option maxRecDepth 100000 in
set_option maxHeartbeats 2000000 in
theorem all78_any (aT : Option Addr) (cT : Nat) (X : Pu) (g : Nat) (a : Option Addr) (c : Nat) (l : List Int) (w : World) (hI : Ints w a l) (x0 : Bx w g #[.int .i64 X.l, .int .i64 X.n, .int .i64 X.pi, .int .i64 X.sl, .int .i64 X.ga, .int .i64 X.pa, .int .i64 X.sp, .slice aT X.ts.length cT] 24) : Calls Try.prog 55 #[.slice a l.length c, .func (.func 78) #[] #[.pointer (some ⟨g, 0, none⟩)]] w fun e w' => e = .returned (.bool (decide (cntF (selB X) l = l.length))) ∧ Below w.heap.size w w' := by
  have hc := count78_any g a c l (selB X) w hI (fun V x hb _ => isListC_any aT cT X g x V (x0.below hb))
  generalize cntF (selB X) l = q at *
  obtain ⟨n, hn⟩ : ∃ n, n = l.length := ⟨_, rfl⟩
  rw [← hn] at hc ⊢
  clear hn
  have HE := hid (show ((q : Int) == (n : Int)) = decide (q = n) by
    by_cases h : q = n
    · simp [h]
    · rw [decide_eq_false h, beq_eq_false_iff_ne]; omega)
  go_enter Try.func55, Try.ntmps55
  go_wp2_with fail
  refine hc.mono ?_
  rintro e V1 ⟨rfl, hb1⟩
  go_wp2
  go_ret
  exact ⟨ret_bool (by first | exact HE.out | (rw [← HE.out])), hb1⟩
set_option maxRecDepth 100000 in
set_option maxHeartbeats 2000000 in
theorem isList_any (aT : Option Addr) (cT : Nat) (X : Pu) (a : Option Addr) (c : Nat) (l : List Int) (w : World) (hI : Ints w a l) : Calls Try.prog 52 #[.agg #[.int .i64 X.l, .int .i64 X.n, .int .i64 X.pi, .int .i64 X.sl, .int .i64 X.ga, .int .i64 X.pa, .int .i64 X.sp, .slice aT X.ts.length cT], .slice a l.length c] w fun e w' => e = .returned (.bool (listB X l)) ∧ Below w.heap.size w w' := by
  obtain ⟨W, hW, hb, _, x0⟩ := boxes1 w #[.int .i64 X.l, .int .i64 X.n, .int .i64 X.pi, .int .i64 X.sl, .int .i64 X.ga, .int .i64 X.pa, .int .i64 X.sp, .slice aT X.ts.length cT] 24
  have hal := all78_any aT cT X w.heap.size a c l W (hI.below hb (Nat.le_refl _)) x0
  have hlen := hI.len
  unfold listB
  generalize decide (cntF (selB X) l = l.length) = r at *
  generalize l.length = m at *
  generalize X.ts.length = n at *
  clear x0
  by_cases hm : m ≤ 24
  · have hmI : (m : Int) ≤ 24 := by omega
    rw [decide_eq_true hm, Bool.true_and]
    go_enter Try.func52, Try.ntmps52
    go_wp2_with fail
    refine hal.mono ?_
    rintro e V1 ⟨rfl, hb1⟩
    replace hb := hb.trans (hb1.mono hb.size)
    clear hb1 hal hW
    go_wp2
    go_ret
    exact ⟨rfl, hb⟩
  · have hmI : ¬ (m : Int) ≤ 24 := by omega
    rw [decide_eq_false hm, Bool.false_and]
    clear hal
    go_enter Try.func52, Try.ntmps52
    go_wp2
    go_ret
    exact ⟨rfl, hb⟩

end Go.Proofs.Yteianfbdhakhpaa
/-! Whether a train is valid. -/
namespace Go.Proofs.Yteianfbdhakhpaa
set_option linter.unusedSimpArgs false
set_option linter.unusedVariables false
open Go Go.RowKit

set_option maxRecDepth 100000 in
set_option maxHeartbeats 3000000 in
theorem areDistances_any (aT : Option Addr) (cT : Nat) (X : Pu) (w : World) : Calls Try.prog 76 #[.agg #[.int .i64 X.l, .int .i64 X.n, .int .i64 X.pi, .int .i64 X.sl, .int .i64 X.ga, .int .i64 X.pa, .int .i64 X.sp, .slice aT X.ts.length cT]] w fun e w' => e = .returned (.bool (distB X)) ∧ Below w.heap.size w w' := by
  obtain ⟨W, hW, hb, _, x0⟩ := boxes1 w #[.int .i64 X.l, .int .i64 X.n, .int .i64 X.pi, .int .i64 X.sl, .int .i64 X.ga, .int .i64 X.pa, .int .i64 X.sp, .slice aT X.ts.length cT] 24
  have c0 := x0.cell 0 rfl; have c1 := x0.cell 1 rfl; have c2 := x0.cell 2 rfl; have c3 := x0.cell 3 rfl; have c4 := x0.cell 4 rfl; have c5 := x0.cell 5 rfl; have c6 := x0.cell 6 rfl; have c7 := x0.cell 7 rfl
  have HD := hid (show distB X = (fromI 1 X.pi 99 && (fromI 0 X.sl (X.pi - 1) && (decide (X.pi + X.sl < X.ga) && (decide (X.ga < X.pa) && decide (X.pa ≤ 999))))) from rfl)
  generalize distB X = r at *
  generalize X.ts.length = n at *
  have h1 := fun V => isFrom_any 1 X.pi 99 V
  have h2 := fun V => isFrom_any 0 X.sl (X.pi - 1) V
  obtain ⟨l, nn, pi, sl, ga, pa, sp, ts⟩ := X
  simp only at *
  cases hb1 : fromI 1 pi 99 with
  | false =>
    have HR := hid (show r = false by rw [HD.out, hb1]; rfl)
    rw [hb1] at h1
    clear hb1 HD h2
    go_enter Try.func76, Try.ntmps76
    go_wp2_with fail
    refine (h1 _).mono ?_
    rintro e V1 ⟨rfl, rfl⟩
    go_wp2
    go_ret
    exact ⟨ret_bool HR.out.symm, hb⟩
  | true =>
    have hr1 : 1 ≤ pi ∧ pi ≤ 99 := by simpa [fromI] using hb1
    have ew : IntKind.i64.wrap (pi - 1) = pi - 1 := IntWalk.i64_in _ (by omega)
    rw [hb1] at h1
    cases hb2 : fromI 0 sl (pi - 1) with
    | false =>
      have HR := hid (show r = false by rw [HD.out, hb1, hb2]; rfl)
      rw [hb2] at h2
      clear hb1 hb2 HD
      go_enter Try.func76, Try.ntmps76
      go_wp2_with fail
      refine (h1 _).mono ?_
      rintro e V1 ⟨rfl, rfl⟩
      go_wp2_with fail
      refine (h2 _).mono ?_
      rintro e V1 ⟨rfl, rfl⟩
      go_wp2
      go_ret
      exact ⟨ret_bool HR.out.symm, hb⟩
    | true =>
      have hr2 : 0 ≤ sl ∧ sl ≤ pi - 1 := by simpa [fromI] using hb2
      have ew2 : IntKind.i64.wrap (pi + sl) = pi + sl := IntWalk.i64_in _ (by omega)
      rw [hb2] at h2
      by_cases h3 : pi + sl < ga
      · by_cases h4 : ga < pa
        · by_cases h5 : pa ≤ 999
          · skip
            have HR := hid (show r = true by rw [HD.out, hb1, hb2]; simp [h3, h4, h5])
            clear hb1 hb2 HD
            go_enter Try.func76, Try.ntmps76
            go_wp2_with fail
            refine (h1 _).mono ?_
            rintro e V1 ⟨rfl, rfl⟩
            go_wp2_with fail
            refine (h2 _).mono ?_
            rintro e V1 ⟨rfl, rfl⟩
            go_wp2
            go_ret
            exact ⟨ret_bool (by rw [HR.out] <;> simp [h3, h4, h5]), hb⟩
          · skip
            have HR := hid (show r = false by rw [HD.out, hb1, hb2]; simp [h3, h4, h5])
            clear hb1 hb2 HD
            go_enter Try.func76, Try.ntmps76
            go_wp2_with fail
            refine (h1 _).mono ?_
            rintro e V1 ⟨rfl, rfl⟩
            go_wp2_with fail
            refine (h2 _).mono ?_
            rintro e V1 ⟨rfl, rfl⟩
            go_wp2
            go_ret
            exact ⟨ret_bool (by rw [HR.out] <;> simp [h3, h4, h5]), hb⟩
        · skip
          have HR := hid (show r = false by rw [HD.out, hb1, hb2]; simp [h3, h4])
          clear hb1 hb2 HD
          go_enter Try.func76, Try.ntmps76
          go_wp2_with fail
          refine (h1 _).mono ?_
          rintro e V1 ⟨rfl, rfl⟩
          go_wp2_with fail
          refine (h2 _).mono ?_
          rintro e V1 ⟨rfl, rfl⟩
          go_wp2
          go_ret
          exact ⟨ret_bool (by rw [HR.out] <;> simp [h3, h4]), hb⟩
      · skip
        have HR := hid (show r = false by rw [HD.out, hb1, hb2]; simp [h3])
        clear hb1 hb2 HD
        go_enter Try.func76, Try.ntmps76
        go_wp2_with fail
        refine (h1 _).mono ?_
        rintro e V1 ⟨rfl, rfl⟩
        go_wp2_with fail
        refine (h2 _).mono ?_
        rintro e V1 ⟨rfl, rfl⟩
        go_wp2
        go_ret
        exact ⟨ret_bool (by rw [HR.out] <;> simp [h3]), hb⟩

theorem timesB_no {ts : List Int} {k : Nat} (hk : k < ts.length) (h : timeOk ts k = false) : timesB ts = false := by
  unfold timesB; rw [all_range_no _ hk h]; rfl
set_option maxRecDepth 100000 in
set_option maxHeartbeats 3000000 in
theorem areTimes_any (a : Option Addr) (c : Nat) (l : List Int) (w : World) (hI : Ints w a l) : Calls Try.prog 77 #[.slice a l.length c] w fun e w' => e = .returned (.bool (timesB l)) ∧ w = w' := by
  have hlen := hI.len
  have H1 := hid (show ∀ k, k < l.length → timeOk l k = false → timesB l = false from fun k hk h => timesB_no hk h)
  have H2 := hid (show (List.range l.length).all (timeOk l) = true → timesB l = decide (l.length ≤ 24) from fun h => by unfold timesB; rw [h]; rfl)
  generalize timesB l = r at *
  obtain ⟨n, hn⟩ : ∃ n, n = l.length := ⟨_, rfl⟩
  rw [← hn] at hlen H1 H2 ⊢
  have HN := hid hn
  clear hn
  go_enter Try.func77, Try.ntmps77
  go_wp2
  go_loopw [3, 4, 7] (fun v3 v4 v7 wr => ∃ k : Nat, k ≤ n ∧ v7 = .int .i64 (k : Int) ∧ Hid ((List.range k).all (timeOk l) = true) ∧ wr = w) (fun _ _ v7 _ => n - (intOf v7).toNat)
  case atStart => exact ⟨0, Nat.zero_le _, rfl, hid rfl, rfl⟩
  case round =>
    obtain ⟨k, hk, rfl, HA, rfl⟩ := hrel
    by_cases hlt : k < n
    · obtain ⟨b, off, y, rfl, hbl, hc, hy1, hy2, hg, _⟩ := hI.at (k := k) (by rw [← HN.out]; exact hlt)
      have hkI : (k : Int) < n := by omega
      have hk0 : (0 : Int) ≤ (k : Int) := by omega
      have hyd : l.getD k 0 = y := by rw [List.getD_eq_getElem?_getD, hg.out]; rfl
      have hrow : timeOk l k = (fromI 0 y 99999 && (decide (k = 0) || decide (l.getD (k - 1) 0 < y))) := by unfold timeOk; rw [hyd]
      have hno := H1.out k hlt
      have h1 := isTime_any y wr
      cases hy : fromI 0 y 99999 with
      | false =>
        rw [hy] at h1 hrow
        have HR := hid (hno hrow)
        clear hno hrow hyd hg HA H2 hy
        go_wp2_with fail
        refine h1.mono ?_
        rintro e V1 ⟨rfl, rfl⟩
        go_wp2
        go_ret
        exact ⟨ret_bool HR.out.symm, rfl⟩
      | true =>
        rw [hy] at h1 hrow
        by_cases hk00 : k = 0
        · have HB := hid (show (List.range (k + 1)).all (timeOk l) = true by rw [all_range_succ, HA.out, hrow]; simp [hk00])
          have hjg : ¬ (k : Int) > 0 := by omega
          clear hno hrow hyd hg HA hy hk00
          go_wp2_with fail
          refine h1.mono ?_
          rintro e V1 ⟨rfl, rfl⟩
          go_wp2
          go_roundw
          case rel => exact ⟨k + 1, by omega, by simp, HB, trivial⟩
          case measure => simp [intOf]; omega
        · obtain ⟨j, hj⟩ : ∃ j, j = k - 1 := ⟨_, rfl⟩
          obtain ⟨b', off', z, eb, hbl', hc', hz1, hz2, hg', _⟩ := hI.at (k := j) (by rw [← HN.out]; omega)
          simp only [Option.some.injEq, Addr.mk.injEq, and_true] at eb
          obtain ⟨rfl, rfl⟩ := eb
          have hzd : l.getD (k - 1) 0 = z := by rw [← hj, List.getD_eq_getElem?_getD, hg'.out]; rfl
          rw [hzd] at hrow
          have hjI : (j : Int) < n := by omega
          have hj0 : (0 : Int) ≤ (j : Int) := by omega
          have hjg : (k : Int) > 0 := by omega
          have ewj : IntKind.i64.wrap ((k : Int) - 1) = (j : Int) := by rw [IntWalk.i64_in _ (by omega)]; omega
          by_cases hlt2 : z < y
          · have HB := hid (show (List.range (k + 1)).all (timeOk l) = true by rw [all_range_succ, HA.out, hrow]; simp [hlt2])
            clear hno hrow hyd hzd hg hg' HA hy hj hk00
            go_wp2_with fail
            refine h1.mono ?_
            rintro e V1 ⟨rfl, rfl⟩
            go_wp2
            go_roundw
            case rel => exact ⟨k + 1, by omega, by simp, HB, trivial⟩
            case measure => simp [intOf]; omega
          · have hle2 : y ≤ z := by omega
            have HR := hid (hno (by rw [hrow]; simp [hlt2, hk00]))
            clear hno hrow hyd hzd hg hg' HA hy H2 hj hk00
            go_wp2_with fail
            refine h1.mono ?_
            rintro e V1 ⟨rfl, rfl⟩
            go_wp2
            go_ret
            exact ⟨ret_bool HR.out.symm, rfl⟩
    · obtain rfl : k = n := by omega
      have HR := hid (H2.out HA.out)
      by_cases h24 : k ≤ 24
      · have h24I : (k : Int) ≤ 24 := by omega
        rw [decide_eq_true h24] at HR
        clear h24
        go_wp2
        go_ret
        exact ⟨ret_bool HR.out.symm, rfl⟩
      · have h24I : ¬ (k : Int) ≤ 24 := by omega
        rw [decide_eq_false h24] at HR
        clear h24
        go_wp2
        go_ret
        exact ⟨ret_bool HR.out.symm, rfl⟩

set_option maxRecDepth 100000 in
set_option maxHeartbeats 3000000 in
theorem valid_any (aT : Option Addr) (cT : Nat) (X : Pu) (w : World) (hX : Ints w aT X.ts) : Calls Try.prog 48 #[.agg #[.int .i64 X.l, .int .i64 X.n, .int .i64 X.pi, .int .i64 X.sl, .int .i64 X.ga, .int .i64 X.pa, .int .i64 X.sp, .slice aT X.ts.length cT]] w fun e w' => e = .returned (.bool (vB X)) ∧ Below w.heap.size w w' := by
  obtain ⟨W, hW, hb, _, x0⟩ := boxes1 w #[.int .i64 X.l, .int .i64 X.n, .int .i64 X.pi, .int .i64 X.sl, .int .i64 X.ga, .int .i64 X.pa, .int .i64 X.sp, .slice aT X.ts.length cT] 24
  have c0 := x0.cell 0 rfl; have c1 := x0.cell 1 rfl; have c2 := x0.cell 2 rfl; have c3 := x0.cell 3 rfl; have c4 := x0.cell 4 rfl; have c5 := x0.cell 5 rfl; have c6 := x0.cell 6 rfl; have c7 := x0.cell 7 rfl
  have h1 := fun V => isFrom_any 1 X.l 5 V
  have h2 := fun V => isFrom_any 1 X.n 5 V
  have h3 := fun V => areDistances_any aT cT X V
  have h4 := fun V => isFrom_any 0 X.sp 3 V
  have h5 := fun V (h : Below w.heap.size w V) => areTimes_any aT cT X.ts V (hX.below h (Nat.le_refl _))
  have HV := hid (show vB X = (fromI 1 X.l 5 && (fromI 1 X.n 5 && (distB X && (fromI 0 X.sp 3 && timesB X.ts)))) from rfl)
  generalize vB X = r at *
  generalize fromI 1 X.l 5 = b1 at *
  generalize fromI 1 X.n 5 = b2 at *
  generalize distB X = b3 at *
  generalize fromI 0 X.sp 3 = b4 at *
  generalize timesB X.ts = b5 at *
  clear hX
  generalize X.ts.length = n at *
  cases b1 with
  | false =>
    have HR := hid (show r = false by rw [HV.out]; rfl)
    clear HV
    go_enter Try.func48, Try.ntmps48
    go_wp2_with fail
    refine (h1 _).mono ?_
    rintro e V1 ⟨rfl, rfl⟩
    go_wp2
    go_ret
    exact ⟨ret_bool HR.out.symm, hb⟩
  | true =>
    cases b2 with
    | false =>
      have HR := hid (show r = false by rw [HV.out]; rfl)
      clear HV
      go_enter Try.func48, Try.ntmps48
      go_wp2_with fail
      refine (h1 _).mono ?_
      rintro e V1 ⟨rfl, rfl⟩
      go_wp2_with fail
      refine (h2 _).mono ?_
      rintro e V2 ⟨rfl, rfl⟩
      go_wp2
      go_ret
      exact ⟨ret_bool HR.out.symm, hb⟩
    | true =>
      cases b3 with
      | false =>
        have HR := hid (show r = false by rw [HV.out]; rfl)
        clear HV
        go_enter Try.func48, Try.ntmps48
        go_wp2_with fail
        refine (h1 _).mono ?_
        rintro e V1 ⟨rfl, rfl⟩
        go_wp2_with fail
        refine (h2 _).mono ?_
        rintro e V2 ⟨rfl, rfl⟩
        go_wp2_with fail
        refine (h3 _).mono ?_
        rintro e V3 ⟨rfl, hb3⟩
        clear c0 c1 c2 c3 c4 c5 c6 c7
        replace x0 := x0.below hb3
        have c0 := x0.cell 0 rfl; have c1 := x0.cell 1 rfl; have c2 := x0.cell 2 rfl; have c3 := x0.cell 3 rfl; have c4 := x0.cell 4 rfl; have c5 := x0.cell 5 rfl; have c6 := x0.cell 6 rfl; have c7 := x0.cell 7 rfl
        replace hb := hb.trans (hb3.mono hb.size)
        clear hb3
        go_wp2
        go_ret
        exact ⟨ret_bool HR.out.symm, hb⟩
      | true =>
        cases b4 with
        | false =>
          have HR := hid (show r = false by rw [HV.out]; rfl)
          clear HV
          go_enter Try.func48, Try.ntmps48
          go_wp2_with fail
          refine (h1 _).mono ?_
          rintro e V1 ⟨rfl, rfl⟩
          go_wp2_with fail
          refine (h2 _).mono ?_
          rintro e V2 ⟨rfl, rfl⟩
          go_wp2_with fail
          refine (h3 _).mono ?_
          rintro e V3 ⟨rfl, hb3⟩
          clear c0 c1 c2 c3 c4 c5 c6 c7
          replace x0 := x0.below hb3
          have c0 := x0.cell 0 rfl; have c1 := x0.cell 1 rfl; have c2 := x0.cell 2 rfl; have c3 := x0.cell 3 rfl; have c4 := x0.cell 4 rfl; have c5 := x0.cell 5 rfl; have c6 := x0.cell 6 rfl; have c7 := x0.cell 7 rfl
          replace hb := hb.trans (hb3.mono hb.size)
          clear hb3
          go_wp2_with fail
          refine (h4 _).mono ?_
          rintro e V4 ⟨rfl, rfl⟩
          go_wp2
          go_ret
          exact ⟨ret_bool HR.out.symm, hb⟩
        | true =>
          have HR := hid (show r = b5 by rw [HV.out]; simp)
          clear HV
          go_enter Try.func48, Try.ntmps48
          go_wp2_with fail
          refine (h1 _).mono ?_
          rintro e V1 ⟨rfl, rfl⟩
          go_wp2_with fail
          refine (h2 _).mono ?_
          rintro e V2 ⟨rfl, rfl⟩
          go_wp2_with fail
          refine (h3 _).mono ?_
          rintro e V3 ⟨rfl, hb3⟩
          clear c0 c1 c2 c3 c4 c5 c6 c7
          replace x0 := x0.below hb3
          have c0 := x0.cell 0 rfl; have c1 := x0.cell 1 rfl; have c2 := x0.cell 2 rfl; have c3 := x0.cell 3 rfl; have c4 := x0.cell 4 rfl; have c5 := x0.cell 5 rfl; have c6 := x0.cell 6 rfl; have c7 := x0.cell 7 rfl
          replace hb := hb.trans (hb3.mono hb.size)
          clear hb3
          go_wp2_with fail
          refine (h4 _).mono ?_
          rintro e V4 ⟨rfl, rfl⟩
          go_wp2_with fail
          refine (h5 _ hb).mono ?_
          rintro e V5 ⟨rfl, rfl⟩
          go_wp2
          go_ret
          exact ⟨ret_bool HR.out.symm, hb⟩
set_option maxRecDepth 100000 in
set_option maxHeartbeats 3000000 in
theorem Check_any (aT : Option Addr) (cT : Nat) (X : Pu) (w : World) (hX : Ints w aT X.ts) : Calls Try.prog 15 #[.agg #[.int .i64 X.l, .int .i64 X.n, .int .i64 X.pi, .int .i64 X.sl, .int .i64 X.ga, .int .i64 X.pa, .int .i64 X.sp, .slice aT X.ts.length cT]] w fun e w' => e = .returned (.int .i64 (if vB X = true then 0 else 130)) ∧ Below w.heap.size w w' := by
  obtain ⟨W, hW, hb, _, x0⟩ := boxes1 w #[.int .i64 X.l, .int .i64 X.n, .int .i64 X.pi, .int .i64 X.sl, .int .i64 X.ga, .int .i64 X.pa, .int .i64 X.sp, .slice aT X.ts.length cT] 24
  have c0 := x0.cell 0 rfl; have c1 := x0.cell 1 rfl; have c2 := x0.cell 2 rfl; have c3 := x0.cell 3 rfl; have c4 := x0.cell 4 rfl; have c5 := x0.cell 5 rfl; have c6 := x0.cell 6 rfl; have c7 := x0.cell 7 rfl
  have h1 := valid_any aT cT X W (hX.below hb (Nat.le_refl _))
  generalize vB X = r at *
  generalize X.ts.length = n at *
  clear x0
  cases r
  all_goals
    go_enter Try.func15, Try.ntmps15
    go_wp2_with fail
    refine h1.mono ?_
    rintro e V1 ⟨rfl, hb1⟩
    replace hb := hb.trans (hb1.mono hb.size)
    clear hW hb1 h1
    go_wp2
    go_ret
    exact ⟨rfl, hb⟩
def chkE (X : Pu) (o : Bool) : Int := if vB X = true then (if o = true then 0 else 1) else 130
set_option maxRecDepth 100000 in
set_option maxHeartbeats 3000000 in
theorem check_any (aT : Option Addr) (cT : Nat) (X : Pu) (o : Bool) (w : World) (hX : Ints w aT X.ts) : Calls Try.prog 51 #[.agg #[.int .i64 X.l, .int .i64 X.n, .int .i64 X.pi, .int .i64 X.sl, .int .i64 X.ga, .int .i64 X.pa, .int .i64 X.sp, .slice aT X.ts.length cT], .bool o] w fun e w' => e = .returned (.int .i64 (chkE X o)) ∧ Below w.heap.size w w' := by
  obtain ⟨W, hW, hb, _, x0⟩ := boxes1 w #[.int .i64 X.l, .int .i64 X.n, .int .i64 X.pi, .int .i64 X.sl, .int .i64 X.ga, .int .i64 X.pa, .int .i64 X.sp, .slice aT X.ts.length cT] 24
  have c0 := x0.cell 0 rfl; have c1 := x0.cell 1 rfl; have c2 := x0.cell 2 rfl; have c3 := x0.cell 3 rfl; have c4 := x0.cell 4 rfl; have c5 := x0.cell 5 rfl; have c6 := x0.cell 6 rfl; have c7 := x0.cell 7 rfl
  have h1 := valid_any aT cT X W (hX.below hb (Nat.le_refl _))
  unfold chkE
  generalize vB X = r at *
  generalize X.ts.length = n at *
  clear x0
  cases r <;> cases o
  all_goals
    go_enter Try.func51, Try.ntmps51
    go_wp2_with fail
    refine h1.mono ?_
    rintro e V1 ⟨rfl, hb1⟩
    replace hb := hb.trans (hb1.mono hb.size)
    clear hW hb1 h1
    go_wp2
    go_ret
    exact ⟨rfl, hb⟩
end Go.Proofs.Yteianfbdhakhpaa
