import Derived.Test.YtipdohpbilabiaaV1
/-! Whether a visit is valid; whether lists are a plan of it. -/
namespace Go.Proofs.Ytipdohpbilabiaa
set_option linter.unusedSimpArgs false
set_option linter.unusedVariables false
open Go Go.RowKit

theorem Lss.at {w : World} {a : Option Addr} {LL : List (List Int)} (h : Lss w a LL) {k : Nat} (hk : k < LL.length) : ∃ (b off : Nat) (a' : Option Addr) (c : Nat), a = some ⟨b, off, none⟩ ∧ b < w.heap.size ∧ w.cell? ⟨b, off + k, none⟩ = some (.slice a' (LL.getD k []).length c) ∧ Ints w a' (LL.getD k []) :=
  h.2 k _ (by rw [List.getD_eq_getElem?_getD, List.getElem?_eq_getElem hk]; rfl)

set_option maxRecDepth 100000 in
set_option maxHeartbeats 2000000 in
theorem index_any (a : Option Addr) (c : Nat) (l : List Int) (x : Int) (w : World) (hI : Ints w a l) : Calls Try.prog 89 #[.slice a l.length c, .int .i64 x] w fun e w' => (∃ r : Int, e = .returned (.int .i64 r) ∧ -1 ≤ r ∧ r ≤ 9223372036854775807 ∧ decide (0 ≤ r) = inL x l) ∧ w = w' := by
  have hlen := hI.len
  obtain ⟨n, hn⟩ : ∃ n, n = l.length := ⟨_, rfl⟩
  rw [← hn] at hlen ⊢
  have HN := hid hn
  clear hn
  go_enter Try.func89, Try.ntmps89
  go_wp2
  go_loopw [5, 8] (fun v5 v8 wr => ∃ k : Nat, k ≤ n ∧ v8 = .int .i64 (k : Int) ∧ Hid ((l.take k).any (fun y => x == y) = false) ∧ wr = w) (fun _ v8 _ => n - (intOf v8).toNat)
  case atStart => exact ⟨0, Nat.zero_le _, rfl, hid rfl, rfl⟩
  case round =>
    obtain ⟨k, hk, rfl, HA, rfl⟩ := hrel
    by_cases hlt : k < n
    · obtain ⟨b, off, y, rfl, hbl, hc, hx1, hx2, hg, _⟩ := hI.at (k := k) (by rw [← HN.out]; exact hlt)
      have hkI : (k : Int) < n := by omega
      have hk0 : (0 : Int) ≤ (k : Int) := by omega
      by_cases he : x = y
      · have hEQ : (x == y) = true := by simp [he]
        have HR := hid (show inL x l = true by unfold inL; rw [List.any_eq_true]; exact ⟨y, List.mem_of_getElem? hg.out, hEQ⟩)
        clear he hg
        go_wp2
        go_ret
        exact ⟨⟨(k : Int), rfl, by omega, by omega, by rw [HR.out]; exact decide_eq_true hk0⟩, rfl⟩
      · have hEQ : (x == y) = false := by simp [he]
        have HR := hid (show (l.take (k + 1)).any (fun y => x == y) = false by rw [List.take_add_one, hg.out, List.any_append, HA.out]; simp [he])
        clear he hg
        go_wp2
        go_roundw
        case rel => exact ⟨k + 1, by omega, by simp, HR, trivial⟩
        case measure => simp [intOf]; omega
    · obtain rfl : k = n := by omega
      have hA := HA.out
      rw [List.take_of_length_le (by rw [← HN.out]; omega)] at hA
      have HA2 := hid hA
      clear hA
      go_wp2
      go_ret
      exact ⟨⟨-1, rfl, by omega, by omega, by unfold inL; rw [HA2.out]; rfl⟩, rfl⟩

set_option maxRecDepth 100000 in
set_option maxHeartbeats 1000000 in
theorem contains_any (a : Option Addr) (c : Nat) (l : List Int) (x : Int) (w : World) (hI : Ints w a l) : Calls Try.prog 76 #[.slice a l.length c, .int .i64 x] w fun e w' => e = .returned (.bool (inL x l)) ∧ w = w' := by
  have hi := index_any a c l x w hI
  obtain ⟨n, hn⟩ : ∃ n, n = l.length := ⟨_, rfl⟩
  rw [← hn] at hi ⊢
  clear hn
  go_enter Try.func76, Try.ntmps76
  go_wp2_with fail
  refine hi.mono ?_
  rintro e W1 ⟨⟨r, rfl, h1, h2, h3⟩, rfl⟩
  have HR := hid h3
  clear h3
  go_wp2
  go_ret
  exact ⟨ret_bool HR.out, rfl⟩

set_option maxRecDepth 100000 in
set_option maxHeartbeats 3000000 in
theorem hasEarnings_any (ab ast ae ak : Option Addr) (cb cs ce ck : Nat) (X : Sw) (w : World) (hX : Swp w ab ast ae ak X) : Calls Try.prog 78 #[.agg #[.slice ab X.bs.length cb, .slice ast X.st.length cs, .slice ae X.er.length ce, .slice ak X.ks.length ck, .int .i64 X.ch]] w fun e w' => e = .returned (.bool (eaB X)) ∧ Below w.heap.size w w' := by
  obtain ⟨W, hW, hb, _, x0⟩ := boxes1 w #[.slice ab X.bs.length cb, .slice ast X.st.length cs, .slice ae X.er.length ce, .slice ak X.ks.length ck, .int .i64 X.ch] 26
  have hE := hX.2.2.1.below hb (Nat.le_refl _)
  have hl1 := hX.2.1.len; have hl2 := hX.1.1; have hl3 := hX.2.2.1.1
  clear hX
  obtain ⟨ne, hne⟩ : ∃ n, n = X.er.length := ⟨_, rfl⟩
  obtain ⟨ns, hns⟩ : ∃ n, n = X.st.length := ⟨_, rfl⟩
  obtain ⟨nb, hnb⟩ : ∃ n, n = X.bs.length := ⟨_, rfl⟩
  have hea : eaB X = (decide (ne = ns) && (List.range ne).all (eaI X)) := by unfold eaB; rw [hne, hns]
  have hei : ∀ i, eaI X i = (decide ((X.er.getD i []).length = nb) && upB 999 (X.er.getD i [])) := fun i => by unfold eaI; rw [hnb]
  rw [hea]
  rw [← hne] at x0 hW hl3
  rw [← hns] at x0 hW hl1
  rw [← hnb] at x0 hW hl2
  rw [← hne, ← hns, ← hnb]
  have HNE := hid hne
  clear hea hne hns hnb
  have c0 := x0.cell 0 rfl; have c1 := x0.cell 1 rfl; have c2 := x0.cell 2 rfl; have c3 := x0.cell 3 rfl; have c4 := x0.cell 4 rfl
  by_cases h : ne = ns
  · have hB : ((ne : Int) != (ns : Int)) = false := by simp; omega
    rw [decide_eq_true h, Bool.true_and]
    clear h
    go_enter Try.func78, Try.ntmps78
    go_wp2
    clear hW c0 c1 c2 c3 c4
    go_loopw [4, 15] (fun v4 v15 wr => ∃ k : Nat, k ≤ ne ∧ v15 = .int .i64 (k : Int) ∧ Hid ((List.range k).all (eaI X) = true) ∧ wr = W) (fun _ v15 _ => ne - (intOf v15).toNat)
    case atStart => exact ⟨0, Nat.zero_le _, rfl, hid rfl, rfl⟩
    case round =>
      obtain ⟨k, hk, rfl, HA, rfl⟩ := hrel
      by_cases hlt : k < ne
      · obtain ⟨b, off, a', c', rfl, hbl, hc, hi⟩ := hE.at (k := k) (by rw [← HNE.out]; exact hlt)
        have hkI : (k : Int) < ne := by omega
        have hk0 : (0 : Int) ≤ (k : Int) := by omega
        have hui := hei k
        have hup := areUpTo_any 999 a' c' _ wr hi
        have hln := hi.len
        obtain ⟨L, hL⟩ : ∃ L, L = X.er.getD k [] := ⟨_, rfl⟩
        rw [← hL] at hui hup hc hln
        obtain ⟨m, hm⟩ : ∃ m, m = L.length := ⟨_, rfl⟩
        rw [← hm] at hui hup hc hln
        have c0 := x0.cell 0 rfl
        by_cases hmn : m = nb
        · have hB2 : ((m : Int) != (nb : Int)) = false := by simp; omega
          rw [decide_eq_true hmn, Bool.true_and] at hui
          clear hm hL hi hmn hei
          cases hr : upB 999 L
          · rw [hr] at hui hup
            have HR := hid (all_range_no (eaI X) hlt hui)
            clear hui hr
            go_wp2_with fail
            refine hup.mono ?_
            rintro e W1 ⟨rfl, rfl⟩
            go_wp2
            go_ret
            exact ⟨ret_bool (by rw [HR.out]), hb⟩
          · rw [hr] at hui hup
            have HR := hid (show (List.range (k + 1)).all (eaI X) = true by rw [all_range_succ, HA.out, hui]; rfl)
            clear hui hr
            go_wp2_with fail
            refine hup.mono ?_
            rintro e W1 ⟨rfl, rfl⟩
            go_wp2
            go_roundw
            case rel => exact ⟨k + 1, by omega, by simp, HR, trivial⟩
            case measure => simp [intOf]; omega
        · have hB2 : ((m : Int) != (nb : Int)) = true := by simp; omega
          rw [decide_eq_false hmn, Bool.false_and] at hui
          have HR := hid (all_range_no (eaI X) hlt hui)
          clear hm hL hi hmn hei hui hup
          go_wp2
          go_ret
          exact ⟨ret_bool (by rw [HR.out]), hb⟩
      · obtain rfl : k = ne := by omega
        have hA := HA.out
        go_wp2
        go_ret
        exact ⟨ret_bool (by rw [hA]), hb⟩
  · have hB : ((ne : Int) != (ns : Int)) = true := by simp; omega
    rw [decide_eq_false h, Bool.false_and]
    clear h
    go_enter Try.func78, Try.ntmps78
    go_wp2
    go_ret
    exact ⟨rfl, hb⟩
end Go.Proofs.Ytipdohpbilabiaa
