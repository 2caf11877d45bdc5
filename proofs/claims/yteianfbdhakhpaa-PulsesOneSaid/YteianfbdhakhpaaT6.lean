import Derived.Test.YteianfbdhakhpaaT5
/-! Times without some pulses. -/
namespace Go.Proofs.Yteianfbdhakhpaa
set_option linter.unusedSimpArgs false
set_option linter.unusedVariables false
open Go Go.RowKit

/-- A row of numbers of the call's own. -/
theorem own_nw {w : World} {base : Nat} {a : Option Addr} {n c : Nat} {xs : List Int} (h : w.ownsRow base 3 1 (.slice a n c) n (xs.map (Value.int .i64))) (hn : n = xs.length) (h1 : xs.length ≤ 9223372036854775807) (h2 : ∀ x ∈ xs, -9223372036854775808 ≤ x ∧ x ≤ 9223372036854775807) :
    Iz base w a xs ∧ xs.length ≤ c ∧ c ≤ 9223372036854775807 := by
  subst hn
  obtain ⟨a2, c2, e, hI⟩ := Ints.of_own h h1 h2
  simp only [Value.slice.injEq, true_and] at e
  obtain ⟨rfl, rfl⟩ := e
  rcases h.2 with ⟨e, h0⟩ | ⟨g, cap, cur, e, hb, hg, hc1, hc2, _⟩
  · simp only [Value.slice.injEq] at e
    obtain ⟨rfl, e0, rfl⟩ := e
    exact ⟨⟨hI, (fun _ e => nomatch e), (fun _ e => nomatch e)⟩, by omega, by omega⟩
  · simp only [Value.slice.injEq, true_and] at e
    obtain ⟨rfl, rfl⟩ := e
    unfold maxLen at hc2
    exact ⟨⟨hI, (fun ad e => by cases e; exact ⟨cur, (0, 0), hg⟩), (fun ad e => by cases e; exact hb)⟩, hc1, by omega⟩
theorem woA_take {sp : List Int} {ts P : List Int} {k : Nat} {x : Int} (h : woL ts sp = P ++ woA sp k (ts.drop k)) (hd : ts.drop k = x :: ts.drop (k + 1)) :
    woL ts sp = (if inL (k : Int) sp = true then P else P ++ [x]) ++ woA sp (k + 1) (ts.drop (k + 1)) := by
  rw [h, hd, woA]
  split <;> simp

set_option maxRecDepth 100000 in
set_option maxHeartbeats 4000000 in
theorem without_any (at' ap : Option Addr) (ct cp : Nat) (ts sp : List Int) (w : World) (hT : Ints w at' ts) (hP : Ints w ap sp) (h24 : ts.length ≤ 24) : Calls Try.prog 84 #[.slice at' ts.length ct, .slice ap sp.length cp] w fun e w' => Below w.heap.size w w' ∧ ∃ (a : Option Addr) (c : Nat), e = .returned (.slice a (woL ts sp).length c) ∧ Iz w.heap.size w' a (woL ts sp) ∧ (woL ts sp).length ≤ c ∧ c ≤ 9223372036854775807 := by
  obtain ⟨j0, hj0, jz0, jz1, jz2⟩ := info_parts info3i
  have hlp := hP.len
  have HRG := hid (show ∀ x ∈ woL ts sp, -9223372036854775808 ≤ x ∧ x ≤ 9223372036854775807 from fun x hx => hT.2.1 x (woA_mem sp ts 0 x hx))
  have HTK := hid (show ∀ (P : List Int) (k : Nat) (x : Int), woL ts sp = P ++ woA sp k (ts.drop k) → ts.drop k = x :: ts.drop (k + 1) → woL ts sp = (if inL (k : Int) sp = true then P else P ++ [x]) ++ woA sp (k + 1) (ts.drop (k + 1)) from fun P k x h hd => woA_take h hd)
  have HL := hid (show (woL ts sp).length ≤ ts.length from woA_len sp ts 0)
  have H0 := hid (show woL ts sp = [] ++ woA sp 0 (ts.drop 0) from rfl)
  have hcn := fun x V h => contains_any ap cp sp x V h
  obtain ⟨R, hR⟩ : ∃ R, R = woL ts sp := ⟨_, rfl⟩
  rw [← hR] at HRG HL H0 ⊢
  simp only [← hR] at HTK
  obtain ⟨n, hn⟩ : ∃ n, n = ts.length := ⟨_, rfl⟩
  rw [← hn] at h24 HL ⊢
  have HN := hid hn
  obtain ⟨m, hm⟩ : ∃ m, m = sp.length := ⟨_, rfl⟩
  rw [← hm] at hlp hcn ⊢
  clear hn hm hR
  have hnI : (n : Int) ≤ 24 := by omega
  go_enter Try.func84, Try.ntmps84
  go_wp2
  go_loopw [5, 6, 7, 10] (fun v5 v6 v7 v10 wr => ∃ (k p : Nat) (a : Option Addr) (c : Nat) (P : List Int), k ≤ n ∧ v10 = .int .i64 (k : Int) ∧ v5 = .slice a p c ∧ p ≤ k ∧ Hid (p = P.length ∧ R = P ++ woA sp k (ts.drop k)) ∧ wr.ownsRow w.heap.size 3 1 (.slice a p c) p (P.map (Value.int .i64)) ∧ Below w.heap.size w wr) (fun _ _ _ v10 _ => n - (intOf v10).toNat)
  case atStart => exact ⟨0, 0, none, 0, [], Nat.zero_le _, rfl, rfl, Nat.le_refl _, hid ⟨rfl, H0.out⟩, World.ownsRow_nil _ _ _ _, Below.refl _ _⟩
  case round =>
    obtain ⟨k, p, a, c, P, hk, rfl, rfl, hpk, HP, hown, hb⟩ := hrel
    by_cases hlt : k < n
    · obtain ⟨b1, o1, x, rfl, hbx, hcx, hx1, hx2, hgx, hdx⟩ := (hT.below hb (Nat.le_refl _)).at (k := k) (by rw [← HN.out]; exact hlt)
      have hkI : (k : Int) < n := by omega
      have hk0 : (0 : Int) ≤ (k : Int) := by omega
      have hst := HTK.out P k x HP.out.2 hdx.out
      have hc := hcn (k : Int) wr (hP.below hb (Nat.le_refl _))
      cases hin : inL (k : Int) sp with
      | true =>
        rw [hin] at hst hc
        have HS := hid (show p = P.length ∧ R = P ++ woA sp (k + 1) (ts.drop (k + 1)) from ⟨HP.out.1, by rw [hst]; rfl⟩)
        clear hst hin hgx hdx HP
        go_wp2_with fail
        refine hc.mono ?_
        rintro e V1 ⟨rfl, rfl⟩
        go_wp2
        go_roundw
        case rel => exact ⟨k + 1, p, a, c, P, by omega, by go_num, rfl, by omega, HS, hown, hb⟩
        case measure => simp [intOf]; omega
      | false =>
        rw [hin] at hst hc
        have HS := hid (show p + 1 = (P ++ [x]).length ∧ R = (P ++ [x]) ++ woA sp (k + 1) (ts.drop (k + 1)) from ⟨by rw [HP.out.1]; simp, by rw [hst]; rfl⟩)
        clear hst hin hgx hdx HP
        have hw0 := hb.size
        go_wp2_with (first
          | (refine hc.mono ?_; clear hc; rintro e V1 ⟨rfl, rfl⟩)
          | (at_builtin; go_loud (refine wpList_append_own _ rfl _ _ 22 rfl w.heap.size 3 j0 (.int .i64 0) 1 8 under22 hj0 jz0 jz1 jz2 rfl (by decide) (.slice a p c) p _ rfl (hown.alloc _) ⟨wr.heap.size, 0, none⟩ 1 1 [.int .i64 x] rfl rfl (cell_one_new _ _ _) (ints_oneCell .i64 [x]) (by unfold maxLen; omega) (by omega) (by simp; omega) ?_); intro v2 W2 hrow2 hg2 _))
        obtain ⟨a3, c3, rfl⟩ := own_slice2 hrow2
        have hbl2 : Below w.heap.size w W2 := (hb.trans ((below_one (w := wr) (.cells #[.int .i64 x] 3)).mono hb.size)).grown hg2 (by simp; omega) (own_ge hown)
        have hrow3 : W2.ownsRow w.heap.size 3 1 (.slice a3 (p + 1) c3) (p + 1) ((P ++ [x]).map (Value.int .i64)) := by simpa using hrow2
        clear hown hg2 hrow2 hb hcx
        go_wp2
        go_roundw
        case rel => exact ⟨k + 1, p + 1, a3, c3, P ++ [x], by omega, by go_num, rfl, by omega, HS, hrow3, hbl2⟩
        case measure => simp [intOf]; omega
    · have hkn : k = n := by omega
      have hR : R = P := by
        have := HP.out.2
        rw [List.drop_eq_nil_iff.2 (show ts.length ≤ k by rw [hkn, HN.out]; exact Nat.le_refl _)] at this
        rw [this]; simp [woA]
      have hpl := HP.out.1
      rw [← hR] at hpl hown
      have hz := own_nw hown hpl (by have := HL.out; omega) HRG.out
      have HZ := hid hz
      have HPL := hid hpl
      clear hkn hR hpl hz HP hown
      go_wp2
      go_ret
      exact ⟨hb, a, c, by rw [HPL.out]; rfl, HZ.out⟩
end Go.Proofs.Yteianfbdhakhpaa
