import Derived.Test.YtmkmnedojgigoaaA1
namespace Go.Proofs.Ytmkmnedojgigoaa
open Go.RowKit

def chk (r : Int) (N C : List Int) : Int := if validB r N C then 0 else 10

set_option maxHeartbeats 400000 in
theorem codeCheck_any (r : Int) (an ac : Option Addr) (cn cc : Nat) (N C : List Int) (w : World) (hN : Ints w an N) (hC : Ints w ac C) :
    Calls Try.prog 19 #[.agg #[.int .i64 r, .slice an N.length cn, .slice ac C.length cc]] w fun e w' => e = .returned (.int .i64 (chk r N C)) ∧ Below w.heap.size w w' := by
  replace hN := hN.alloc (.cells #[.int .i64 r, .slice an N.length cn, .slice ac C.length cc] 24)
  replace hC := hC.alloc (.cells #[.int .i64 r, .slice an N.length cn, .slice ac C.length cc] 24)
  cases h : validB r N C
  all_goals
    go_enter Try.func19, Try.ntmps19
    go_wp2_with (first | (go_at_call 57; refine (valid_any _ _ _ _ _ _ _ _ (by assumption) (by assumption)).mono ?_; rintro e w1 ⟨rfl, hb⟩))
    go_ret
    exact ⟨ret_int (by simp only [chk, h]; rfl), ((Below.refl _ _).alloc (Nat.le_refl _) _).trans (hb.mono (by simp))⟩

def risingB (lo hi : Int) : Option Int → List Int → Bool
  | _, [] => true
  | p, x :: xs => inR lo x hi && (match p with | none => true | some q => decide (q < x)) && risingB lo hi (some x) xs

set_option maxHeartbeats 1000000 in
theorem rising_any (a : Option Addr) (cap : Nat) (xs : List Int) (lo hi : Int) (w : World) (hI : Ints w a xs) :
    Calls Try.prog 59 #[.slice a xs.length cap, .int .i64 lo, .int .i64 hi] w fun e w' => e = .returned (.bool (risingB lo hi none xs)) ∧ Qd w w' := by
  have hm := hI.len
  go_enter Try.func59, Try.ntmps59
  go_wp2
  go_loopw [7] (fun i wr => ∃ (k : Nat), k ≤ xs.length ∧ i = .int .i64 k ∧ Qd w wr ∧ risingB lo hi none xs = risingB lo hi (if k = 0 then none else xs[k-1]?) (xs.drop k)) (fun i _ => xs.length - (intOf i).toNat)
  case atStart => exact ⟨0, Nat.zero_le _, rfl, Qd.refl w, rfl⟩
  case round =>
    obtain ⟨k, hk, rfl, hq, hn⟩ := hrel
    have Hn := hid hn; clear hn
    replace hI := hI.qd hq
    by_cases hlt : k < xs.length
    · obtain ⟨b, off, x, rfl, hbs, hc, _, _, hx, hd⟩ := hI.at hlt
      have hkI : (k : Int) < (xs.length : Int) := by omega
      have hk0 : (0 : Int) ≤ (k : Int) := by omega
      cases he : inR lo x hi
      · go_wp2
        go_quiet ((go_at_call 58; exact quiet_eq (within_any _ _ _ _)))
        go_wp2
        go_ret
        exact ⟨ret_bool (by rw [Hn.out, hd.out]; simp only [risingB, he, Bool.false_and]), hq.drewN _⟩
      · by_cases k0 : 0 < k
        · obtain ⟨b', off', y, hbb, _, hck, _, _, hy, _⟩ := hI.at (k := k - 1) (by omega)
          simp only [Option.some.injEq, Addr.mk.injEq] at hbb
          obtain ⟨rfl, rfl, _⟩ := hbb
          by_cases hyx : y < x
          · go_wp2
            go_quiet ((go_at_call 58; exact quiet_eq (within_any _ _ _ _)))
            go_wp2
            go_roundw
            case rel => exact ⟨k + 1, by omega, by go_num, hq.drewN _, by rw [Hn.out, if_neg (by omega), hy.out, hd.out, if_neg (by omega), show k + 1 - 1 = k from rfl, hx.out]; simp only [risingB, he, hyx, decide_true, Bool.true_and]⟩
            case measure => simp [intOf]; omega
          · go_wp2
            go_quiet ((go_at_call 58; exact quiet_eq (within_any _ _ _ _)))
            go_wp2
            go_ret
            exact ⟨ret_bool (by rw [Hn.out, if_neg (by omega), hy.out, hd.out]; simp only [risingB]; simp; intros; omega), hq.drewN _⟩
        · have hk1 : decide ((0 : Int) < (k : Int)) = false := by simp; omega
          go_wp2
          go_quiet ((go_at_call 58; exact quiet_eq (within_any _ _ _ _)))
          go_wp2
          go_roundw
          case rel => exact ⟨k + 1, by omega, by go_num, hq.drewN _, by rw [Hn.out, if_pos (by omega), hd.out, if_neg (by omega), show k + 1 - 1 = k from rfl, hx.out]; simp only [risingB, he, Bool.true_and]⟩
          case measure => simp [intOf]; omega
    · go_wp2
      go_ret
      exact ⟨ret_bool (by rw [Hn.out, drop_end hk hlt]; simp [risingB]), hq⟩

theorem rising_asc (hi : Int) : ∀ (xs : List Int) (q : Int), 0 ≤ q → risingB 1 hi (some q) xs = asc q hi xs
  | [], _, _ => rfl
  | x :: xs, q, h => by
    simp only [risingB, asc]
    by_cases hx : inR (q + 1) x hi = true
    · have h2 := inR_iff.1 hx
      rw [rising_asc hi xs x (by omega), hx, inR_iff.2 ⟨by omega, h2.2⟩]
      have : q < x := by omega
      simp [this]
    · rw [Bool.eq_false_iff.2 hx]
      have h2 := inR_f.1 (Bool.eq_false_iff.2 hx)
      by_cases h3 : inR 1 x hi = true
      · have := inR_iff.1 h3
        have : ¬ q < x := by omega
        simp [this]
      · simp [h3]

theorem rising_none (hi : Int) (xs : List Int) : risingB 1 hi none xs = asc 0 hi xs := by
  cases xs with
  | nil => rfl
  | cons x xs =>
    simp only [risingB, asc]
    by_cases hx : inR 1 x hi = true
    · rw [rising_asc hi xs x (by have := inR_iff.1 hx; omega)]; simp
    · simp [Bool.eq_false_iff.2 hx]

set_option maxHeartbeats 400000 in
theorem refCheck_any (r : Int) (an ac : Option Addr) (cn cc : Nat) (N C : List Int) (w : World) (hN : Ints w an N) (hC : Ints w ac C) :
    Calls Try.prog 20 #[.agg #[.int .i64 r, .slice an N.length cn, .slice ac C.length cc]] w fun e w' => e = .returned (.int .i64 (chk r N C)) ∧ Below w.heap.size w w' := by
  have hn := hN.len
  have hc := hC.len
  replace hN := hN.alloc (.cells #[.int .i64 r, .slice an N.length cn, .slice ac C.length cc] 24)
  replace hC := hC.alloc (.cells #[.int .i64 r, .slice an N.length cn, .slice ac C.length cc] 24)
  cases hlast : risingB 1 100 none C
  all_goals
    go_enter Try.func20, Try.ntmps20
    go_wp2_with (first | (go_at_call 58; refine (within_any _ _ _ _).mono ?_; rintro e w' ⟨rfl, rfl⟩) | (go_at_call 59; refine (rising_any _ _ _ _ _ _ (by first | assumption | exact hN.qd ⟨_, rfl⟩ | exact hC.qd ⟨_, rfl⟩)).mono ?_; rintro e w' ⟨rfl, ⟨_, rfl⟩⟩))
    all_goals (go_ret; refine ⟨ret_int (by simp only [chk, validB, ← rising_none]; first | (simp [*]; done) | (simp [*]; intros; omega)), ?_⟩)
    all_goals first | exact (Below.refl _ _).alloc (Nat.le_refl _) _ | exact below_drewN ((Below.refl _ _).alloc (Nat.le_refl _) _) _ | skip

set_option maxHeartbeats 400000 in
theorem sameInts_any (a b : Option Addr) (ca cb : Nat) (xs ys : List Int) (w : World) (hX : Ints w a xs) (hY : Ints w b ys) :
    Calls Try.prog 26 #[.slice a xs.length ca, .slice b ys.length cb] w fun e w' => e = .returned (.bool (decide (xs = ys))) ∧ Qd w w' := by
  have hm := hX.len
  have hm' := hY.len
  by_cases hl : xs.length = ys.length
  · have hlB : (((xs.length : Int)) != (ys.length : Int)) = false := by simp [hl]
    go_enter Try.func26, Try.ntmps26
    go_wp2
    go_loopw [5] (fun i wr => ∃ (k : Nat), k ≤ xs.length ∧ i = .int .i64 k ∧ Qd w wr ∧ xs.take k = ys.take k) (fun i _ => xs.length - (intOf i).toNat)
    case atStart => exact ⟨0, Nat.zero_le _, rfl, Qd.refl w, rfl⟩
    case round =>
      obtain ⟨k, hk, rfl, hq, hn⟩ := hrel
      have Hn := hid hn; clear hn
      replace hX := hX.qd hq
      replace hY := hY.qd hq
      by_cases hlt : k < xs.length
      · obtain ⟨b, off, x, rfl, hbs, hc, _, _, hx, hd⟩ := hX.at hlt
        obtain ⟨b', off', y, rfl, hbs', hc', _, _, hy, hd'⟩ := hY.at (k := k) (by omega)
        have hkI : (k : Int) < (xs.length : Int) := by omega
        have hkI' : (k : Int) < (ys.length : Int) := by omega
        have hk0 : (0 : Int) ≤ (k : Int) := by omega
        have Hl := hid hl; clear hl
        cases he : (x != y)
        · go_wp2
          go_quiet (fail)
          go_wp2
          go_roundw
          case rel => exact ⟨k + 1, by omega, by go_num, hq.drewN _, by rw [List.take_add_one, List.take_add_one, hx.out, hy.out, Hn.out, show x = y by simpa using he]⟩
          case measure => simp [intOf]; omega
        · go_wp2
          go_quiet (fail)
          go_wp2
          go_ret
          exact ⟨ret_bool (by rw [eq_comm, decide_eq_false_iff_not]; intro h; have h' := hx.out; rw [h, hy.out] at h'; simp at h'; simp [h'] at he), hq.drewN _⟩
      · go_wp2
        go_ret
        exact ⟨ret_bool (by rw [eq_comm, decide_eq_true_iff]; have h := Hn.out; rw [List.take_of_length_le (by omega), List.take_of_length_le (by omega)] at h; exact h), hq⟩
  · have hlB : (((xs.length : Int)) != (ys.length : Int)) = true := by simp; omega
    have Hl := hid hl; clear hl
    go_enter Try.func26, Try.ntmps26
    go_wp2
    go_ret
    exact ⟨ret_bool (by have := Hl.out; rw [eq_comm, decide_eq_false]; intro h; exact this (by rw [h])), Qd.refl w⟩

theorem eq_iff3 (r r' : Int) (N C N' C' : List Int) : (decide (r = r') && decide (N = N') && decide (C = C')) = true ↔ r = r' ∧ N = N' ∧ C = C' := by simp [and_assoc]

set_option maxHeartbeats 400000 in
theorem same_any (r : Int) (an ac : Option Addr) (cn cc : Nat) (N C : List Int) (r' : Int) (an' ac' : Option Addr) (cn' cc' : Nat) (N' C' : List Int) (w : World) (hN : Ints w an N) (hC : Ints w ac C) (hN' : Ints w an' N') (hC' : Ints w ac' C') :
    Calls Try.prog 25 #[.agg #[.int .i64 r, .slice an N.length cn, .slice ac C.length cc], .agg #[.int .i64 r', .slice an' N'.length cn', .slice ac' C'.length cc']] w fun e w' => e = .returned (.bool (decide (r = r') && decide (N = N') && decide (C = C'))) ∧ Below w.heap.size w w' := by
  replace hN := (hN.alloc (.cells #[.int .i64 r, .slice an N.length cn, .slice ac C.length cc] 24)).alloc (.cells #[.int .i64 r', .slice an' N'.length cn', .slice ac' C'.length cc'] 24)
  replace hC := (hC.alloc (.cells #[.int .i64 r, .slice an N.length cn, .slice ac C.length cc] 24)).alloc (.cells #[.int .i64 r', .slice an' N'.length cn', .slice ac' C'.length cc'] 24)
  replace hN' := (hN'.alloc (.cells #[.int .i64 r, .slice an N.length cn, .slice ac C.length cc] 24)).alloc (.cells #[.int .i64 r', .slice an' N'.length cn', .slice ac' C'.length cc'] 24)
  replace hC' := (hC'.alloc (.cells #[.int .i64 r, .slice an N.length cn, .slice ac C.length cc] 24)).alloc (.cells #[.int .i64 r', .slice an' N'.length cn', .slice ac' C'.length cc'] 24)
  by_cases e1 : r = r'
  · subst e1
    by_cases e2 : N = N'
    · subst e2
      go_enter Try.func25, Try.ntmps25
      go_wp2_with (first | (go_at_call 26; refine (sameInts_any _ _ _ _ _ _ _ (by first | assumption | exact hN.qd ⟨_, rfl⟩ | exact hC.qd ⟨_, rfl⟩) (by first | assumption | exact hN'.qd ⟨_, rfl⟩ | exact hC'.qd ⟨_, rfl⟩)).mono ?_; rintro e w' ⟨rfl, ⟨_, rfl⟩⟩))
      go_ret
      refine ⟨ret_bool (by simp [*]), ?_⟩
      first | exact ((Below.refl _ _).alloc (Nat.le_refl _) _).alloc (by simp) _ | exact below_drewN (((Below.refl _ _).alloc (Nat.le_refl _) _).alloc (by simp) _) _
    · have e2' : decide (N = N') = false := by simp [e2]
      go_enter Try.func25, Try.ntmps25
      go_wp2_with (first | (go_at_call 26; refine (sameInts_any _ _ _ _ _ _ _ (by first | assumption | exact hN.qd ⟨_, rfl⟩ | exact hC.qd ⟨_, rfl⟩) (by first | assumption | exact hN'.qd ⟨_, rfl⟩ | exact hC'.qd ⟨_, rfl⟩)).mono ?_; rintro e w' ⟨rfl, ⟨_, rfl⟩⟩))
      go_ret
      refine ⟨ret_bool (by simp [*]), ?_⟩
      first | exact ((Below.refl _ _).alloc (Nat.le_refl _) _).alloc (by simp) _ | exact below_drewN (((Below.refl _ _).alloc (Nat.le_refl _) _).alloc (by simp) _) _
  · have e1' : (r == r') = false := by simp [e1]
    go_enter Try.func25, Try.ntmps25
    go_wp2_with (first | (go_at_call 26; refine (sameInts_any _ _ _ _ _ _ _ (by first | assumption | exact hN.qd ⟨_, rfl⟩ | exact hC.qd ⟨_, rfl⟩) (by first | assumption | exact hN'.qd ⟨_, rfl⟩ | exact hC'.qd ⟨_, rfl⟩)).mono ?_; rintro e w' ⟨rfl, ⟨_, rfl⟩⟩))
    go_ret
    refine ⟨ret_bool (by simp [*]), ?_⟩
    first | exact ((Below.refl _ _).alloc (Nat.le_refl _) _).alloc (by simp) _ | exact below_drewN (((Below.refl _ _).alloc (Nat.le_refl _) _).alloc (by simp) _) _

end Go.Proofs.Ytmkmnedojgigoaa
