import Derived.Test.YtmkmnedojgigoaaProg
import Derived.Test.YtmkmnedojgigoaaB2
namespace Go.Proofs.Ytmkmnedojgigoaa
open Go.RowKit

def inR (lo n hi : Int) : Bool := decide (lo ≤ n) && decide (n ≤ hi)

set_option maxHeartbeats 400000 in
theorem within_any (n lo hi : Int) (w : World) :
    Calls Try.prog 58 #[.int .i64 n, .int .i64 lo, .int .i64 hi] w fun e w' => e = .returned (.bool (inR lo n hi)) ∧ w = w' := by
  unfold inR
  by_cases h1 : lo ≤ n
  · go_enter Try.func58, Try.ntmps58
    go_wp2
    go_ret
    exact ⟨by simp [h1], rfl⟩
  · go_enter Try.func58, Try.ntmps58
    go_wp2
    go_ret
    exact ⟨by simp; omega, rfl⟩

set_option maxHeartbeats 400000 in
theorem isFrom_any (lo n hi : Int) (w : World) :
    Calls Try.prog 82 #[.int .i64 lo, .int .i64 n, .int .i64 hi] w fun e w' => e = .returned (.bool (inR lo n hi)) ∧ w = w' := by
  unfold inR
  by_cases h1 : lo ≤ n
  · go_enter Try.func82, Try.ntmps82
    go_wp2
    go_ret
    exact ⟨by simp [h1], rfl⟩
  · go_enter Try.func82, Try.ntmps82
    go_wp2
    go_ret
    exact ⟨by simp; omega, rfl⟩

def inB (xs : List Int) (n : Int) : Bool := xs.any (· == n)

set_option maxHeartbeats 400000 in
theorem in_any (a : Option Addr) (cap : Nat) (xs : List Int) (n : Int) (w : World) (hI : Ints w a xs) :
    Calls Try.prog 52 #[.slice a xs.length cap, .int .i64 n] w fun e w' => e = .returned (.bool (inB xs n)) ∧ w = w' := by
  have hm := hI.len
  go_enter Try.func52, Try.ntmps52
  go_wp2
  go_loop [5] (fun i => ∃ k : Nat, k ≤ xs.length ∧ i = .int .i64 k ∧ inB xs n = inB (xs.drop k) n) (fun i => xs.length - (intOf i).toNat)
  case atStart => exact ⟨0, Nat.zero_le _, rfl, rfl⟩
  case round =>
    obtain ⟨k, hk, rfl, hn⟩ := hrel
    have Hn := hid hn; clear hn
    by_cases hlt : k < xs.length
    · obtain ⟨b, off, x, rfl, hbs, hc, _, _, _, hd⟩ := hI.at hlt
      cases he : (x == n)
      · go_wp2
        go_round
        case rel => exact ⟨k + 1, by omega, by go_num, by rw [Hn.out, hd.out]; simp only [inB, List.any_cons, he, Bool.false_or]⟩
        case measure => simp [intOf]; omega
      · go_wp2
        go_ret
        exact ⟨ret_bool (by rw [Hn.out, hd.out]; simp only [inB, List.any_cons, he, Bool.true_or]), rfl⟩
    · go_wp2
      go_ret
      exact ⟨ret_bool (by rw [Hn.out, drop_end hk hlt]; rfl), rfl⟩

def farB (N C : List Int) : Bool := decide (40 < (N.length : Int)) || decide (40 < (C.length : Int))

set_option maxHeartbeats 400000 in
theorem far_any (r : Int) (an ac : Option Addr) (cn cc : Nat) (N C : List Int) (w : World) (hN : Ints w an N) (hC : Ints w ac C) :
    Calls Try.prog 16 #[.agg #[.int .i64 r, .slice an N.length cn, .slice ac C.length cc]] w fun e w' => e = .returned (.bool (farB N C)) ∧ Below w.heap.size w w' := by
  have hn := hN.len
  have hc := hC.len
  clear hN hC
  by_cases h : 40 < (N.length : Int)
  · have e : Hid (farB N C = true) := hid (by simp only [farB, h, decide_true, Bool.true_or])
    go_enter Try.func16, Try.ntmps16
    go_wp2
    go_ret
    exact ⟨ret_bool e.out.symm, (Below.refl _ _).alloc (Nat.le_refl _) _⟩
  · have e : Hid (farB N C = decide (40 < (C.length : Int))) := hid (by simp only [farB, h, decide_false, Bool.false_or])
    go_enter Try.func16, Try.ntmps16
    go_wp2
    go_ret
    exact ⟨ret_bool e.out.symm, (Below.refl _ _).alloc (Nat.le_refl _) _⟩

/-- Strictly rising, each from lo to hi. -/
def asc (b hi : Int) : List Int → Bool
  | [] => true
  | x :: xs => inR (b + 1) x hi && asc x hi xs

theorem ascend_any (a : Option Addr) (cap : Nat) (xs : List Int) (hi : Int) (w : World) (hI : Ints w a xs) (hh : hi ≤ 9223372036854775806) :
    Calls Try.prog 94 #[.slice a xs.length cap, .int .i64 hi] w fun e w' => e = .returned (.bool (asc 0 hi xs)) ∧ w = w' := by
  have hm := hI.len
  go_enter Try.func94, Try.ntmps94
  go_wp2
  go_loop [5, 10] (fun b i => ∃ (k : Nat) (q : Int), k ≤ xs.length ∧ i = .int .i64 k ∧ b = .int .i64 q ∧ 0 ≤ q ∧ q ≤ 9223372036854775806 ∧ asc 0 hi xs = asc q hi (xs.drop k)) (fun _ i => xs.length - (intOf i).toNat)
  case atStart => exact ⟨0, 0, Nat.zero_le _, rfl, rfl, by omega, by omega, rfl⟩
  case round =>
    obtain ⟨k, q, hk, rfl, rfl, hq0, hq1, hn⟩ := hrel
    have Hn := hid hn; clear hn
    by_cases hlt : k < xs.length
    · obtain ⟨b, off, x, rfl, hbs, hc, _, _, _, hd⟩ := hI.at hlt
      cases he : inR (q + 1) x hi
      · go_wp2_with (go_at_call 82; refine (isFrom_any _ _ _ _).mono ?_; rintro e w' ⟨rfl, rfl⟩)
        go_ret
        exact ⟨ret_bool (by rw [Hn.out, hd.out]; simp only [asc, he, Bool.false_and]), rfl⟩
      · go_wp2_with (go_at_call 82; refine (isFrom_any _ _ _ _).mono ?_; rintro e w' ⟨rfl, rfl⟩)
        have hx : q + 1 ≤ x ∧ x ≤ hi := by simpa [inR] using he
        go_round
        case rel => exact ⟨k + 1, x, by omega, by go_num, rfl, by omega, by omega, by rw [Hn.out, hd.out]; simp only [asc, he, Bool.true_and]⟩
        case measure => simp [intOf]; omega
    · go_wp2
      go_ret
      exact ⟨ret_bool (by rw [Hn.out, drop_end hk hlt]; rfl), rfl⟩

def validB (r : Int) (N C : List Int) : Bool := inR 1 r 200 && decide ((N.length : Int) ≤ 12) && asc 0 r N && decide ((C.length : Int) ≤ 4) && asc 0 100 C

theorem inR_iff {lo n hi : Int} : inR lo n hi = true ↔ lo ≤ n ∧ n ≤ hi := by simp [inR]
theorem inR_f {lo n hi : Int} : inR lo n hi = false ↔ ¬ (lo ≤ n ∧ n ≤ hi) := by rw [← inR_iff]; simp

set_option maxHeartbeats 400000 in
theorem valid_any (r : Int) (an ac : Option Addr) (cn cc : Nat) (N C : List Int) (w : World) (hN : Ints w an N) (hC : Ints w ac C) :
    Calls Try.prog 57 #[.agg #[.int .i64 r, .slice an N.length cn, .slice ac C.length cc]] w fun e w' => e = .returned (.bool (validB r N C)) ∧ Below w.heap.size w w' := by
  have hn := hN.len
  have hc := hC.len
  replace hN := hN.alloc (.cells #[.int .i64 r, .slice an N.length cn, .slice ac C.length cc] 24)
  replace hC := hC.alloc (.cells #[.int .i64 r, .slice an N.length cn, .slice ac C.length cc] 24)
  cases h : inR 1 r 200
  · go_enter Try.func57, Try.ntmps57
    go_wp2_with (first | (go_at_call 82; refine (isFrom_any _ _ _ _).mono ?_; rintro e w' ⟨rfl, rfl⟩))
    go_ret
    exact ⟨ret_bool (by simp only [validB, h, Bool.false_and]), (Below.refl _ _).alloc (Nat.le_refl _) _⟩
  · have hr := inR_iff.1 h
    go_enter Try.func57, Try.ntmps57
    go_wp2_with (first | (go_at_call 82; refine (isFrom_any _ _ _ _).mono ?_; rintro e w' ⟨rfl, rfl⟩) | (go_at_call 94; refine (ascend_any _ _ _ _ _ (by assumption) (by omega)).mono ?_; rintro e w' ⟨rfl, rfl⟩))
    all_goals (go_ret; refine ⟨ret_bool (by simp only [validB, h]; first | (simp [*]; done) | (simp [*]; intros; omega)), (Below.refl _ _).alloc (Nat.le_refl _) _⟩)

end Go.Proofs.Ytmkmnedojgigoaa
