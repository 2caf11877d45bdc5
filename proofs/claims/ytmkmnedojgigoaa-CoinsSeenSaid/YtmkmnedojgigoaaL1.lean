import Derived.Test.YtmkmnedojgigoaaK3
import Derived.Test.YtmkmnedojgigoaaP8
namespace Go.Proofs.Ytmkmnedojgigoaa
open Go.RowKit

set_option maxRecDepth 100000 in
set_option maxHeartbeats 1000000 in
theorem put_any (R : Nat) (an ac : Option Addr) (cn cc : Nat) (N C : List Int) (p c : Nat) (w : World) (hN : Ints w an N) (hv : Vw R N C) (hp : p < R) (hc : c ≤ 2000) :
    Calls Try.prog 72 #[.agg #[.int .i64 (R : Int), .slice an N.length cn, .slice ac C.length cc], .int .i64 p, .int .i64 c] w fun e w' => e = .returned (.tuple #[.int .i64 ((p + c) % R : Nat), .int .i64 (gv R N p c : Nat)]) ∧ Below w.heap.size w w' := by
  have r2 := hv.r2
  have r1 := hv.r1
  obtain ⟨W, hW, hb, hs, x0⟩ := boxes1 w #[.int .i64 (R : Int), .slice an N.length cn, .slice ac C.length cc] 24
  clear hs
  replace hN := hN.below hb (Nat.le_refl _)
  go_enter Try.func72, Try.ntmps72
  go_wp2
  clear hW
  go_loop [1, 7, 8] (fun s1 s7 s8 => ∃ (i q : Nat), i ≤ c ∧ s8 = .int .i64 i ∧ s1 = .int .i64 q ∧ q < R ∧ q = (p + i) % R ∧ s7 = .int .i64 (gv R N p i : Nat)) (fun _ _ s8 => c - (intOf s8).toNat)
  case atStart => exact ⟨0, p, Nat.zero_le _, rfl, rfl, hp, by rw [Nat.add_zero, Nat.mod_eq_of_lt hp], by simp [gv]⟩
  case round =>
    obtain ⟨i, q, hi, rfl, rfl, hq, hqe, rfl⟩ := hrel
    have hgl := gv_le hv p i
    have h1 := gv_one hv p i
    have h2 := mod_one (R := R) (q := p + i) r1
    rw [← hqe] at h1 h2
    rw [Nat.add_assoc] at h2
    obtain ⟨G, hG⟩ : ∃ G, G = gv R N p i := ⟨_, rfl⟩
    obtain ⟨G', hG'⟩ : ∃ G, G = gv R N p (i + 1) := ⟨_, rfl⟩
    rw [← hG, ← hG'] at h1
    rw [← hG] at hgl ⊢
    have HG' := hid hG'; have Hq := hid hqe; have H2 := hid h2; have H1 := hid h1; have HG := hid hG
    clear hG hG' hqe h2 h1
    have c0 := x0.cell 0 rfl; have c1 := x0.cell 1 rfl; have c2 := x0.cell 2 rfl
    by_cases hlt : i < c
    · cases hin : inB N ((q : Int) + 1)
      all_goals
        by_cases hR : (q : Int) + 1 = (R : Int)
        · have hRB : ((q : Int) + 1 == (R : Int)) = true := by simp [hR]
          have HR := hid hR; clear hR
          go_wp2_with (go_at_call 52; refine (in_any _ _ _ _ _ hN).mono ?_; rintro e w' ⟨rfl, rfl⟩)
          go_round
          case rel => exact ⟨i + 1, 0, by omega, by go_num, rfl, by omega, by rw [H2.out, if_pos (by have := HR.out; omega)], by rw [← HG'.out, H1.out, hin]; simp⟩
          case measure => simp [intOf]; omega
        · have hRB : ((q : Int) + 1 == (R : Int)) = false := by simp [hR]
          have HR := hid hR; clear hR
          go_wp2_with (go_at_call 52; refine (in_any _ _ _ _ _ hN).mono ?_; rintro e w' ⟨rfl, rfl⟩)
          go_round
          case rel => exact ⟨i + 1, q + 1, by omega, by go_num, by go_num, by have := HR.out; omega, by rw [H2.out, if_neg (by have := HR.out; omega)], by rw [← HG'.out, H1.out, hin]; simp⟩
          case measure => simp [intOf]; omega
    · have he : i = c := by omega
      go_wp2
      go_ret2
      exact ⟨by rw [Hq.out, HG.out, he]; rfl, hb⟩
end Go.Proofs.Ytmkmnedojgigoaa
