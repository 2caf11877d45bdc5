import Derived.Test.YtmkmnedojgigoaaK1
namespace Go.Proofs.Ytmkmnedojgigoaa
open Go.RowKit

def kindsB (C : List Int) (lo : Int) (xs : List Int) : Bool := xs.all (fun x => inR lo x (C.length - 1)) && decide ((xs.length : Int) ≤ 20)

set_option maxRecDepth 100000 in
set_option maxHeartbeats 1000000 in
theorem areKinds_any (r : Int) (an ac : Option Addr) (cn cc : Nat) (N C : List Int) (a : Option Addr) (ca : Nat) (xs : List Int) (lo : Int) (w : World) (hC : Ints w ac C) (hX : Ints w a xs) :
    Calls Try.prog 45 #[.agg #[.int .i64 r, .slice an N.length cn, .slice ac C.length cc], .slice a xs.length ca, .int .i64 lo] w fun e w' => e = .returned (.bool (kindsB C lo xs)) ∧ Below w.heap.size w w' := by
  have hm := hX.len
  have hcl := hC.len
  clear hC
  obtain ⟨W, hW, hb, hs, x0⟩ := boxes1 w #[.int .i64 r, .slice an N.length cn, .slice ac C.length cc] 24
  clear hs
  replace hX := hX.below hb (Nat.le_refl _)
  have c0 := x0.cell 0 rfl; have c1 := x0.cell 1 rfl; have c2 := x0.cell 2 rfl
  go_enter Try.func45, Try.ntmps45
  go_wp2
  clear hW c0 c1 c2
  go_loopw [7] (fun i wr => ∃ (k : Nat), k ≤ xs.length ∧ i = .int .i64 k ∧ Qd W wr ∧ xs.all (fun x => inR lo x (C.length - 1)) = (xs.drop k).all (fun x => inR lo x (C.length - 1))) (fun i _ => xs.length - (intOf i).toNat)
  case atStart => exact ⟨0, Nat.zero_le _, rfl, Qd.refl _, rfl⟩
  case round =>
    obtain ⟨k, hk, rfl, hq, hn⟩ := hrel
    have Hn := hid hn; clear hn
    replace hX := hX.qd hq
    have x1 := x0.below (hq.below _)
    have c0 := x1.cell 0 rfl; have c1 := x1.cell 1 rfl; have c2 := x1.cell 2 rfl
    by_cases hlt : k < xs.length
    · obtain ⟨b, off, x, rfl, hbs, hc, _, _, hx, hd⟩ := hX.at hlt
      have hkI : (k : Int) < (xs.length : Int) := by omega
      have hk0 : (0 : Int) ≤ (k : Int) := by omega
      cases he : inR lo x (C.length - 1)
      · go_wp2
        go_quiet ((go_at_call 58; exact quiet_eq (within_any _ _ _ _)))
        go_wp2
        go_ret
        exact ⟨ret_bool (by rw [kindsB, Hn.out, hd.out]; simp only [List.all_cons, he, Bool.false_and]), hb.trans ((hq.drewN _).below _ |>.mono hb.size)⟩
      · go_wp2
        go_quiet ((go_at_call 58; exact quiet_eq (within_any _ _ _ _)))
        go_wp2
        go_roundw
        case rel => exact ⟨k + 1, by omega, by go_num, hq.drewN _, by rw [Hn.out, hd.out]; simp only [List.all_cons, he, Bool.true_and]⟩
        case measure => simp [intOf]; omega
    · go_wp2
      go_ret
      exact ⟨ret_bool (by rw [kindsB, Hn.out, drop_end hk hlt]; rfl), hb.trans (hq.below _ |>.mono hb.size)⟩
end Go.Proofs.Ytmkmnedojgigoaa
