import Derived.Test.YtmkmnedojgigoaaA9
import Derived.Test.YtmkmnedojgigoaaB2
namespace Go.Proofs.Ytmkmnedojgigoaa
open Go.RowKit

/-- One sum is looked at. -/
def cst1 (R : Nat) (N ys : List Int) (l x : Int) : Int :=
  if fs R N x.toNat = 0 then l
  else if l < 0 then x + ys.getD (ys.length - fs R N x.toNat) 0
  else if x + ys.getD (ys.length - fs R N x.toNat) 0 < l then x + ys.getD (ys.length - fs R N x.toNat) 0 else l

theorem all_mem {p : Int → Bool} {xs : List Int} {k : Nat} {x : Int} (h : xs.all p = true) (hx : xs[k]? = some x) : p x = true :=
  List.all_eq_true.1 h x (List.mem_of_getElem? hx)

set_option maxRecDepth 100000 in
set_option maxHeartbeats 1000000 in
theorem cost_any (R : Nat) (an ac ap : Option Addr) (cn cc cp : Nat) (N C P : List Int) (a b : Option Addr) (ca cb : Nat) (xs ys : List Int) (w : World) (hk : Wk w R an ac ap N C P) (hX : Ints w a xs) (hY : Ints w b ys) (hxs : xs.all (fun x => inR 1 x 100000) = true) (hys : ys.all (fun y => inR 0 y 1000000) = true) (hy1 : 1 ≤ ys.length) (hy2 : ys.length ≤ 1000) :
    Calls Try.prog 106 #[.agg #[.int .i64 (R : Int), .slice an N.length cn, .slice ac C.length cc, .slice ap P.length cp], .slice a xs.length ca, .slice b ys.length cb] w fun e w' => e = .returned (.int .i64 (xs.foldl (cst1 R N ys) (-1))) ∧ Below w.heap.size w w' := by
  have hm := hX.len
  obtain ⟨W, hW, hb, hs, x0⟩ := boxes1 w #[.int .i64 (R : Int), .slice an N.length cn, .slice ac C.length cc, .slice ap P.length cp] 73
  clear hs
  go_enter Try.func106, Try.ntmps106
  go_wp2
  go_loopw [8, 17] (fun v i wr => ∃ (k : Nat) (l : Int), k ≤ xs.length ∧ i = .int .i64 k ∧ v = .int .i64 l ∧ -1 ≤ l ∧ l ≤ 2000000 ∧ Below w.heap.size w wr ∧ Bx wr w.heap.size #[.int .i64 (R : Int), .slice an N.length cn, .slice ac C.length cc, .slice ap P.length cp] 73 ∧ xs.foldl (cst1 R N ys) (-1) = (xs.drop k).foldl (cst1 R N ys) l) (fun _ i _ => xs.length - (intOf i).toNat)
  case atStart => exact ⟨0, -1, Nat.zero_le _, rfl, rfl, by omega, by omega, hb, x0, rfl⟩
  case round =>
    clear hb x0 hW
    obtain ⟨k, l, hk', rfl, rfl, hl1, hl2, hb, x0, hn⟩ := hrel
    have Hn := hid hn; clear hn
    replace hX := hX.below hb (Nat.le_refl _)
    replace hY := hY.below hb (Nat.le_refl _)
    replace hk := hk.below hb (Nat.le_refl _)
    have c0 := x0.cell 0 rfl; have c1 := x0.cell 1 rfl; have c2 := x0.cell 2 rfl; have c3 := x0.cell 3 rfl
    by_cases hlt : k < xs.length
    · obtain ⟨ba, off, x, rfl, hbs, hc, _, _, hx, hd⟩ := hX.at hlt
      have hxr := inR_iff.1 (all_mem (p := fun x => inR 1 x 100000) hxs hx.out)
      have hf := fs_le hk.v x.toNat
      go_wp2_with fail
      refine (fromStart_int _ _ _ _ _ _ _ _ _ _ x _ hk (by omega) (by omega)).mono ?_
      rintro e W1 ⟨rfl, hb1⟩
      replace hY := hY.below hb1 (Nat.le_refl _); replace x0 := x0.below hb1; replace hb := hb.trans (hb1.mono hb.size); clear hb1
      clear c0 c1 c2 c3 hc hX hk
      obtain ⟨f, hfe⟩ : ∃ f, f = fs R N x.toNat := ⟨_, rfl⟩
      rw [← hfe] at hf ⊢
      have Hf := hid hfe; clear hfe
      by_cases hf0 : f = 0
      · subst hf0
        go_wp2
        go_roundw
        case rel => exact ⟨k + 1, l, by omega, by go_num, rfl, by omega, by omega, hb, x0, by rw [Hn.out, hd.out, List.foldl_cons, cst1, ← Hf.out, if_pos rfl]⟩
        case measure => simp [intOf]; omega
      · have h0 : ((f : Int) == 0) = false := by simp; omega
        obtain ⟨bb, off', y, rfl, hbs', hc', _, _, hy, _⟩ := hY.at (k := ys.length - f) (by omega)
        have hyr := inR_iff.1 (all_mem (p := fun y => inR 0 y 1000000) hys hy.out)
        have hyd : ys.getD (ys.length - f) 0 = y := by have := hy.out; simp [List.getD, this]
        have hst : cst1 R N ys l x = if l < 0 then x + y else if x + y < l then x + y else l := by rw [cst1, ← Hf.out, if_neg hf0, hyd]
        have Hst := hid hst
        clear hst hyd hy hY
        rcases Nat.lt_or_ge f ys.length with hfl | hfl
        · obtain ⟨i, hi⟩ : ∃ i : Nat, f + i = ys.length := ⟨ys.length - f, by omega⟩
          have e1 : ys.length - f = i := by omega
          rw [e1] at hc'
          have hi0 : (i : Int) = (ys.length : Int) - (f : Int) := by omega
          by_cases hl0 : l < 0
          · go_wp2
            go_roundw
            case rel => exact ⟨k + 1, x + y, by omega, by go_num, rfl, by omega, by omega, hb, x0, by rw [Hn.out, hd.out, List.foldl_cons, Hst.out, if_pos hl0]⟩
            case measure => simp [intOf]; omega
          · by_cases hxl : x + y < l
            · go_wp2
              go_roundw
              case rel => exact ⟨k + 1, x + y, by omega, by go_num, rfl, by omega, by omega, hb, x0, by rw [Hn.out, hd.out, List.foldl_cons, Hst.out, if_neg (show ¬ l < 0 by omega), if_pos hxl]⟩
              case measure => simp [intOf]; omega
            · go_wp2
              go_roundw
              case rel => exact ⟨k + 1, l, by omega, by go_num, rfl, by omega, by omega, hb, x0, by rw [Hn.out, hd.out, List.foldl_cons, Hst.out, if_neg (show ¬ l < 0 by omega), if_neg (show ¬ x + y < l by omega)]⟩
              case measure => simp [intOf]; omega
        · have e1 : ys.length - f = 0 := by omega
          rw [e1, Nat.add_zero] at hc'
          by_cases hl0 : l < 0
          · go_wp2
            go_roundw
            case rel => exact ⟨k + 1, x + y, by omega, by go_num, rfl, by omega, by omega, hb, x0, by rw [Hn.out, hd.out, List.foldl_cons, Hst.out, if_pos hl0]⟩
            case measure => simp [intOf]; omega
          · by_cases hxl : x + y < l
            · go_wp2
              go_roundw
              case rel => exact ⟨k + 1, x + y, by omega, by go_num, rfl, by omega, by omega, hb, x0, by rw [Hn.out, hd.out, List.foldl_cons, Hst.out, if_neg (show ¬ l < 0 by omega), if_pos hxl]⟩
              case measure => simp [intOf]; omega
            · go_wp2
              go_roundw
              case rel => exact ⟨k + 1, l, by omega, by go_num, rfl, by omega, by omega, hb, x0, by rw [Hn.out, hd.out, List.foldl_cons, Hst.out, if_neg (show ¬ l < 0 by omega), if_neg (show ¬ x + y < l by omega)]⟩
              case measure => simp [intOf]; omega
    · go_wp2
      go_ret
      exact ⟨ret_int (by rw [Hn.out, drop_end hk' hlt]; rfl), hb⟩

end Go.Proofs.Ytmkmnedojgigoaa
