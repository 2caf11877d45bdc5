import Derived.Test.YtknaljghpfeikaaT11
namespace Go.Proofs.Ytknaljghpfeikaa
open Go.RowKit

def servB (x y : Int) (p : Int × Int) : Bool := decide (p.1 = x) && decide (y ≤ p.2)
/-- The first play that serves a press; -1: none. -/
def servF (x y : Int) : List (Int × Int) → Nat → Int
  | [], _ => -1
  | p :: l, k => if servB x y p then (k : Int) else servF x y l (k + 1)

set_option maxRecDepth 100000 in
set_option maxHeartbeats 1000000 in
theorem serves_any (u t x y : Int) (h : Nat) (w : World) (hx : Bx w h #[.int .i64 x, .int .i64 y] 40) :
    Calls Try.prog 85 #[.agg #[.int .i64 u, .int .i64 t], .pointer (some ⟨h, 0, none⟩)] w fun e w' => e = .returned (.bool (servB x y (u, t))) ∧ Below w.heap.size w w' := by
  obtain ⟨W, hW, hb, hs, x0⟩ := boxes1 w #[.int .i64 u, .int .i64 t] 39
  have hx1 := hx.below hb
  have c0 := x0.cell 0 rfl; have c1 := x0.cell 1 rfl
  have g0 := hx1.cell 0 rfl; have g1 := hx1.cell 1 rfl
  unfold servB
  by_cases h1 : u = x
  · subst h1
    by_cases h2 : y ≤ t
    · go_enter Try.func85, Try.ntmps85
      go_wp2
      go_ret
      exact ⟨by simp [h2], hb⟩
    · have h3 : t < y := by omega
      go_enter Try.func85, Try.ntmps85
      go_wp2
      go_ret
      exact ⟨by simp [h2], hb⟩
  · have hB : (u == x) = false := by simp [h1]
    have H1 := hid h1
    clear h1
    go_enter Try.func85, Try.ntmps85
    go_wp2
    go_ret
    exact ⟨by simp [H1.out], hb⟩

set_option maxRecDepth 100000 in
set_option maxHeartbeats 3000000 in
theorem index_any (a : Option Addr) (cv : Nat) (pl : List (Int × Int)) (x y : Int) (h : Nat) (w : World) (hL : Prs w a pl) (hx : Bx w h #[.int .i64 x, .int .i64 y] 40) :
    Calls Try.prog 84 #[.slice a pl.length cv, .func (Fn.func 85) #[] #[.pointer (some ⟨h, 0, none⟩)]] w fun e w' => e = .returned (.int .i64 (servF x y pl 0)) ∧ Below w.heap.size w w' := by
  have ll := hL.1
  have llI : (pl.length : Int) ≤ 4611686018427387903 := by omega
  go_enter Try.func84, Try.ntmps84
  go_wp2
  go_loopw [8] (fun v8 wr => ∃ k : Nat, k ≤ pl.length ∧ v8 = .int .i64 (k : Int) ∧ Below w.heap.size w wr ∧ servF x y pl 0 = servF x y (pl.drop k) k) (fun v8 _ => pl.length - (intOf v8).toNat)
  case atStart => exact ⟨0, Nat.zero_le _, rfl, Below.refl _ _, rfl⟩
  case round =>
    obtain ⟨k, hk, rfl, hb, hsv⟩ := hrel
    have Hsv := hid hsv; clear hsv
    have hxr := hx.below hb
    by_cases hlt : k < pl.length
    · obtain ⟨b, off, u, t, rfl, hbs, hc1, hc2, _, _, _, hd⟩ := (hL.below hb (Nat.le_refl _)).at hlt
      have hkI : (k : Int) < (pl.length : Int) := by omega
      have hk0 : (0 : Int) ≤ (k : Int) := by omega
      have g0 := hxr.cell 0 rfl; have g1 := hxr.cell 1 rfl
      have hsa := serves_any u t x y h wr hxr
      obtain ⟨r, hr⟩ : ∃ r, r = servB x y (u, t) := ⟨_, rfl⟩
      rw [← hr] at hsa
      have hst : servF x y (pl.drop k) k = if r then (k : Int) else servF x y (pl.drop (k + 1)) (k + 1) := by rw [hd.out, hr]; rfl
      have HST := hid hst
      clear hst hr
      go_wp2_with fail
      refine hsa.mono ?_
      rintro e W2 ⟨rfl, hb2⟩
      have hb3 := hb.trans (hb2.mono hb.size)
      clear hsa g0 g1 hc1 hc2
      cases r
      · have hnx : servF x y pl 0 = servF x y (pl.drop (k + 1)) (k + 1) := by rw [Hsv.out, HST.out]; rfl
        have HN := hid hnx
        clear hnx
        go_wp2
        go_roundw
        case rel => exact ⟨k + 1, by omega, by go_num, hb3, HN.out⟩
        case measure => simp [intOf]; omega
      · have hnx : servF x y pl 0 = (k : Int) := by rw [Hsv.out, HST.out]; rfl
        have HN := hid hnx
        clear hnx
        go_wp2
        go_ret
        exact ⟨by rw [HN.out]; rfl, hb3⟩
    · have hkI : (pl.length : Int) ≤ (k : Int) := by omega
      have hnx : servF x y pl 0 = -1 := by rw [Hsv.out, drop_endP hk hlt]; rfl
      have HN := hid hnx
      clear hnx
      go_wp2
      go_ret
      exact ⟨by rw [HN.out]; rfl, hb⟩

theorem servF_ok {x y : Int} : ∀ (l : List (Int × Int)) (k : Nat), (∃ p ∈ l, servB x y p = true) → ∃ j : Nat, j < l.length ∧ servF x y l k = ((k + j : Nat) : Int)
  | [], _, h => by obtain ⟨p, hp, _⟩ := h; simp at hp
  | q :: l, k, h => by
    unfold servF
    by_cases hq : servB x y q = true
    · rw [if_pos hq]; exact ⟨0, by simp, by simp⟩
    · rw [if_neg hq]
      obtain ⟨p, hp, hs⟩ := h
      rcases List.mem_cons.1 hp with rfl | hp
      · exact absurd hs hq
      · obtain ⟨j, h1, h2⟩ := servF_ok l (k + 1) ⟨p, hp, hs⟩
        exact ⟨j + 1, by simp; omega, by rw [h2]; congr 1; omega⟩

set_option maxRecDepth 100000 in
set_option maxHeartbeats 3000000 in
/-- What service answers, where a play serves the press. -/
theorem service_any (x0 x1 x2 : Value) (a : Option Addr) (cv : Nat) (pl : List (Int × Int)) (s f : Int) (x y : Int) (w : World) (hL : Prs w a pl) (hpb : ∀ p ∈ pl, 0 ≤ p.2 ∧ p.2 ≤ 1000000000) (hy : 0 ≤ y ∧ y ≤ 1000000000) (hsv : ∃ p ∈ pl, servB x y p = true) :
    Calls Try.prog 73 #[.agg #[x0, x1, x2, .slice a pl.length cv, .int .i64 s, .int .i64 f], .agg #[.int .i64 x, .int .i64 y]] w fun e w' => e = .returned (.tuple #[.int .i64 (servF x y pl 0), .int .i64 ((pl.getD (servF x y pl 0).toNat (0, 0)).2 - y)]) ∧ Below w.heap.size w w' := by
  obtain ⟨j, hj, hje⟩ := servF_ok pl 0 hsv
  rw [Nat.zero_add] at hje
  have hix := fun a' W h1 h2 h3 => index_any a' cv pl x y h1 W h2 h3
  rw [hje] at hix ⊢
  obtain ⟨W, hW, hb, hs, y0, y3⟩ := boxes2 w #[x0, x1, x2, .slice a pl.length cv, .int .i64 s, .int .i64 f] 68 #[.int .i64 x, .int .i64 y] 40
  have c3 := y0.cell 3 rfl
  have hLW := hL.below hb (Nat.le_refl _)
  have hia := hix a W (w.heap.size + 1) hLW y3
  have ll := hL.1
  clear hix
  go_enter Try.func73, Try.ntmps73
  go_wp2_with fail
  refine hia.mono ?_
  rintro e W2 ⟨rfl, hb2⟩
  have hb3 := hb.trans (hb2.mono hb.size)
  replace y0 := y0.below hb2; replace y3 := y3.below hb2
  obtain ⟨b, off, u, t, rfl, hbs, hc1, hc2, _, _, hx, _⟩ := (hLW.below hb2 (Nat.le_refl _)).at hj
  have hget : pl.getD j (0, 0) = (u, t) := by rw [List.getD_eq_getElem?_getD, hx.out]; rfl
  have htb := hpb (u, t) (List.mem_of_getElem? hx.out)
  dsimp only at htb
  have ew : IntKind.i64.wrap (t - y) = t - y := IntWalk.i64_in _ (by omega)
  have hjI : (j : Int) < (pl.length : Int) := by omega
  have hj0 : (0 : Int) ≤ (j : Int) := by omega
  have HG := hid hget
  clear hget hx hia c3 hW hje
  have e3 := y0.ext 3 rfl
  have e0 := y3.ext 0 rfl; have e1 := y3.ext 1 rfl
  have d1 := Ext.cell hc1; have d2 := Ext.cell hc2
  go_upto_region 2 with fail
  refine wp_region_ext_tail 11 (by kernel_rfl) (by kernel_rfl) ?_
  simp only [List.take_succ_cons, List.take_zero, List.drop_succ_cons, List.drop_zero]
  repeat (quiet_step (first | fail))
  refine wpQuiet_nil ?_
  intro _ hw'
  obtain ⟨tt, rfl⟩ := hw'
  have hb4 := hb3.trans (tt.below.mono hb3.size)
  clear e3 e0 e1 d1 d2
  generalize tt.w = W3 at *
  go_wp2
  go_ret2
  exact ⟨by rw [Int.toNat_natCast, HG.out]; rfl, hb4⟩
end Go.Proofs.Ytknaljghpfeikaa
