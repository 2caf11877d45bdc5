import Derived.Test.YtknaljghpfeikaaT11
import Derived.Test.YtknaljghpfeikaaM2
namespace Go.Proofs.Ytknaljghpfeikaa
open Go.RowKit

def servB (x y : Int) (p : Int × Int) : Bool := decide (p.1 = x) && decide (y ≤ p.2)
/-- The first play that serves a press; -1: none. -/
def servF (x y : Int) : List (Int × Int) → Nat → Int
  | [], _ => -1
  | p :: l, k => if servB x y p then (k : Int) else servF x y l (k + 1)

set_option maxRecDepth 100000 in
set_option maxHeartbeats 1000000 in
theorem serves_any (u t x y : Int) (h : Nat) (w : World) (hx : Bx w h #[.int .i64 x, .int .i64 y] 40) :
    Calls Try.prog 85 #[.agg #[.int .i64 u, .int .i64 t], .pointer (some ⟨h, 0, none⟩)] w fun e w' => e = .returned (.bool (servB x y (u, t))) ∧ Below w.heap.size w w' := by
  obtain ⟨W, hW, hb, hs, x0⟩ := boxes1 w #[.int .i64 u, .int .i64 t] 39
  have hx1 := hx.below hb
  have c0 := x0.cell 0 rfl; have c1 := x0.cell 1 rfl
  have g0 := hx1.cell 0 rfl; have g1 := hx1.cell 1 rfl
  unfold servB
  by_cases h1 : u = x
  · subst h1
    by_cases h2 : y ≤ t
    · go_enter Try.func85, Try.ntmps85
      go_wp2
      go_ret
      exact ⟨by simp [h2], hb⟩
    · have h3 : t < y := by omega
      go_enter Try.func85, Try.ntmps85
      go_wp2
      go_ret
      exact ⟨by simp [h2], hb⟩
  · have hB : (u == x) = false := by simp [h1]
    have H1 := hid h1
    clear h1
    go_enter Try.func85, Try.ntmps85
    go_wp2
    go_ret
    exact ⟨by simp [H1.out], hb⟩

set_option maxRecDepth 100000 in
set_option maxHeartbeats 3000000 in
theorem index_any (a : Option Addr) (cv : Nat) (pl : List (Int × Int)) (x y : Int) (h : Nat) (w : World) (hL : Prs w a pl) (hx : Bx w h #[.int .i64 x, .int .i64 y] 40) :
    Calls Try.prog 84 #[.slice a pl.length cv, .func (Fn.func 85) #[] #[.pointer (some ⟨h, 0, none⟩)]] w fun e w' => e = .returned (.int .i64 (servF x y pl 0)) ∧ Below w.heap.size w w' := by
  have ll := hL.1
  have llI : (pl.length : Int) ≤ 4611686018427387903 := by omega
  go_enter Try.func84, Try.ntmps84
  go_wp2
  go_loopw [8] (fun v8 wr => ∃ k : Nat, k ≤ pl.length ∧ v8 = .int .i64 (k : Int) ∧ Below w.heap.size w wr ∧ servF x y pl 0 = servF x y (pl.drop k) k) (fun v8 _ => pl.length - (intOf v8).toNat)
  case atStart => exact ⟨0, Nat.zero_le _, rfl, Below.refl _ _, rfl⟩
  case round =>
    obtain ⟨k, hk, rfl, hb, hsv⟩ := hrel
    have Hsv := hid hsv; clear hsv
    have hxr := hx.below hb
    by_cases hlt : k < pl.length
    · obtain ⟨b, off, u, t, rfl, hbs, hc1, hc2, _, _, _, hd⟩ := (hL.below hb (Nat.le_refl _)).at hlt
      have hkI : (k : Int) < (pl.length : Int) := by omega
      have hk0 : (0 : Int) ≤ (k : Int) := by omega
      have g0 := hxr.cell 0 rfl; have g1 := hxr.cell 1 rfl
      have hsa := serves_any u t x y h wr hxr
      obtain ⟨r, hr⟩ : ∃ r, r = servB x y (u, t) := ⟨_, rfl⟩
      rw [← hr] at hsa
      have hst : servF x y (pl.drop k) k = if r then (k : Int) else servF x y (pl.drop (k + 1)) (k + 1) := by rw [hd.out, hr]; rfl
      have HST := hid hst
      clear hst hr
      go_wp2_with fail
      refine hsa.mono ?_
      rintro e W2 ⟨rfl, hb2⟩
      have hb3 := hb.trans (hb2.mono hb.size)
      clear hsa g0 g1 hc1 hc2
      cases r
      · have hnx : servF x y pl 0 = servF x y (pl.drop (k + 1)) (k + 1) := by rw [Hsv.out, HST.out]; rfl
        have HN := hid hnx
        clear hnx
        go_wp2
        go_roundw
        case rel => exact ⟨k + 1, by omega, by go_num, hb3, HN.out⟩
        case measure => simp [intOf]; omega
      · have hnx : servF x y pl 0 = (k : Int) := by rw [Hsv.out, HST.out]; rfl
        have HN := hid hnx
        clear hnx
        go_wp2
        go_ret
        exact ⟨by rw [HN.out]; rfl, hb3⟩
    · have hkI : (pl.length : Int) ≤ (k : Int) := by omega
      have hnx : servF x y pl 0 = -1 := by rw [Hsv.out, drop_endP hk hlt]; rfl
      have HN := hid hnx
      clear hnx
      go_wp2
      go_ret
      exact ⟨by rw [HN.out]; rfl, hb⟩

theorem servF_ok {x y : Int} : ∀ (l : List (Int × Int)) (k : Nat), (∃ p ∈ l, servB x y p = true) → ∃ j : Nat, j < l.length ∧ servF x y l k = ((k + j : Nat) : Int)
  | [], _, h => by obtain ⟨p, hp, _⟩ := h; simp at hp
  | q :: l, k, h => by
    unfold servF
    by_cases hq : servB x y q = true
    · rw [if_pos hq]; exact ⟨0, by simp, by simp⟩
    · rw [if_neg hq]
      obtain ⟨p, hp, hs⟩ := h
      rcases List.mem_cons.1 hp with rfl | hp
      · exact absurd hs hq
      · obtain ⟨j, h1, h2⟩ := servF_ok l (k + 1) ⟨p, hp, hs⟩
        exact ⟨j + 1, by simp; omega, by rw [h2]; congr 1; omega⟩

set_option maxRecDepth 100000 in
set_option maxHeartbeats 3000000 in
/-- What service answers, where a play serves the press. -/
theorem service_any (x0 x1 x2 : Value) (a : Option Addr) (cv : Nat) (pl : List (Int × Int)) (s f : Int) (x y : Int) (w : World) (hL : Prs w a pl) (hpb : ∀ p ∈ pl, 0 ≤ p.2 ∧ p.2 ≤ 1000000000) (hy : 0 ≤ y ∧ y ≤ 1000000000) (hsv : ∃ p ∈ pl, servB x y p = true) :
    Calls Try.prog 73 #[.agg #[x0, x1, x2, .slice a pl.length cv, .int .i64 s, .int .i64 f], .agg #[.int .i64 x, .int .i64 y]] w fun e w' => e = .returned (.tuple #[.int .i64 (servF x y pl 0), .int .i64 ((pl.getD (servF x y pl 0).toNat (0, 0)).2 - y)]) ∧ Below w.heap.size w w' := by
  obtain ⟨j, hj, hje⟩ := servF_ok pl 0 hsv
  rw [Nat.zero_add] at hje
  have hix := fun a' W h1 h2 h3 => index_any a' cv pl x y h1 W h2 h3
  rw [hje] at hix ⊢
  obtain ⟨W, hW, hb, hs, y0, y3⟩ := boxes2 w #[x0, x1, x2, .slice a pl.length cv, .int .i64 s, .int .i64 f] 68 #[.int .i64 x, .int .i64 y] 40
  have c3 := y0.cell 3 rfl
  have hLW := hL.below hb (Nat.le_refl _)
  have hia := hix a W (w.heap.size + 1) hLW y3
  have ll := hL.1
  clear hix
  go_enter Try.func73, Try.ntmps73
  go_wp2_with fail
  refine hia.mono ?_
  rintro e W2 ⟨rfl, hb2⟩
  have hb3 := hb.trans (hb2.mono hb.size)
  replace y0 := y0.below hb2; replace y3 := y3.below hb2
  obtain ⟨b, off, u, t, rfl, hbs, hc1, hc2, _, _, hx, _⟩ := (hLW.below hb2 (Nat.le_refl _)).at hj
  have hget : pl.getD j (0, 0) = (u, t) := by rw [List.getD_eq_getElem?_getD, hx.out]; rfl
  have htb := hpb (u, t) (List.mem_of_getElem? hx.out)
  dsimp only at htb
  have ew : IntKind.i64.wrap (t - y) = t - y := IntWalk.i64_in _ (by omega)
  have hjI : (j : Int) < (pl.length : Int) := by omega
  have hj0 : (0 : Int) ≤ (j : Int) := by omega
  have HG := hid hget
  clear hget hx hia c3 hW hje
  have e3 := y0.ext 3 rfl
  have e0 := y3.ext 0 rfl; have e1 := y3.ext 1 rfl
  have d1 := Ext.cell hc1; have d2 := Ext.cell hc2
  go_upto_region 2 with fail
  refine wp_region_ext_tail 11 (by kernel_rfl) (by kernel_rfl) ?_
  simp only [List.take_succ_cons, List.take_zero, List.drop_succ_cons, List.drop_zero]
  repeat (quiet_step (first | fail))
  refine wpQuiet_nil ?_
  intro _ hw'
  obtain ⟨tt, rfl⟩ := hw'
  have hb4 := hb3.trans (tt.below.mono hb3.size)
  clear e3 e0 e1 d1 d2
  generalize tt.w = W3 at *
  go_wp2
  go_ret2
  exact ⟨by rw [Int.toNat_natCast, HG.out]; rfl, hb4⟩
end Go.Proofs.Ytknaljghpfeikaa
namespace Go.Proofs.Ytknaljghpfeikaa
open Go.RowKit

set_option maxRecDepth 100000 in
set_option maxHeartbeats 1000000 in
/-- Whether a tray is valid and has a press. -/
theorem checkPressed_any (ar ap : Option Addr) (cr cp : Nat) (rs ps : List (Int × Int)) (p0 way step : Int) (w : World) (hR : Prs w ar rs) (hP : Prs w ap ps) (hl : ps.length ≤ 4611686018427387903) :
    Calls Try.prog 55 #[.agg #[.slice ar rs.length cr, .int .i64 p0, .int .i64 way, .int .i64 step, .slice ap ps.length cp]] w fun e w' => e = .returned (.int .i64 (if trB rs ps p0 way step then (if ps.length = 0 then 3 else 0) else 20)) ∧ Below w.heap.size w w' := by
  obtain ⟨v, hve⟩ : ∃ v, v = trB rs ps p0 way step := ⟨_, rfl⟩
  obtain ⟨W, hW, hb, hs, x0⟩ := boxes1 w #[.slice ar rs.length cr, .int .i64 p0, .int .i64 way, .int .i64 step, .slice ap ps.length cp] 25
  clear hs
  replace hR := hR.below hb (Nat.le_refl _); replace hP := hP.below hb (Nat.le_refl _)
  have hva := valid_any ar ap cr cp rs ps p0 way step W hR hP
  rw [← hve] at hva ⊢
  clear hve
  cases v
  · have c0 := x0.cell 0 rfl; have c1 := x0.cell 1 rfl; have c2 := x0.cell 2 rfl; have c3 := x0.cell 3 rfl; have c4 := x0.cell 4 rfl
    go_enter Try.func55, Try.ntmps55
    go_wp2_with fail
    refine hva.mono ?_
    rintro e W1 ⟨rfl, hb1⟩
    replace hb := hb.trans (hb1.mono hb.size)
    clear hW x0 c0 c1 c2 c3 c4 hb1 hva
    go_wp2
    go_ret
    exact ⟨rfl, hb⟩
  · have hlI : (ps.length : Int) ≤ 4611686018427387903 := by omega
    obtain ⟨n, hn⟩ : ∃ n, n = ps.length := ⟨_, rfl⟩
    rw [← hn] at hva x0 hW hlI ⊢
    have HN := hid hn
    clear hn hl hR hP
    rcases Nat.eq_zero_or_pos n with h0 | h0
    · subst h0
      have c0 := x0.cell 0 rfl; have c1 := x0.cell 1 rfl; have c2 := x0.cell 2 rfl; have c3 := x0.cell 3 rfl; have c4 := x0.cell 4 rfl
      go_enter Try.func55, Try.ntmps55
      go_wp2_with fail
      refine hva.mono ?_
      rintro e W1 ⟨rfl, hb1⟩
      (try clear c0 c1 c2 c3 c4); replace x0 := x0.below hb1; have c0 := x0.cell 0 rfl; have c1 := x0.cell 1 rfl; have c2 := x0.cell 2 rfl; have c3 := x0.cell 3 rfl; have c4 := x0.cell 4 rfl; replace hb := hb.trans (hb1.mono hb.size); clear hb1
      clear hW hva
      go_wp2
      go_ret
      exact ⟨rfl, hb⟩
    · have h1 : (1 : Int) ≤ (n : Int) := by omega
      have c0 := x0.cell 0 rfl; have c1 := x0.cell 1 rfl; have c2 := x0.cell 2 rfl; have c3 := x0.cell 3 rfl; have c4 := x0.cell 4 rfl
      go_enter Try.func55, Try.ntmps55
      go_wp2_with fail
      refine hva.mono ?_
      rintro e W1 ⟨rfl, hb1⟩
      (try clear c0 c1 c2 c3 c4); replace x0 := x0.below hb1; have c0 := x0.cell 0 rfl; have c1 := x0.cell 1 rfl; have c2 := x0.cell 2 rfl; have c3 := x0.cell 3 rfl; have c4 := x0.cell 4 rfl; replace hb := hb.trans (hb1.mono hb.size); clear hb1
      clear hW hva
      go_wp2
      go_ret
      exact ⟨by have h2 : n ≠ 0 := by omega
                simp, hb⟩

set_option maxRecDepth 100000 in
set_option maxHeartbeats 1000000 in
theorem End_bad (ar ap : Option Addr) (cr cp : Nat) (rs ps : List (Int × Int)) (p0 way step : Int) (w : World) (hR : Prs w ar rs) (hP : Prs w ap ps) (hl : ps.length ≤ 4611686018427387903) (r : Int) (hr : r = if trB rs ps p0 way step then (if ps.length = 0 then 3 else 0) else 20) (hr0 : r ≠ 0) (_hrb : 0 ≤ r ∧ r ≤ 20) :
    Calls Try.prog 22 #[.agg #[.slice ar rs.length cr, .int .i64 p0, .int .i64 way, .int .i64 step, .slice ap ps.length cp]] w fun e w' => e = .returned (.tuple #[.int .i64 0, .int .i64 r]) ∧ Below w.heap.size w w' := by
  obtain ⟨W, hW, hb, hs, x0⟩ := boxes1 w #[.slice ar rs.length cr, .int .i64 p0, .int .i64 way, .int .i64 step, .slice ap ps.length cp] 25
  clear hs
  replace hR := hR.below hb (Nat.le_refl _); replace hP := hP.below hb (Nat.le_refl _)
  have hck := checkPressed_any ar ap cr cp rs ps p0 way step W hR hP hl
  rw [← hr] at hck
  clear hr
  have c0 := x0.cell 0 rfl; have c1 := x0.cell 1 rfl; have c2 := x0.cell 2 rfl; have c3 := x0.cell 3 rfl; have c4 := x0.cell 4 rfl
  go_enter Try.func22, Try.ntmps22
  go_wp2_with fail
  refine hck.mono ?_
  rintro e W1 ⟨rfl, hb1⟩
  replace hb := hb.trans (hb1.mono hb.size)
  clear hW x0 c0 c1 c2 c3 c4 hb1 hck
  go_wp2
  go_ret2
  exact ⟨rfl, hb⟩

set_option maxRecDepth 100000 in
set_option maxHeartbeats 1000000 in
theorem End_ok (ar ap : Option Addr) (cr cp : Nat) (rs ps : List (Int × Int)) (p0 way step : Int) (w : World) (hR : Prs w ar rs) (hP : Prs w ap ps) (hv : trB rs ps p0 way step = true) (h0 : ps.length ≠ 0) (T : Tr) (hT : IsTr T rs ps p0 way step) (c : Car) (hc : c = runM T maxI) :
    Calls Try.prog 22 #[.agg #[.slice ar rs.length cr, .int .i64 p0, .int .i64 way, .int .i64 step, .slice ap ps.length cp]] w fun e w' => e = .returned (.tuple #[.int .i64 c.fin, .int .i64 0]) ∧ Below w.heap.size w w' := by
  have hdo := fun W h1 h2 => deedsOf_any ar ap cr cp rs ps p0 way step W h1 h2 T hT
  unfold DeedP at hdo
  rw [← hc] at hdo
  clear hc
  have hl := hP.1
  obtain ⟨W, hW, hb, hs, x0⟩ := boxes1 w #[.slice ar rs.length cr, .int .i64 p0, .int .i64 way, .int .i64 step, .slice ap ps.length cp] 25
  clear hs
  replace hR := hR.below hb (Nat.le_refl _); replace hP := hP.below hb (Nat.le_refl _)
  have hck := checkPressed_any ar ap cr cp rs ps p0 way step W hR hP (by omega)
  rw [hv, if_pos rfl, if_neg h0] at hck
  have c0 := x0.cell 0 rfl; have c1 := x0.cell 1 rfl; have c2 := x0.cell 2 rfl; have c3 := x0.cell 3 rfl; have c4 := x0.cell 4 rfl
  go_enter Try.func22, Try.ntmps22
  go_wp2_with fail
  refine hck.mono ?_
  rintro e W1 ⟨rfl, hb1⟩
  clear hW hck
  replace hR := hR.below hb1 (Nat.le_refl _); replace hP := hP.below hb1 (Nat.le_refl _)
  (try clear c0 c1 c2 c3 c4); replace x0 := x0.below hb1; have c0 := x0.cell 0 rfl; have c1 := x0.cell 1 rfl; have c2 := x0.cell 2 rfl; have c3 := x0.cell 3 rfl; have c4 := x0.cell 4 rfl; replace hb := hb.trans (hb1.mono hb.size); clear hb1
  go_wp2_with fail
  refine (hdo _ hR hP).mono ?_
  rintro e W2 ⟨hb1, a, cv, rfl, hpr⟩
  replace hb := hb.trans (hb1.mono hb.size)
  clear hdo x0 c0 c1 c2 c3 c4 hb1
  unfold deedV
  obtain ⟨d, hd⟩ : ∃ d : Int, d = if c.up then 1 else -1 := ⟨_, rfl⟩
  rw [← hd]
  have hF1 := fun W => (deed_f (.int .i64 (c.pos : Nat)) (.int .i64 d) (.int .i64 c.side) a c.plays.length cv (c.steps : Nat) c.fin W).2.2
  clear hd
  go_wp2
  go_ret2
  exact ⟨rfl, hb⟩
end Go.Proofs.Ytknaljghpfeikaa
namespace Go.Proofs.Ytknaljghpfeikaa
open Go.RowKit

set_option maxRecDepth 100000 in
set_option maxHeartbeats 1000000 in
theorem serviceOf_bad (ar ap : Option Addr) (cr cp : Nat) (rs ps : List (Int × Int)) (p0 way step : Int) (n : Int) (w : World) (hR : Prs w ar rs) (hP : Prs w ap ps) (hv : trB rs ps p0 way step = false) :
    Calls Try.prog 54 #[.agg #[.slice ar rs.length cr, .int .i64 p0, .int .i64 way, .int .i64 step, .slice ap ps.length cp], .int .i64 n] w fun e w' => e = .returned (.tuple #[.int .i64 0, .int .i64 0, .int .i64 20]) ∧ Below w.heap.size w w' := by
  obtain ⟨W, hW, hb, hs, x0⟩ := boxes1 w #[.slice ar rs.length cr, .int .i64 p0, .int .i64 way, .int .i64 step, .slice ap ps.length cp] 25
  clear hs
  replace hR := hR.below hb (Nat.le_refl _); replace hP := hP.below hb (Nat.le_refl _)
  have c0 := x0.cell 0 rfl; have c1 := x0.cell 1 rfl; have c2 := x0.cell 2 rfl; have c3 := x0.cell 3 rfl; have c4 := x0.cell 4 rfl
  go_enter Try.func54, Try.ntmps54
  go_wp2_with fail
  refine (valid_any ar ap cr cp rs ps p0 way step W hR hP).mono ?_
  rintro e W1 ⟨rfl, hb1⟩
  rw [hv]
  replace hb := hb.trans (hb1.mono hb.size)
  clear hW x0 c0 c1 c2 c3 c4 hb1
  go_wp2
  exact bodyPost_ret (v := .tuple #[.int .i64 0, .int .i64 0, .int .i64 20]) (by simp [results, Try.results54, go_sem]) rfl ⟨rfl, hb⟩
set_option maxRecDepth 100000 in
set_option maxHeartbeats 1000000 in
theorem serviceOf_arg (ar ap : Option Addr) (cr cp : Nat) (rs ps : List (Int × Int)) (p0 way step : Int) (n : Int) (w : World) (hR : Prs w ar rs) (hP : Prs w ap ps) (hv : trB rs ps p0 way step = true) (hn : inR 0 n ((ps.length : Int) - 1) = false) :
    Calls Try.prog 54 #[.agg #[.slice ar rs.length cr, .int .i64 p0, .int .i64 way, .int .i64 step, .slice ap ps.length cp], .int .i64 n] w fun e w' => e = .returned (.tuple #[.int .i64 0, .int .i64 0, .int .i64 1]) ∧ Below w.heap.size w w' := by
  have hl := hP.1
  have hlI : (ps.length : Int) ≤ 4611686018427387903 := by omega
  obtain ⟨W, hW, hb, hs, x0⟩ := boxes1 w #[.slice ar rs.length cr, .int .i64 p0, .int .i64 way, .int .i64 step, .slice ap ps.length cp] 25
  clear hs
  replace hR := hR.below hb (Nat.le_refl _); replace hP := hP.below hb (Nat.le_refl _)
  have c0 := x0.cell 0 rfl; have c1 := x0.cell 1 rfl; have c2 := x0.cell 2 rfl; have c3 := x0.cell 3 rfl; have c4 := x0.cell 4 rfl
  go_enter Try.func54, Try.ntmps54
  go_wp2_with fail
  refine (valid_any ar ap cr cp rs ps p0 way step W hR hP).mono ?_
  rintro e W1 ⟨rfl, hb1⟩
  rw [hv]
  (try clear c0 c1 c2 c3 c4); replace x0 := x0.below hb1; have c0 := x0.cell 0 rfl; have c1 := x0.cell 1 rfl; have c2 := x0.cell 2 rfl; have c3 := x0.cell 3 rfl; have c4 := x0.cell 4 rfl; replace hb := hb.trans (hb1.mono hb.size); clear hb1
  clear hW
  go_wp2_with (first | (go_at_call 72; refine (isFrom_any _ _ _ _).mono ?_; rintro e w' ⟨rfl, rfl⟩))
  exact bodyPost_ret (v := .tuple #[.int .i64 0, .int .i64 0, .int .i64 1]) (by simp [results, Try.results54, go_sem]) rfl ⟨rfl, hb⟩

set_option maxRecDepth 100000 in
set_option maxHeartbeats 4000000 in
theorem serviceOf_ok (ar ap : Option Addr) (cr cp : Nat) (rs ps : List (Int × Int)) (p0 way step : Int) (n : Int) (w : World) (hR : Prs w ar rs) (hP : Prs w ap ps) (hv : trB rs ps p0 way step = true) (hn : inR 0 n ((ps.length : Int) - 1) = true) (T : Tr) (hT : IsTr T rs ps p0 way step) (c : Car) (hc : c = runM T maxI) (x y : Int) (hxy : ps[n.toNat]? = some (x, y)) :
    Calls Try.prog 54 #[.agg #[.slice ar rs.length cr, .int .i64 p0, .int .i64 way, .int .i64 step, .slice ap ps.length cp], .int .i64 n] w fun e w' => e = .returned (.tuple #[.int .i64 (servF x y c.plays 0), .int .i64 ((c.plays.getD (servF x y c.plays 0).toNat (0, 0)).2 - y), .int .i64 0]) ∧ Below w.heap.size w w' := by
  have hmem := List.mem_of_getElem? hxy
  have hsd := all_served hT.hv (x, y) (by rw [hT.T2]; exact hmem)
  have hpr := hT.hv.pr (x, y) (by rw [hT.T2]; exact hmem)
  have hrg := (rng_run hT.hv (Int.le_refl maxI)).pb
  have hdo := fun W h1 h2 => deedsOf_any ar ap cr cp rs ps p0 way step W h1 h2 T hT
  unfold DeedP at hdo
  rw [← hc] at hdo hsd hrg
  clear hc
  have hsv : ∃ p ∈ c.plays, servB x y p = true := by
    obtain ⟨q, h1, h2, h3⟩ := hsd
    exact ⟨q, h1, by unfold servB; simp [h2, h3]⟩
  have hyb : 0 ≤ y ∧ y ≤ 1000000000 := by have h1 := hpr.2.2; dsimp only at h1; omega
  have hpb : ∀ p ∈ c.plays, 0 ≤ p.2 ∧ p.2 ≤ 1000000000 := fun p hp => by have := hrg p hp; omega
  have hse := fun x0 x1 x2 a cv s f W h => service_any x0 x1 x2 a cv c.plays s f x y W h hpb hyb hsv
  have hl := hP.1
  have hlI : (ps.length : Int) ≤ 4611686018427387903 := by omega
  have hn2 := inR_iff.1 hn
  obtain ⟨r1, hr1⟩ : ∃ r1, r1 = servF x y c.plays 0 := ⟨_, rfl⟩
  obtain ⟨r2, hr2⟩ : ∃ r2, r2 = (c.plays.getD (servF x y c.plays 0).toNat (0, 0)).2 - y := ⟨_, rfl⟩
  rw [← hr2, ← hr1] at hse ⊢
  clear hr1 hr2 hsv hyb hpb hpr hsd hrg hmem
  obtain ⟨k, rfl⟩ : ∃ k : Nat, n = (k : Int) := ⟨n.toNat, by omega⟩
  rw [Int.toNat_natCast] at hxy
  have hk : k < ps.length := by omega
  have hkI : (k : Int) < (ps.length : Int) := by omega
  have hk0 : (0 : Int) ≤ (k : Int) := by omega
  obtain ⟨W, hW, hb, hs, x0⟩ := boxes1 w #[.slice ar rs.length cr, .int .i64 p0, .int .i64 way, .int .i64 step, .slice ap ps.length cp] 25
  clear hs
  replace hR := hR.below hb (Nat.le_refl _); replace hP := hP.below hb (Nat.le_refl _)
  have c0 := x0.cell 0 rfl; have c1 := x0.cell 1 rfl; have c2 := x0.cell 2 rfl; have c3 := x0.cell 3 rfl; have c4 := x0.cell 4 rfl
  go_enter Try.func54, Try.ntmps54
  go_wp2_with fail
  refine (valid_any ar ap cr cp rs ps p0 way step W hR hP).mono ?_
  rintro e W1 ⟨rfl, hb1⟩
  rw [hv]
  clear hW
  replace hR := hR.below hb1 (Nat.le_refl _); replace hP := hP.below hb1 (Nat.le_refl _)
  (try clear c0 c1 c2 c3 c4); replace x0 := x0.below hb1; have c0 := x0.cell 0 rfl; have c1 := x0.cell 1 rfl; have c2 := x0.cell 2 rfl; have c3 := x0.cell 3 rfl; have c4 := x0.cell 4 rfl; replace hb := hb.trans (hb1.mono hb.size); clear hb1
  go_upto_region 5 with (first | (go_at_call 72; refine (isFrom_any _ _ _ _).mono ?_; rintro e w' ⟨rfl, rfl⟩))
  clear c0 c1 c2 c3 c4
  have hbd := (Below.refl W1.heap.size W1).drew
  replace hR := hR.below hbd (Nat.le_refl _); replace hP := hP.below hbd (Nat.le_refl _)
  replace x0 := x0.below hbd
  replace hb := hb.trans (hbd.mono hb.size)
  clear hbd
  obtain ⟨b, off, x', y', rfl, hbs, hc1, hc2, _, _, hx, _⟩ := hP.at hk
  have hxe := hx.out
  rw [hxy] at hxe
  simp only [Option.some.injEq, Prod.mk.injEq] at hxe
  obtain ⟨rfl, rfl⟩ := hxe
  clear hx hxy
  have S0 := And.intro x0 (And.intro hc1 hc2)
  refine wp_region_head 12 (fun w' => Bx w' w.heap.size #[.slice ar rs.length cr, .int .i64 p0, .int .i64 way, .int .i64 step, .slice (some ⟨b, off, none⟩) ps.length cp] 25 ∧ w'.cell? ⟨b, off + k * 2, none⟩ = some (.int .i64 x) ∧ w'.cell? ⟨b, off + k * 2 + 1, none⟩ = some (.int .i64 y)) (by kernel_rfl) rfl ?_
  generalize W1.drew = Y0 at *
  refine HeadAt.take (i := 0) (.agg #[.slice ar rs.length cr, .int .i64 p0, .int .i64 way, .int .i64 step, .slice (some ⟨b, off, none⟩) ps.length cp]) rfl (by kernel_rfl) (.inl ⟨rfl, fun w' z => ?_⟩) S0 ?_
  · (have z0 := z.1.cell 0 rfl; have z1 := z.1.cell 1 rfl; have z2 := z.1.cell 2 rfl; have z3 := z.1.cell 3 rfl; have z4 := z.1.cell 4 rfl; simp [go_sem, z0, z1, z2, z3, z4])
  refine HeadAt.take (i := 2) (.pointer (some ⟨w.heap.size, 4, none⟩)) rfl (by kernel_rfl) (.inl ⟨rfl, fun _ _ => by simp [go_sem]⟩) S0 ?_
  refine HeadAt.take (i := 3) (.slice (some ⟨b, off, none⟩) ps.length cp) rfl (by kernel_rfl) (.inl ⟨rfl, fun w' z => ?_⟩) S0 ?_
  · (have z4 := z.1.cell 4 rfl; simp [go_sem, z4])
  refine HeadAt.take (i := 4) (.int .i64 (k : Int)) rfl (by kernel_rfl) (.inl ⟨rfl, fun _ _ => by simp [go_sem]⟩) S0 ?_
  refine HeadAt.take (i := 5) (.pointer (some ⟨b, off + k * 2, none⟩)) rfl (by kernel_rfl) (.inl ⟨rfl, fun w' z => ?_⟩) S0 ?_
  · (simp [go_sem, hkI, hk0])
  refine HeadAt.take (i := 6) (.agg #[.int .i64 x, .int .i64 y]) rfl (by kernel_rfl) (.inl ⟨rfl, fun w' z => ?_⟩) S0 ?_
  · (obtain ⟨-, z1, z2⟩ := z; simp [go_sem, z1, z2])
  refine HeadAt.one (i := 1) rfl (by kernel_rfl) ?_
  generalize hK : Upto _ _ = K0
  (try simp only [Act.put, List.getElem_toArray, List.getElem_cons_succ, List.getElem_cons_zero, List.setIfInBounds_toArray, List.set_cons_succ, List.set_cons_zero])
  go_wp2_with fail
  refine (hdo _ hR hP).mono ?_
  rintro e W2 ⟨hb1, a, cv, rfl, hpr⟩
  replace S0 := And.intro (S0.1.below hb1) (And.intro (Below.keep hb1 S0.2.1) (Below.keep hb1 S0.2.2))
  replace hb := hb.trans (hb1.mono hb.size)
  clear hb1 hdo x0 hR hP hc1 hc2
  unfold deedV
  obtain ⟨d, hd⟩ : ∃ d : Int, d = if c.up then 1 else -1 := ⟨_, rfl⟩
  rw [← hd]
  clear hd
  go_wp2_with fail
  subst hK
  refine ⟨S0, ?_⟩
  refine HeadAt.one (i := 7) rfl (by kernel_rfl) ?_
  generalize hK : Upto _ _ = K0
  (try simp only [List.getElem_toArray, List.getElem_cons_succ, List.getElem_cons_zero])
  go_wp2_with fail
  refine (hse _ _ _ _ _ _ _ _ hpr).mono ?_
  rintro e W3 ⟨rfl, hb1⟩
  replace S0 := And.intro (S0.1.below hb1) (And.intro (Below.keep hb1 S0.2.1) (Below.keep hb1 S0.2.2))
  replace hb := hb.trans (hb1.mono hb.size)
  clear hb1 hse hpr
  go_wp2_with fail
  subst hK
  refine ⟨S0, ?_⟩
  refine HeadAt.take (i := 8) (.tuple #[.int .i64 r1, .int .i64 r2]) rfl (by kernel_rfl) (.inl ⟨rfl, fun _ _ => by simp [go_sem]⟩) S0 ?_
  refine HeadAt.take (i := 9) (.int .i64 r1) rfl (by kernel_rfl) (.inl ⟨rfl, fun _ _ => by simp [go_sem]⟩) S0 ?_
  refine HeadAt.take (i := 10) (.int .i64 r2) rfl (by kernel_rfl) (.inl ⟨rfl, fun _ _ => by simp [go_sem]⟩) S0 ?_
  refine HeadAt.take (i := 11) (.int .i64 r1) rfl (by kernel_rfl) (.inl ⟨rfl, fun _ _ => by simp [go_sem]⟩) S0 ?_
  refine HeadAt.done (by kernel_rfl) ?_
  (try simp only [Act.put, List.drop_succ_cons, List.drop_zero, List.getElem_toArray, List.getElem_cons_succ, List.getElem_cons_zero])
  clear S0
  go_wp2_with fail
  refine NoPanic.normal ?_
  go_wp2
  exact bodyPost_ret (v := .tuple #[.int .i64 r1, .int .i64 r2, .int .i64 0]) (by simp [results, Try.results54, go_sem]) rfl ⟨rfl, hb⟩
end Go.Proofs.Ytknaljghpfeikaa
namespace Go.Proofs.Ytknaljghpfeikaa
open Go.RowKit


set_option maxRecDepth 100000 in
set_option maxHeartbeats 1000000 in
theorem Served_of (ar ap : Option Addr) (cr cp : Nat) (rs ps : List (Int × Int)) (p0 way step : Int) (n : Int) (w : World) (hR : Prs w ar rs) (hP : Prs w ap ps) (r1 r2 r3 : Int) (hso : ∀ W, Prs W ar rs → Prs W ap ps → Calls Try.prog 54 #[.agg #[.slice ar rs.length cr, .int .i64 p0, .int .i64 way, .int .i64 step, .slice ap ps.length cp], .int .i64 n] W fun e w' => e = .returned (.tuple #[.int .i64 r1, .int .i64 r2, .int .i64 r3]) ∧ Below W.heap.size W w') :
    Calls Try.prog 20 #[.agg #[.slice ar rs.length cr, .int .i64 p0, .int .i64 way, .int .i64 step, .slice ap ps.length cp], .int .i64 n] w fun e w' => e = .returned (.tuple #[.int .i64 r1, .int .i64 r3]) ∧ Below w.heap.size w w' := by
  obtain ⟨W, hW, hb, hs, x0⟩ := boxes1 w #[.slice ar rs.length cr, .int .i64 p0, .int .i64 way, .int .i64 step, .slice ap ps.length cp] 25
  clear hs
  replace hR := hR.below hb (Nat.le_refl _); replace hP := hP.below hb (Nat.le_refl _)
  have c0 := x0.cell 0 rfl; have c1 := x0.cell 1 rfl; have c2 := x0.cell 2 rfl; have c3 := x0.cell 3 rfl; have c4 := x0.cell 4 rfl
  go_enter Try.func20, Try.ntmps20
  go_wp2_with fail
  refine (hso W hR hP).mono ?_
  rintro e W1 ⟨rfl, hb1⟩
  replace hb := hb.trans (hb1.mono hb.size)
  clear hW x0 c0 c1 c2 c3 c4 hb1 hso
  go_wp2
  go_ret2
  exact ⟨rfl, hb⟩

set_option maxRecDepth 100000 in
set_option maxHeartbeats 1000000 in
theorem Wait_of (ar ap : Option Addr) (cr cp : Nat) (rs ps : List (Int × Int)) (p0 way step : Int) (n : Int) (w : World) (hR : Prs w ar rs) (hP : Prs w ap ps) (r1 r2 r3 : Int) (hso : ∀ W, Prs W ar rs → Prs W ap ps → Calls Try.prog 54 #[.agg #[.slice ar rs.length cr, .int .i64 p0, .int .i64 way, .int .i64 step, .slice ap ps.length cp], .int .i64 n] W fun e w' => e = .returned (.tuple #[.int .i64 r1, .int .i64 r2, .int .i64 r3]) ∧ Below W.heap.size W w') :
    Calls Try.prog 21 #[.agg #[.slice ar rs.length cr, .int .i64 p0, .int .i64 way, .int .i64 step, .slice ap ps.length cp], .int .i64 n] w fun e w' => e = .returned (.tuple #[.int .i64 r2, .int .i64 r3]) ∧ Below w.heap.size w w' := by
  obtain ⟨W, hW, hb, hs, x0⟩ := boxes1 w #[.slice ar rs.length cr, .int .i64 p0, .int .i64 way, .int .i64 step, .slice ap ps.length cp] 25
  clear hs
  replace hR := hR.below hb (Nat.le_refl _); replace hP := hP.below hb (Nat.le_refl _)
  have c0 := x0.cell 0 rfl; have c1 := x0.cell 1 rfl; have c2 := x0.cell 2 rfl; have c3 := x0.cell 3 rfl; have c4 := x0.cell 4 rfl
  go_enter Try.func21, Try.ntmps21
  go_wp2_with fail
  refine (hso W hR hP).mono ?_
  rintro e W1 ⟨rfl, hb1⟩
  replace hb := hb.trans (hb1.mono hb.size)
  clear hW x0 c0 c1 c2 c3 c4 hb1 hso
  go_wp2
  go_ret2
  exact ⟨rfl, hb⟩

end Go.Proofs.Ytknaljghpfeikaa
namespace Go.Proofs.Ytknaljghpfeikaa
open Go.RowKit

/-- How long a press waits, by a row of plays. -/
def waitF (pl : List (Int × Int)) (p : Int × Int) : Int := (pl.getD (servF p.1 p.2 pl 0).toNat (0, 0)).2 - p.2
/-- The first press of those that wait longest, and its wait. -/
def lonF (pl : List (Int × Int)) : List (Int × Int) → Nat → Nat × Int → Nat × Int
  | [], _, s => s
  | p :: l, k, s => lonF pl l (k + 1) (if s.2 < waitF pl p then (k, waitF pl p) else s)

set_option maxRecDepth 100000 in
set_option maxHeartbeats 4000000 in
theorem longest_any (x0 x1 x2 : Value) (a ap : Option Addr) (cv cp : Nat) (pl ps : List (Int × Int)) (s f : Int) (w : World) (hL : Prs w a pl) (hP : Prs w ap ps) (hpb : ∀ p ∈ pl, 0 ≤ p.2 ∧ p.2 ≤ 1000000000) (hy : ∀ p ∈ ps, 0 ≤ p.2 ∧ p.2 ≤ 1000000000) (hsv : ∀ p ∈ ps, ∃ q ∈ pl, servB p.1 p.2 q = true) :
    Calls Try.prog 68 #[.agg #[x0, x1, x2, .slice a pl.length cv, .int .i64 s, .int .i64 f], .slice ap ps.length cp] w fun e w' => e = .returned (.int .i64 ((lonF pl ps 0 (0, -1)).1 : Nat)) ∧ Below w.heap.size w w' := by
  have hse := fun p (hp : p ∈ ps) W h => service_any x0 x1 x2 a cv pl s f p.1 p.2 W h hpb (hy p hp) (hsv p hp)
  clear hpb hy hsv
  have ll := hL.1; have lp := hP.1
  have lpI : (ps.length : Int) ≤ 4611686018427387903 := by omega
  obtain ⟨W, hW, hb, hs, y0⟩ := boxes1 w #[x0, x1, x2, .slice a pl.length cv, .int .i64 s, .int .i64 f] 68
  have hwlt := y0.lt
  generalize hg : w.heap.size = g at *
  go_enter Try.func68, Try.ntmps68
  go_wp2
  go_loopw [5, 6, 13] (fun v5 v6 v13 wr => ∃ (j : Nat) (t : Nat × Int), j ≤ ps.length ∧ v5 = .int .i64 (t.1 : Nat) ∧ v6 = .int .i64 t.2 ∧ v13 = .int .i64 (j : Int) ∧ Below g w wr ∧ Bx wr g #[x0, x1, x2, .slice a pl.length cv, .int .i64 s, .int .i64 f] 68 ∧ lonF pl ps 0 (0, -1) = lonF pl (ps.drop j) j t) (fun _ _ v13 _ => ps.length - (intOf v13).toNat)
  case atStart => exact ⟨0, (0, -1), Nat.zero_le _, rfl, rfl, rfl, hb, y0, rfl⟩
  case round =>
    obtain ⟨j, t, hj, rfl, rfl, rfl, hbr, y1, hln⟩ := hrel
    obtain ⟨t1, t2⟩ := t
    have HL := hid hln; clear hln
    by_cases hlt : j < ps.length
    · obtain ⟨b, off, x, y, rfl, hbs, hc1, hc2, _, _, hx, hd⟩ := (hP.below hbr (by omega)).at hlt
      have hLr := hL.below hbr (by omega)
      have hjI : (j : Int) < (ps.length : Int) := by omega
      have hj0 : (0 : Int) ≤ (j : Int) := by omega
      have hsp := hse (x, y) (List.mem_of_getElem? hx.out)
      clear hse
      obtain ⟨r, hr⟩ : ∃ r, r = waitF pl (x, y) := ⟨_, rfl⟩
      have hre : (pl.getD (servF (x, y).1 (x, y).2 pl 0).toNat (0, 0)).2 - (x, y).2 = r := by rw [hr]; rfl
      rw [hre] at hsp
      obtain ⟨q, hq⟩ : ∃ q, q = servF (x, y).1 (x, y).2 pl 0 := ⟨_, rfl⟩
      rw [← hq] at hsp
      have hnx : lonF pl ps 0 (0, -1) = lonF pl (ps.drop (j + 1)) (j + 1) (if t2 < r then (j, r) else (t1, t2)) := by rw [HL.out, hd.out, hr]; rfl
      have HN := hid hnx
      dsimp only at hsp
      have hb1 := below_one (w := wr) (.cells #[.int .i64 x, .int .i64 y] 40)
      have xp := Bx.new wr #[.int .i64 x, .int .i64 y] 40
      have hL1 := hLr.below hb1 (Nat.le_refl _)
      have y2 := y1.below hb1
      have hgr := y1.lt
      clear hnx hq hr hre hx hd HL y0 y1 hLr
      go_upto_region 5 with fail
      have hb2 := hbr.trans (hb1.mono (by omega))
      clear hb1 hbr hc1 hc2
      generalize wr.alloc (.cells #[.int .i64 x, .int .i64 y] 40) = V at *
      generalize wr.heap.size = h at *
      have g0 := xp.cell 0 rfl; have g1 := xp.cell 1 rfl
      have c0 := y2.cell 0 rfl; have c1 := y2.cell 1 rfl; have c2 := y2.cell 2 rfl; have c3 := y2.cell 3 rfl; have c4 := y2.cell 4 rfl; have c5 := y2.cell 5 rfl
      go_wp2_with fail
      refine (hsp V hL1).mono ?_
      rintro e W2 ⟨rfl, hb3⟩
      have hlt2 := y2.lt
      have hb4 := hb2.trans (hb3.mono (by omega))
      have y3 := y2.below hb3
      clear hsp g0 g1 c0 c1 c2 c3 c4 c5 xp y2 hb2 hb3 hL1
      by_cases hlt3 : t2 < r
      · have HN2 : Hid (lonF pl ps 0 (0, -1) = lonF pl (ps.drop (j + 1)) (j + 1) (j, r)) := hid (by rw [HN.out, if_pos hlt3])
        clear HN
        go_wp2
        go_roundw
        case rel => exact ⟨j + 1, (j, r), by omega, rfl, rfl, by go_num, hb4, y3, HN2.out⟩
        case measure => simp [intOf]; omega
      · have HN2 : Hid (lonF pl ps 0 (0, -1) = lonF pl (ps.drop (j + 1)) (j + 1) (t1, t2)) := hid (by rw [HN.out, if_neg hlt3])
        clear HN
        have hge : r ≤ t2 := by omega
        clear hlt3
        go_wp2
        go_roundw
        case rel => exact ⟨j + 1, (t1, t2), by omega, rfl, rfl, by go_num, hb4, y3, HN2.out⟩
        case measure => simp [intOf]; omega
    · have hjI : (ps.length : Int) ≤ (j : Int) := by omega
      have hnx : lonF pl ps 0 (0, -1) = (t1, t2) := by rw [HL.out, drop_endP hj hlt]; rfl
      have HN := hid hnx
      clear hnx
      go_wp2
      go_ret
      exact ⟨by rw [HN.out]; rfl, hbr⟩

set_option maxRecDepth 100000 in
set_option maxHeartbeats 4000000 in
theorem Longest_ok (ar ap : Option Addr) (cr cp : Nat) (rs ps : List (Int × Int)) (p0 way step : Int) (w : World) (hR : Prs w ar rs) (hP : Prs w ap ps) (hv : trB rs ps p0 way step = true) (h0 : ps.length ≠ 0) (T : Tr) (hT : IsTr T rs ps p0 way step) (c : Car) (hc : c = runM T maxI) :
    Calls Try.prog 44 #[.agg #[.slice ar rs.length cr, .int .i64 p0, .int .i64 way, .int .i64 step, .slice ap ps.length cp]] w fun e w' => e = .returned (.tuple #[.int .i64 ((lonF c.plays ps 0 (0, -1)).1 : Nat), .int .i64 0]) ∧ Below w.heap.size w w' := by
  have hsd := all_served hT.hv
  have hpr := hT.hv.pr
  rw [hT.T2] at hsd hpr
  have hrg := (rng_run hT.hv (Int.le_refl maxI)).pb
  have hdo := fun W h1 h2 => deedsOf_any ar ap cr cp rs ps p0 way step W h1 h2 T hT
  unfold DeedP at hdo
  rw [← hc] at hdo hsd hrg
  clear hc
  have hsv : ∀ p ∈ ps, ∃ q ∈ c.plays, servB p.1 p.2 q = true := fun p hp => by
    obtain ⟨q, h1, h2, h3⟩ := hsd p hp
    exact ⟨q, h1, by unfold servB; simp [h2, h3]⟩
  have hyb : ∀ p ∈ ps, 0 ≤ p.2 ∧ p.2 ≤ 1000000000 := fun p hp => by have h1 := (hpr p hp).2.2; omega
  have hpb : ∀ p ∈ c.plays, 0 ≤ p.2 ∧ p.2 ≤ 1000000000 := fun p hp => by have := hrg p hp; omega
  have hlo := fun x0 x1 x2 a cv s f W h h' => longest_any x0 x1 x2 a ap cv cp c.plays ps s f W h h' hpb hyb hsv
  obtain ⟨r1, hr1⟩ : ∃ r1, r1 = (lonF c.plays ps 0 (0, -1)).1 := ⟨_, rfl⟩
  rw [← hr1] at hlo ⊢
  clear hr1 hsv hyb hpb hpr hsd hrg
  have hl := hP.1
  obtain ⟨W, hW, hb, hs, x0⟩ := boxes1 w #[.slice ar rs.length cr, .int .i64 p0, .int .i64 way, .int .i64 step, .slice ap ps.length cp] 25
  clear hs
  replace hR := hR.below hb (Nat.le_refl _); replace hP := hP.below hb (Nat.le_refl _)
  have hck := checkPressed_any ar ap cr cp rs ps p0 way step W hR hP (by omega)
  rw [hv, if_pos rfl, if_neg h0] at hck
  have c0 := x0.cell 0 rfl; have c1 := x0.cell 1 rfl; have c2 := x0.cell 2 rfl; have c3 := x0.cell 3 rfl; have c4 := x0.cell 4 rfl
  go_enter Try.func44, Try.ntmps44
  go_wp2_with fail
  refine hck.mono ?_
  rintro e W1 ⟨rfl, hb1⟩
  clear hW hck
  replace hR := hR.below hb1 (Nat.le_refl _); replace hP := hP.below hb1 (Nat.le_refl _)
  (try clear c0 c1 c2 c3 c4); replace x0 := x0.below hb1; have c0 := x0.cell 0 rfl; have c1 := x0.cell 1 rfl; have c2 := x0.cell 2 rfl; have c3 := x0.cell 3 rfl; have c4 := x0.cell 4 rfl; replace hb := hb.trans (hb1.mono hb.size); clear hb1
  go_upto_region 4 with fail
  clear c0 c1 c2 c3 c4
  have hbd := (Below.refl W1.heap.size W1).drew
  replace hR := hR.below hbd (Nat.le_refl _); replace hP := hP.below hbd (Nat.le_refl _)
  replace x0 := x0.below hbd
  replace hb := hb.trans (hbd.mono hb.size)
  clear hbd
  refine wp_region_head 6 (fun w' => Bx w' w.heap.size #[.slice ar rs.length cr, .int .i64 p0, .int .i64 way, .int .i64 step, .slice ap ps.length cp] 25) (by kernel_rfl) rfl ?_
  generalize W1.drew = Y0 at *
  refine HeadAt.take (i := 0) (.agg #[.slice ar rs.length cr, .int .i64 p0, .int .i64 way, .int .i64 step, .slice ap ps.length cp]) rfl (by kernel_rfl) (.inl ⟨rfl, fun w' z => ?_⟩) x0 ?_
  · (have z0 := z.cell 0 rfl; have z1 := z.cell 1 rfl; have z2 := z.cell 2 rfl; have z3 := z.cell 3 rfl; have z4 := z.cell 4 rfl; simp [go_sem, z0, z1, z2, z3, z4])
  refine HeadAt.take (i := 2) (.pointer (some ⟨w.heap.size, 4, none⟩)) rfl (by kernel_rfl) (.inl ⟨rfl, fun _ _ => by simp [go_sem]⟩) x0 ?_
  refine HeadAt.take (i := 3) (.slice ap ps.length cp) rfl (by kernel_rfl) (.inl ⟨rfl, fun w' z => ?_⟩) x0 ?_
  · (have z4 := z.cell 4 rfl; simp [go_sem, z4])
  refine HeadAt.one (i := 1) rfl (by kernel_rfl) ?_
  generalize hK : Upto _ _ = K0
  (try simp only [Act.put, List.getElem_toArray, List.getElem_cons_succ, List.getElem_cons_zero, List.setIfInBounds_toArray, List.set_cons_succ, List.set_cons_zero])
  go_wp2_with fail
  refine (hdo _ hR hP).mono ?_
  rintro e W2 ⟨hb1, a, cv, rfl, hpr⟩
  replace x0 := x0.below hb1
  replace hP := hP.below hb1 (Nat.le_refl _)
  replace hb := hb.trans (hb1.mono hb.size)
  clear hb1 hdo hR
  unfold deedV
  obtain ⟨d, hd⟩ : ∃ d : Int, d = if c.up then 1 else -1 := ⟨_, rfl⟩
  rw [← hd]
  clear hd
  go_wp2_with fail
  subst hK
  refine ⟨x0, ?_⟩
  refine HeadAt.one (i := 4) rfl (by kernel_rfl) ?_
  generalize hK : Upto _ _ = K0
  (try simp only [List.getElem_toArray, List.getElem_cons_succ, List.getElem_cons_zero])
  go_wp2_with fail
  refine (hlo _ _ _ _ _ _ _ _ hpr hP).mono ?_
  rintro e W3 ⟨rfl, hb1⟩
  replace x0 := x0.below hb1
  replace hb := hb.trans (hb1.mono hb.size)
  clear hb1 hlo hpr hP
  go_wp2_with fail
  subst hK
  refine ⟨x0, ?_⟩
  refine HeadAt.take (i := 5) (.int .i64 (r1 : Nat)) rfl (by kernel_rfl) (.inl ⟨rfl, fun _ _ => by simp [go_sem]⟩) x0 ?_
  refine HeadAt.done (by kernel_rfl) ?_
  (try simp only [Act.put, List.drop_succ_cons, List.drop_zero, List.getElem_toArray, List.getElem_cons_succ, List.getElem_cons_zero])
  clear x0
  go_wp2_with fail
  refine NoPanic.normal ?_
  go_wp2
  go_ret2
  exact ⟨rfl, hb⟩

set_option maxRecDepth 100000 in
set_option maxHeartbeats 1000000 in
theorem Longest_bad (ar ap : Option Addr) (cr cp : Nat) (rs ps : List (Int × Int)) (p0 way step : Int) (w : World) (hR : Prs w ar rs) (hP : Prs w ap ps) (hl : ps.length ≤ 4611686018427387903) (r : Int) (hr : r = if trB rs ps p0 way step then (if ps.length = 0 then 3 else 0) else 20) (hr0 : r ≠ 0) (_hrb : 0 ≤ r ∧ r ≤ 20) :
    Calls Try.prog 44 #[.agg #[.slice ar rs.length cr, .int .i64 p0, .int .i64 way, .int .i64 step, .slice ap ps.length cp]] w fun e w' => e = .returned (.tuple #[.int .i64 0, .int .i64 r]) ∧ Below w.heap.size w w' := by
  obtain ⟨W, hW, hb, hs, x0⟩ := boxes1 w #[.slice ar rs.length cr, .int .i64 p0, .int .i64 way, .int .i64 step, .slice ap ps.length cp] 25
  clear hs
  replace hR := hR.below hb (Nat.le_refl _); replace hP := hP.below hb (Nat.le_refl _)
  have hck := checkPressed_any ar ap cr cp rs ps p0 way step W hR hP hl
  rw [← hr] at hck
  clear hr
  have c0 := x0.cell 0 rfl; have c1 := x0.cell 1 rfl; have c2 := x0.cell 2 rfl; have c3 := x0.cell 3 rfl; have c4 := x0.cell 4 rfl
  go_enter Try.func44, Try.ntmps44
  go_wp2_with fail
  refine hck.mono ?_
  rintro e W1 ⟨rfl, hb1⟩
  replace hb := hb.trans (hb1.mono hb.size)
  clear hW x0 c0 c1 c2 c3 c4 hb1 hck
  go_wp2
  go_ret2
  exact ⟨rfl, hb⟩
end Go.Proofs.Ytknaljghpfeikaa
