import Derived.Test.YtmkmnedojgigoaaL1
import Derived.Test.YtmkmnedojgigoaaA9
namespace Go.Proofs.Ytmkmnedojgigoaa
open Go.RowKit

set_option maxRecDepth 100000 in
set_option maxHeartbeats 1000000 in
theorem act_kind (R : Nat) (an ac : Option Addr) (cn cc : Nat) (N C : List Int) (p c : Nat) (k : Nat) (w : World) (hN : Ints w an N) (hC : Ints w ac C) (hv : Vw R N C) (hp : p < R) (hc : c ≤ 1000000) (hlt : k < C.length) :
    Calls Try.prog 66 #[.agg #[.int .i64 (R : Int), .slice an N.length cn, .slice ac C.length cc], .agg #[.int .i64 p, .int .i64 c], .int .i64 k] w fun e w' => e = .returned (.tuple #[.agg #[.int .i64 ((p + cw C k) % R : Nat), .int .i64 (c + gv R N p (cw C k) : Nat)], .bool false]) ∧ Below w.heap.size w w' := by
  have r2 := hv.r2
  have c4 := hv.c4
  obtain ⟨q0, q1, q2⟩ := hv.coin hlt
  have hg := gv_le hv p (cw C k)
  obtain ⟨W, hW, hb, hs, x0, x1, x2⟩ := boxes3 w #[.int .i64 (R : Int), .slice an N.length cn, .slice ac C.length cc] 24 #[.int .i64 p, .int .i64 c] 26 #[.int .i64 0, .int .i64 0] 26
  have Hs := hid hs; clear hs
  have hN1 := hN.below hb (Nat.le_refl _); have hC1 := hC.below hb (Nat.le_refl _)
  obtain ⟨bc, offc, y, rfl, hbc, hcc, _, _, hy, _⟩ := hC1.at hlt
  have hye : y = (cw C k : Int) := by have := hy.out; rw [q0] at this; simpa using this.symm
  subst hye
  clear hy q0
  have hkI : (k : Int) < (C.length : Int) := by omega
  have hk0 : (0 : Int) ≤ (k : Int) := by omega
  obtain ⟨q, hq⟩ : ∃ q, q = (p + cw C k) % R := ⟨_, rfl⟩
  obtain ⟨G, hG⟩ : ∃ G, G = gv R N p (cw C k) := ⟨_, rfl⟩
  rw [← hq, ← hG]
  rw [← hG] at hg
  have hpu : ∀ t : Ext W, Calls Try.prog 72 #[.agg #[.int .i64 (R : Int), .slice an N.length cn, .slice (some ⟨bc, offc, none⟩) C.length cc], .int .i64 p, .int .i64 (cw C k : Nat)] t.w fun e w' => e = .returned (.tuple #[.int .i64 q, .int .i64 G]) ∧ Below t.w.heap.size t.w w' := fun t => by
    rw [hG, hq]
    exact put_any R an _ cn cc N C p (cw C k) t.w (hN1.below t.below (Nat.le_refl _)) hv hp (by omega)
  clear hG hq hN1 hC1
  generalize cw C k = v at *
  have d0 := x0.ext 0 rfl; have d1 := x0.ext 1 rfl; have d2 := x0.ext 2 rfl
  have e0 := x1.ext 0 rfl; have e1 := x1.ext 1 rfl
  have f0 := Ext.cell hcc
  go_enter Try.func66, Try.ntmps66
  go_wp2_with fail
  refine wp_region_ext_lit (by kernel_rfl) (by kernel_rfl) ?_
  repeat (quiet_step (first | (go_at_call 72; exact quiet_ext (hpu _))))
  refine wpQuiet_nil ?_
  intro _ hw'
  obtain ⟨t, rfl⟩ := hw'
  have y2 := x2.below t.below
  have y1 := x1.below t.below
  have hb' := hb.trans (t.below.mono hb.size)
  clear hpu d0 d1 d2 e0 e1 f0 hW
  generalize t.w = W2 at *
  clear x0 x1 x2
  have g0 := y2.cell 0 rfl; have g1 := y2.cell 1 rfl; have h0 := y2.free 0; have h1 := y2.free 1; have e0 := y1.cell 0 rfl; have e1 := y1.cell 1 rfl
  go_wp2
  refine bodyPost_ret (v := .tuple #[.agg #[.int .i64 q, .int .i64 (c + G : Nat)], .bool false]) ?_ rfl ⟨rfl, ?_⟩
  · simp [results, Try.results66, go_sem, g0, g1]
  · exact (hb'.setCell (by simp; omega) _).setCell (by simp; omega) _

set_option maxRecDepth 100000 in
set_option maxHeartbeats 1000000 in
theorem act_sel0 (r : Int) (an ac : Option Addr) (cn cc : Nat) (N C : List Int) (p : Nat) (w : World) :
    Calls Try.prog 66 #[.agg #[.int .i64 r, .slice an N.length cn, .slice ac C.length cc], .agg #[.int .i64 p, .int .i64 0], .int .i64 (-1)] w fun e w' => e = .returned (.tuple #[.agg #[.int .i64 p, .int .i64 0], .bool false]) ∧ Below w.heap.size w w' := by
  go_enter Try.func66, Try.ntmps66
  go_wp2
  refine bodyPost_ret (v := .tuple #[.agg #[.int .i64 p, .int .i64 0], .bool false]) (by simp [results, Try.results66, go_sem]) rfl ⟨rfl, ?_⟩
  (repeat (first | with_reducible assumption | with_reducible refine Below.alloc ?_ (by simp; try omega) _ | with_reducible refine Below.setCell ?_ (by simp; try omega) _ | with_reducible refine below_drewN ?_ _ | with_reducible exact Below.refl _ _))

set_option maxRecDepth 100000 in
set_option maxHeartbeats 1000000 in
theorem act_sel (r : Int) (an ac : Option Addr) (cn cc : Nat) (N C : List Int) (p c : Nat) (w : World) (h0 : c ≠ 0) (hc : c ≤ 1000000) :
    Calls Try.prog 66 #[.agg #[.int .i64 r, .slice an N.length cn, .slice ac C.length cc], .agg #[.int .i64 p, .int .i64 c], .int .i64 (-1)] w fun e w' => e = .returned (.tuple #[.agg #[.int .i64 0, .int .i64 (c - 1 : Nat)], .bool true]) ∧ Below w.heap.size w w' := by
  have h1 : ((c : Int) == 0) = false := by simp; omega
  have h2 : 1 ≤ c := by omega
  clear h0
  go_enter Try.func66, Try.ntmps66
  go_wp2
  refine bodyPost_ret (v := .tuple #[.agg #[.int .i64 0, .int .i64 (c - 1 : Nat)], .bool true]) ?_ rfl ⟨rfl, ?_⟩
  · simp [results, Try.results66, go_sem]; omega
  · (repeat (first | with_reducible assumption | with_reducible refine Below.alloc ?_ (by simp; try omega) _ | with_reducible refine Below.setCell ?_ (by simp; try omega) _ | with_reducible refine below_drewN ?_ _ | with_reducible exact Below.refl _ _))

theorem act_any (R : Nat) (an ac : Option Addr) (cn cc : Nat) (N C : List Int) (s : St) (a : Int) (w : World) (hN : Ints w an N) (hC : Ints w ac C) (hv : Vw R N C) (hp : s.p < R) (hc : s.c ≤ 1000000) (ha : isActB C a = true) :
    Calls Try.prog 66 #[.agg #[.int .i64 (R : Int), .slice an N.length cn, .slice ac C.length cc], .agg #[.int .i64 s.p, .int .i64 s.c], .int .i64 a] w fun e w' => e = .returned (.tuple #[.agg #[.int .i64 (act R N C s a).1.p, .int .i64 (act R N C s a).1.c], .bool (act R N C s a).2]) ∧ Below w.heap.size w w' := by
  by_cases h : a = -1
  · subst h
    by_cases h0 : s.c = 0
    · have e : act R N C s (-1) = (s, false) := by simp [act, h0]
      rw [e]
      have := act_sel0 (R : Int) an ac cn cc N C s.p w
      simpa [h0] using this
    · have e : act R N C s (-1) = (⟨0, s.c - 1⟩, true) := by simp [act, h0]
      rw [e]
      exact act_sel (R : Int) an ac cn cc N C s.p s.c w h0 hc
  · have hkk : isKindB C a = true := by
      simp only [isActB, Bool.or_eq_true, beq_iff_eq] at ha
      exact ha.resolve_left h
    obtain ⟨n, rfl, hn⟩ := kind_nat hkk
    have e : act R N C s (n : Int) = (⟨(s.p + cw C n) % R, s.c + gv R N s.p (cw C n)⟩, false) := by simp [act, h]
    rw [e]
    exact act_kind R an ac cn cc N C s.p s.c n w hN hC hv hp hc hn
end Go.Proofs.Ytmkmnedojgigoaa
namespace Go.Proofs.Ytmkmnedojgigoaa
open Go.RowKit

set_option maxRecDepth 100000 in
set_option maxHeartbeats 1000000 in
theorem worthR_any (R : Nat) (an ac : Option Addr) (cn cc : Nat) (N C : List Int) (a : Option Addr) (ca : Nat) (xs : List Int) (w : World) (_hN : Ints w an N) (hC : Ints w ac C) (hX : Ints w a xs) (hv : Vw R N C) (hl : xs.length ≤ 20) (hx : xs.all (isKindB C) = true) :
    Calls Try.prog 73 #[.agg #[.int .i64 (R : Int), .slice an N.length cn, .slice ac C.length cc], .slice a xs.length ca] w fun e w' => e = .returned (.int .i64 (tot C xs : Nat)) ∧ Below w.heap.size w w' := by
  obtain ⟨W, hW, hb, hs, x0⟩ := boxes1 w #[.int .i64 (R : Int), .slice an N.length cn, .slice ac C.length cc] 24
  clear hs
  replace hX := hX.below hb (Nat.le_refl _); replace hC := hC.below hb (Nat.le_refl _)
  go_enter Try.func73, Try.ntmps73
  go_wp2
  clear hW
  go_loopw [5, 6] (fun s5 s6 wr => ∃ (k q : Nat), k ≤ xs.length ∧ s6 = .int .i64 k ∧ s5 = .int .i64 q ∧ q ≤ 100 * k ∧ Qd W wr ∧ tot C xs = q + tot C (xs.drop k) ∧ (xs.drop k).all (isKindB C) = true) (fun _ s6 _ => xs.length - (intOf s6).toNat)
  case atStart => exact ⟨0, 0, Nat.zero_le _, rfl, rfl, by omega, Qd.refl _, by simp, hx⟩
  case round =>
    obtain ⟨k, q, hk', rfl, rfl, hq, hqd, hn, ha⟩ := hrel
    have Hn := hid hn; clear hn
    replace hX := hX.qd hqd; replace hC := hC.qd hqd
    have x1 := x0.below (hqd.below _)
    have c0 := x1.cell 0 rfl; have c1 := x1.cell 1 rfl; have c2 := x1.cell 2 rfl
    clear hx
    by_cases hlt : k < xs.length
    · obtain ⟨b, off, x, rfl, hbs, hc, _, _, hx, hd⟩ := hX.at hlt
      rw [hd.out, List.all_cons, Bool.and_eq_true] at ha
      obtain ⟨n, rfl, hn⟩ := kind_nat ha.1
      obtain ⟨bc, offc, y, rfl, hbc, hcc, _, _, hy, _⟩ := hC.at hn
      have hco := hv.coin hn
      have hye : y = (cw C n : Int) := by have := hy.out; rw [hco.1] at this; simpa using this.symm
      subst hye
      have h1 := hco.2
      have Ha := hid ha.2
      obtain ⟨v, hve⟩ : ∃ v, v = cw C n := ⟨_, rfl⟩
      rw [← hve] at hcc h1
      have Hv := hid hve
      clear ha hco hy hx hve
      have hkI : (k : Int) < (xs.length : Int) := by omega
      have hk0 : (0 : Int) ≤ (k : Int) := by omega
      have hnI : (n : Int) < (C.length : Int) := by omega
      have hn0 : (0 : Int) ≤ (n : Int) := by omega
      have hm : IntKind.i64.wrap ((q : Int) + (v : Int)) = (q : Int) + (v : Int) := IntWalk.i64_in _ (by omega)
      have Hd := hid hd.out
      clear hd
      go_wp2
      go_quiet (fail)
      clear hm
      go_wp2
      go_roundw
      case rel => exact ⟨k + 1, q + v, by omega, by go_num, by go_num, by omega, hqd.drewN _, by rw [Hn.out, Hd.out, tot_cons, Int.toNat_natCast, ← Hv.out]; omega, Ha.out⟩
      case measure => simp [intOf]; omega
    · go_wp2
      go_ret
      exact ⟨ret_int (by rw [Hn.out, drop_end hk' hlt]; simp [tot]), hb.trans (hqd.below _ |>.mono hb.size)⟩

set_option maxRecDepth 100000 in
set_option maxHeartbeats 1000000 in
theorem rplays_bad (r : Int) (an ac : Option Addr) (cn cc : Nat) (N C : List Int) (p : Int) (a : Option Addr) (ca : Nat) (xs : List Int) (w : World) (hN : Ints w an N) (hC : Ints w ac C) (hv : validB r N C = false) :
    Calls Try.prog 24 #[.agg #[.int .i64 r, .slice an N.length cn, .slice ac C.length cc], .int .i64 p, .slice a xs.length ca] w fun e w' => e = .returned (.tuple #[.int .i64 0, .int .i64 10]) ∧ Below w.heap.size w w' := by
  have hk : chk r N C = 10 := by simp [chk, hv]
  obtain ⟨W, hW, hb, hs, x0⟩ := boxes1 w #[.int .i64 r, .slice an N.length cn, .slice ac C.length cc] 24
  clear hs
  replace hN := hN.below hb (Nat.le_refl _); replace hC := hC.below hb (Nat.le_refl _)
  have c0 := x0.cell 0 rfl; have c1 := x0.cell 1 rfl; have c2 := x0.cell 2 rfl
  go_enter Try.func24, Try.ntmps24
  go_wp2_with fail
  refine (refCheck_any _ _ _ _ _ _ _ _ hN hC).mono ?_
  rintro e W1 ⟨rfl, hb1⟩
  rw [hk]
  replace hb := hb.trans (hb1.mono hb.size); clear hb1
  go_wp2
  go_ret2
  exact ⟨rfl, hb⟩

theorem okPlays_k (R : Nat) (C : List Int) (p : Int) (xs : List Int) : okPlays R C p xs = (inR 0 p (R - 1) && kindsB C 0 xs) := by
  unfold okPlays kindsB isKindB
  rw [Bool.and_comm (decide _)]
  congr 2
  rw [Bool.eq_iff_iff]; simp; omega

set_option maxRecDepth 100000 in
set_option maxHeartbeats 1000000 in
theorem rplays_arg (R : Nat) (an ac : Option Addr) (cn cc : Nat) (N C : List Int) (p : Int) (a : Option Addr) (ca : Nat) (xs : List Int) (w : World) (hN : Ints w an N) (hC : Ints w ac C) (hX : Ints w a xs) (hv : Vw R N C) (ho : okPlays R C p xs = false) :
    Calls Try.prog 24 #[.agg #[.int .i64 (R : Int), .slice an N.length cn, .slice ac C.length cc], .int .i64 p, .slice a xs.length ca] w fun e w' => e = .returned (.tuple #[.int .i64 0, .int .i64 1]) ∧ Below w.heap.size w w' := by
  have hk : chk (R : Int) N C = 0 := by simp [chk, hv.valid]
  rw [okPlays_k] at ho
  obtain ⟨W, hW, hb, hs, x0⟩ := boxes1 w #[.int .i64 (R : Int), .slice an N.length cn, .slice ac C.length cc] 24
  clear hs
  replace hN := hN.below hb (Nat.le_refl _); replace hC := hC.below hb (Nat.le_refl _); replace hX := hX.below hb (Nat.le_refl _)
  have c0 := x0.cell 0 rfl; have c1 := x0.cell 1 rfl; have c2 := x0.cell 2 rfl
  cases hp : inR 0 p ((R : Int) - 1)
  · clear ho
    go_enter Try.func24, Try.ntmps24
    go_wp2_with fail
    refine (refCheck_any _ _ _ _ _ _ _ _ hN hC).mono ?_
    rintro e W1 ⟨rfl, hb1⟩
    rw [hk]
    clear hW
    replace hC := hC.below hb1 (Nat.le_refl _); replace hX := hX.below hb1 (Nat.le_refl _); (try clear c0 c1 c2); replace x0 := x0.below hb1; have c0 := x0.cell 0 rfl; have c1 := x0.cell 1 rfl; have c2 := x0.cell 2 rfl; replace hb := hb.trans (hb1.mono hb.size); clear hb1
    go_wp2_with fail
    refine (rIsPlace_any _ _ _ _ _ _ _ p _ hv).mono ?_
    rintro e W2 ⟨rfl, hb1⟩
    rw [hp]
    replace hb := hb.trans (hb1.mono hb.size); clear hb1
    clear x0 c0 c1 c2
    go_wp2
    go_ret2
    exact ⟨rfl, hb⟩
  · have h2 : kindsB C 0 xs = false := by simpa [hp] using ho
    clear ho
    go_enter Try.func24, Try.ntmps24
    go_wp2_with fail
    refine (refCheck_any _ _ _ _ _ _ _ _ hN hC).mono ?_
    rintro e W1 ⟨rfl, hb1⟩
    rw [hk]
    clear hW
    replace hC := hC.below hb1 (Nat.le_refl _); replace hX := hX.below hb1 (Nat.le_refl _); (try clear c0 c1 c2); replace x0 := x0.below hb1; have c0 := x0.cell 0 rfl; have c1 := x0.cell 1 rfl; have c2 := x0.cell 2 rfl; replace hb := hb.trans (hb1.mono hb.size); clear hb1
    go_wp2_with fail
    refine (rIsPlace_any _ _ _ _ _ _ _ p _ hv).mono ?_
    rintro e W2 ⟨rfl, hb1⟩
    rw [hp]
    replace hC := hC.below hb1 (Nat.le_refl _); replace hX := hX.below hb1 (Nat.le_refl _); (try clear c0 c1 c2); replace x0 := x0.below hb1; have c0 := x0.cell 0 rfl; have c1 := x0.cell 1 rfl; have c2 := x0.cell 2 rfl; replace hb := hb.trans (hb1.mono hb.size); clear hb1
    go_wp2_with fail
    refine (areKinds_any _ _ _ _ _ _ _ a ca xs 0 _ hC hX).mono ?_
    rintro e W2 ⟨rfl, hb1⟩
    rw [h2]
    replace hb := hb.trans (hb1.mono hb.size); clear hb1
    clear x0 c0 c1 c2
    go_wp2
    go_ret2
    exact ⟨rfl, hb⟩

set_option maxRecDepth 100000 in
set_option maxHeartbeats 1000000 in
theorem rplays_ok (R : Nat) (an ac : Option Addr) (cn cc : Nat) (N C : List Int) (p : Nat) (a : Option Addr) (ca : Nat) (xs : List Int) (w : World) (hN : Ints w an N) (hC : Ints w ac C) (hX : Ints w a xs) (hv : Vw R N C) (hp : p < R) (hk2 : kindsB C 0 xs = true) :
    Calls Try.prog 24 #[.agg #[.int .i64 (R : Int), .slice an N.length cn, .slice ac C.length cc], .int .i64 p, .slice a xs.length ca] w fun e w' => e = .returned (.tuple #[.int .i64 (gv R N p (tot C xs) : Nat), .int .i64 0]) ∧ Below w.heap.size w w' := by
  have hk : chk (R : Int) N C = 0 := by simp [chk, hv.valid]
  have hpB : inR 0 (p : Int) ((R : Int) - 1) = true := inR_iff.2 (by omega)
  obtain ⟨hkk, hkl⟩ := kinds_of hk2
  have htl := tot_le hv xs hkk
  have hN0 := hN; have hC0 := hC; have hX0 := hX
  obtain ⟨W, hW, hb, hs, x0⟩ := boxes1 w #[.int .i64 (R : Int), .slice an N.length cn, .slice ac C.length cc] 24
  clear hs hN hC hX
  have c0 := x0.cell 0 rfl; have c1 := x0.cell 1 rfl; have c2 := x0.cell 2 rfl
  go_enter Try.func24, Try.ntmps24
  go_wp2_with fail
  refine (refCheck_any _ _ _ _ _ _ _ _ (hN0.below hb (Nat.le_refl _)) (hC0.below hb (Nat.le_refl _))).mono ?_
  rintro e W1 ⟨rfl, hb1⟩
  rw [hk]
  clear hW
  (try clear c0 c1 c2); replace x0 := x0.below hb1; have c0 := x0.cell 0 rfl; have c1 := x0.cell 1 rfl; have c2 := x0.cell 2 rfl; replace hb := hb.trans (hb1.mono hb.size); clear hb1
  go_wp2_with fail
  refine (rIsPlace_any _ _ _ _ _ _ _ p _ hv).mono ?_
  rintro e W2 ⟨rfl, hb1⟩
  rw [hpB]
  (try clear c0 c1 c2); replace x0 := x0.below hb1; have c0 := x0.cell 0 rfl; have c1 := x0.cell 1 rfl; have c2 := x0.cell 2 rfl; replace hb := hb.trans (hb1.mono hb.size); clear hb1
  go_wp2_with fail
  refine (areKinds_any _ _ _ _ _ _ _ a ca xs 0 _ (hC0.below hb (Nat.le_refl _)) (hX0.below hb (Nat.le_refl _))).mono ?_
  rintro e W2 ⟨rfl, hb1⟩
  rw [hk2]
  replace x0 := x0.below hb1; replace hb := hb.trans (hb1.mono hb.size); clear hb1
  clear c0 c1 c2
  obtain ⟨T, hT⟩ : ∃ T, T = tot C xs := ⟨_, rfl⟩
  obtain ⟨G, hG⟩ : ∃ G, G = gv R N p (tot C xs) := ⟨_, rfl⟩
  obtain ⟨q, hq⟩ : ∃ q, q = (p + tot C xs) % R := ⟨_, rfl⟩
  have wo : ∀ W : World, Ints W an N → Ints W ac C → Ints W a xs → Calls Try.prog 73 #[.agg #[.int .i64 (R : Int), .slice an N.length cn, .slice ac C.length cc], .slice a xs.length ca] W fun e w' => e = .returned (.int .i64 T) ∧ Below W.heap.size W w' := fun W h1 h2 h3 => by
    rw [hT]; exact worthR_any R an ac cn cc N C a ca xs W h1 h2 h3 hv hkl hkk
  have pu : ∀ W : World, Ints W an N → Calls Try.prog 72 #[.agg #[.int .i64 (R : Int), .slice an N.length cn, .slice ac C.length cc], .int .i64 p, .int .i64 T] W fun e w' => e = .returned (.tuple #[.int .i64 q, .int .i64 G]) ∧ Below W.heap.size W w' := fun W h1 => by
    rw [hT, hG, hq]; exact put_any R an ac cn cc N C p (tot C xs) W h1 hv hp (by omega)
  have HG := hid hG
  clear hT hG hq hk2 hkk hk hpB
  have d0 := x0.ext 0 rfl; have d1 := x0.ext 1 rfl; have d2 := x0.ext 2 rfl
  have hN1 := hN0.below hb (Nat.le_refl _); have hC1 := hC0.below hb (Nat.le_refl _); have hX1 := hX0.below hb (Nat.le_refl _)
  go_wp2_with fail
  refine wp_region_ext_lit (by kernel_rfl) (by kernel_rfl) ?_
  repeat (quiet_step (first | (go_at_call 73; exact quiet_ext (wo _ (hN1.below (Ext.below _) (Nat.le_refl _)) (hC1.below (Ext.below _) (Nat.le_refl _)) (hX1.below (Ext.below _) (Nat.le_refl _)))) | (go_at_call 72; exact quiet_ext (pu _ (hN1.below (Ext.below _) (Nat.le_refl _))))))
  refine wpQuiet_nil ?_
  intro _ hw'
  obtain ⟨t, rfl⟩ := hw'
  replace hb := hb.trans (t.below.mono hb.size)
  clear wo pu d0 d1 d2
  go_wp2
  go_ret2
  exact ⟨by rw [← HG.out]; rfl, hb⟩

/-- What Plays answers. -/
def plR (r : Int) (N C : List Int) (p : Int) (xs : List Int) : Int × Int := if validB r N C then (plV r.toNat N C p xs, plE r.toNat C p xs) else (0, 10)
theorem plays_any (r : Int) (an ac : Option Addr) (cn cc : Nat) (N C : List Int) (p : Int) (a : Option Addr) (ca : Nat) (xs : List Int) (w : World) (hN : Ints w an N) (hC : Ints w ac C) (hX : Ints w a xs) :
    Calls Try.prog 23 #[.agg #[.int .i64 r, .slice an N.length cn, .slice ac C.length cc], .int .i64 p, .slice a xs.length ca] w fun e w' => e = .returned (.tuple #[.int .i64 (plR r N C p xs).1, .int .i64 (plR r N C p xs).2]) ∧ Below w.heap.size w w' := by
  cases hv : validB r N C
  · rw [plR, hv]; exact plays_bad r an ac cn cc N C p a ca xs w hN hC hv
  · obtain ⟨R, rfl, hw⟩ := Vw.of_valid hv
    rw [plR, hv, if_pos rfl, Int.toNat_natCast]
    exact plays_good R an ac cn cc N C p a ca xs w hN hC hX hw
theorem rplays_any (r : Int) (an ac : Option Addr) (cn cc : Nat) (N C : List Int) (p : Int) (a : Option Addr) (ca : Nat) (xs : List Int) (w : World) (hN : Ints w an N) (hC : Ints w ac C) (hX : Ints w a xs) :
    Calls Try.prog 24 #[.agg #[.int .i64 r, .slice an N.length cn, .slice ac C.length cc], .int .i64 p, .slice a xs.length ca] w fun e w' => e = .returned (.tuple #[.int .i64 (plR r N C p xs).1, .int .i64 (plR r N C p xs).2]) ∧ Below w.heap.size w w' := by
  cases hv : validB r N C
  · rw [plR, hv]; exact rplays_bad r an ac cn cc N C p a ca xs w hN hC hv
  · obtain ⟨R, rfl, hw⟩ := Vw.of_valid hv
    rw [plR, hv, if_pos rfl, Int.toNat_natCast, plV, plE]
    cases ho : okPlays R C p xs
    · exact rplays_arg R an ac cn cc N C p a ca xs w hN hC hX hw ho
    · have ho2 := ho
      rw [okPlays_k, Bool.and_eq_true, inR_iff] at ho2
      obtain ⟨q, rfl⟩ := Int.eq_ofNat_of_zero_le ho2.1.1
      exact rplays_ok R an ac cn cc N C q a ca xs w hN hC hX hw (by omega) ho2.2
end Go.Proofs.Ytmkmnedojgigoaa
