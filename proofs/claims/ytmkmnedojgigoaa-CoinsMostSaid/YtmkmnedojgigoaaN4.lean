import Derived.Test.YtmkmnedojgigoaaL2
import Derived.Test.YtmkmnedojgigoaaA9
import Derived.Test.YtmkmnedojgigoaaM1
namespace Go.Proofs.Ytmkmnedojgigoaa
open Go.RowKit

set_option maxRecDepth 100000 in
set_option maxHeartbeats 1000000 in
theorem act_kind (R : Nat) (an ac : Option Addr) (cn cc : Nat) (N C : List Int) (p c : Nat) (k : Nat) (w : World) (hN : Ints w an N) (hC : Ints w ac C) (hv : Vw R N C) (hp : p < R) (hc : c ≤ 1000000) (hlt : k < C.length) :
    Calls Try.prog 66 #[.agg #[.int .i64 (R : Int), .slice an N.length cn, .slice ac C.length cc], .agg #[.int .i64 p, .int .i64 c], .int .i64 k] w fun e w' => e = .returned (.tuple #[.agg #[.int .i64 ((p + cw C k) % R : Nat), .int .i64 (c + gv R N p (cw C k) : Nat)], .bool false]) ∧ Below w.heap.size w w' := by
  have r2 := hv.r2
  have c4 := hv.c4
  obtain ⟨q0, q1, q2⟩ := hv.coin hlt
  have hg := gv_le hv p (cw C k)
  obtain ⟨W, hW, hb, hs, x0, x1, x2⟩ := boxes3 w #[.int .i64 (R : Int), .slice an N.length cn, .slice ac C.length cc] 24 #[.int .i64 p, .int .i64 c] 26 #[.int .i64 0, .int .i64 0] 26
  have Hs := hid hs; clear hs
  have hN1 := hN.below hb (Nat.le_refl _); have hC1 := hC.below hb (Nat.le_refl _)
  obtain ⟨bc, offc, y, rfl, hbc, hcc, _, _, hy, _⟩ := hC1.at hlt
  have hye : y = (cw C k : Int) := by have := hy.out; rw [q0] at this; simpa using this.symm
  subst hye
  clear hy q0
  have hkI : (k : Int) < (C.length : Int) := by omega
  have hk0 : (0 : Int) ≤ (k : Int) := by omega
  obtain ⟨q, hq⟩ : ∃ q, q = (p + cw C k) % R := ⟨_, rfl⟩
  obtain ⟨G, hG⟩ : ∃ G, G = gv R N p (cw C k) := ⟨_, rfl⟩
  rw [← hq, ← hG]
  rw [← hG] at hg
  have hpu : ∀ t : Ext W, Calls Try.prog 72 #[.agg #[.int .i64 (R : Int), .slice an N.length cn, .slice (some ⟨bc, offc, none⟩) C.length cc], .int .i64 p, .int .i64 (cw C k : Nat)] t.w fun e w' => e = .returned (.tuple #[.int .i64 q, .int .i64 G]) ∧ Below t.w.heap.size t.w w' := fun t => by
    rw [hG, hq]
    exact put_any R an _ cn cc N C p (cw C k) t.w (hN1.below t.below (Nat.le_refl _)) hv hp (by omega)
  clear hG hq hN1 hC1
  generalize cw C k = v at *
  have d0 := x0.ext 0 rfl; have d1 := x0.ext 1 rfl; have d2 := x0.ext 2 rfl
  have e0 := x1.ext 0 rfl; have e1 := x1.ext 1 rfl
  have f0 := Ext.cell hcc
  go_enter Try.func66, Try.ntmps66
  go_wp2_with fail
  refine wp_region_ext_lit (by kernel_rfl) (by kernel_rfl) ?_
  repeat (quiet_step (first | (go_at_call 72; exact quiet_ext (hpu _))))
  refine wpQuiet_nil ?_
  intro _ hw'
  obtain ⟨t, rfl⟩ := hw'
  have y2 := x2.below t.below
  have y1 := x1.below t.below
  have hb' := hb.trans (t.below.mono hb.size)
  clear hpu d0 d1 d2 e0 e1 f0 hW
  generalize t.w = W2 at *
  clear x0 x1 x2
  have g0 := y2.cell 0 rfl; have g1 := y2.cell 1 rfl; have h0 := y2.free 0; have h1 := y2.free 1; have e0 := y1.cell 0 rfl; have e1 := y1.cell 1 rfl
  go_wp2
  refine bodyPost_ret (v := .tuple #[.agg #[.int .i64 q, .int .i64 (c + G : Nat)], .bool false]) ?_ rfl ⟨rfl, ?_⟩
  · simp [results, Try.results66, go_sem, g0, g1]
  · exact (hb'.setCell (by simp; omega) _).setCell (by simp; omega) _

set_option maxRecDepth 100000 in
set_option maxHeartbeats 1000000 in
theorem act_sel0 (r : Int) (an ac : Option Addr) (cn cc : Nat) (N C : List Int) (p : Nat) (w : World) :
    Calls Try.prog 66 #[.agg #[.int .i64 r, .slice an N.length cn, .slice ac C.length cc], .agg #[.int .i64 p, .int .i64 0], .int .i64 (-1)] w fun e w' => e = .returned (.tuple #[.agg #[.int .i64 p, .int .i64 0], .bool false]) ∧ Below w.heap.size w w' := by
  go_enter Try.func66, Try.ntmps66
  go_wp2
  refine bodyPost_ret (v := .tuple #[.agg #[.int .i64 p, .int .i64 0], .bool false]) (by simp [results, Try.results66, go_sem]) rfl ⟨rfl, ?_⟩
  (repeat (first | with_reducible assumption | with_reducible refine Below.alloc ?_ (by simp; try omega) _ | with_reducible refine Below.setCell ?_ (by simp; try omega) _ | with_reducible refine below_drewN ?_ _ | with_reducible exact Below.refl _ _))

set_option maxRecDepth 100000 in
set_option maxHeartbeats 1000000 in
theorem act_sel (r : Int) (an ac : Option Addr) (cn cc : Nat) (N C : List Int) (p c : Nat) (w : World) (h0 : c ≠ 0) (hc : c ≤ 1000000) :
    Calls Try.prog 66 #[.agg #[.int .i64 r, .slice an N.length cn, .slice ac C.length cc], .agg #[.int .i64 p, .int .i64 c], .int .i64 (-1)] w fun e w' => e = .returned (.tuple #[.agg #[.int .i64 0, .int .i64 (c - 1 : Nat)], .bool true]) ∧ Below w.heap.size w w' := by
  have h1 : ((c : Int) == 0) = false := by simp; omega
  have h2 : 1 ≤ c := by omega
  clear h0
  go_enter Try.func66, Try.ntmps66
  go_wp2
  refine bodyPost_ret (v := .tuple #[.agg #[.int .i64 0, .int .i64 (c - 1 : Nat)], .bool true]) ?_ rfl ⟨rfl, ?_⟩
  · simp [results, Try.results66, go_sem]; omega
  · (repeat (first | with_reducible assumption | with_reducible refine Below.alloc ?_ (by simp; try omega) _ | with_reducible refine Below.setCell ?_ (by simp; try omega) _ | with_reducible refine below_drewN ?_ _ | with_reducible exact Below.refl _ _))

theorem act_any (R : Nat) (an ac : Option Addr) (cn cc : Nat) (N C : List Int) (s : St) (a : Int) (w : World) (hN : Ints w an N) (hC : Ints w ac C) (hv : Vw R N C) (hp : s.p < R) (hc : s.c ≤ 1000000) (ha : isActB C a = true) :
    Calls Try.prog 66 #[.agg #[.int .i64 (R : Int), .slice an N.length cn, .slice ac C.length cc], .agg #[.int .i64 s.p, .int .i64 s.c], .int .i64 a] w fun e w' => e = .returned (.tuple #[.agg #[.int .i64 (act R N C s a).1.p, .int .i64 (act R N C s a).1.c], .bool (act R N C s a).2]) ∧ Below w.heap.size w w' := by
  by_cases h : a = -1
  · subst h
    by_cases h0 : s.c = 0
    · have e : act R N C s (-1) = (s, false) := by simp [act, h0]
      rw [e]
      have := act_sel0 (R : Int) an ac cn cc N C s.p w
      simpa [h0] using this
    · have e : act R N C s (-1) = (⟨0, s.c - 1⟩, true) := by simp [act, h0]
      rw [e]
      exact act_sel (R : Int) an ac cn cc N C s.p s.c w h0 hc
  · have hkk : isKindB C a = true := by
      simp only [isActB, Bool.or_eq_true, beq_iff_eq] at ha
      exact ha.resolve_left h
    obtain ⟨n, rfl, hn⟩ := kind_nat hkk
    have e : act R N C s (n : Int) = (⟨(s.p + cw C n) % R, s.c + gv R N s.p (cw C n)⟩, false) := by simp [act, h]
    rw [e]
    exact act_kind R an ac cn cc N C s.p s.c n w hN hC hv hp hc hn
end Go.Proofs.Ytmkmnedojgigoaa
namespace Go.Proofs.Ytmkmnedojgigoaa
open Go.RowKit

set_option maxRecDepth 100000 in
set_option maxHeartbeats 1000000 in
theorem worthR_any (R : Nat) (an ac : Option Addr) (cn cc : Nat) (N C : List Int) (a : Option Addr) (ca : Nat) (xs : List Int) (w : World) (_hN : Ints w an N) (hC : Ints w ac C) (hX : Ints w a xs) (hv : Vw R N C) (hl : xs.length ≤ 20) (hx : xs.all (isKindB C) = true) :
    Calls Try.prog 73 #[.agg #[.int .i64 (R : Int), .slice an N.length cn, .slice ac C.length cc], .slice a xs.length ca] w fun e w' => e = .returned (.int .i64 (tot C xs : Nat)) ∧ Below w.heap.size w w' := by
  obtain ⟨W, hW, hb, hs, x0⟩ := boxes1 w #[.int .i64 (R : Int), .slice an N.length cn, .slice ac C.length cc] 24
  clear hs
  replace hX := hX.below hb (Nat.le_refl _); replace hC := hC.below hb (Nat.le_refl _)
  go_enter Try.func73, Try.ntmps73
  go_wp2
  clear hW
  go_loopw [5, 6] (fun s5 s6 wr => ∃ (k q : Nat), k ≤ xs.length ∧ s6 = .int .i64 k ∧ s5 = .int .i64 q ∧ q ≤ 100 * k ∧ Qd W wr ∧ tot C xs = q + tot C (xs.drop k) ∧ (xs.drop k).all (isKindB C) = true) (fun _ s6 _ => xs.length - (intOf s6).toNat)
  case atStart => exact ⟨0, 0, Nat.zero_le _, rfl, rfl, by omega, Qd.refl _, by simp, hx⟩
  case round =>
    obtain ⟨k, q, hk', rfl, rfl, hq, hqd, hn, ha⟩ := hrel
    have Hn := hid hn; clear hn
    replace hX := hX.qd hqd; replace hC := hC.qd hqd
    have x1 := x0.below (hqd.below _)
    have c0 := x1.cell 0 rfl; have c1 := x1.cell 1 rfl; have c2 := x1.cell 2 rfl
    clear hx
    by_cases hlt : k < xs.length
    · obtain ⟨b, off, x, rfl, hbs, hc, _, _, hx, hd⟩ := hX.at hlt
      rw [hd.out, List.all_cons, Bool.and_eq_true] at ha
      obtain ⟨n, rfl, hn⟩ := kind_nat ha.1
      obtain ⟨bc, offc, y, rfl, hbc, hcc, _, _, hy, _⟩ := hC.at hn
      have hco := hv.coin hn
      have hye : y = (cw C n : Int) := by have := hy.out; rw [hco.1] at this; simpa using this.symm
      subst hye
      have h1 := hco.2
      have Ha := hid ha.2
      obtain ⟨v, hve⟩ : ∃ v, v = cw C n := ⟨_, rfl⟩
      rw [← hve] at hcc h1
      have Hv := hid hve
      clear ha hco hy hx hve
      have hkI : (k : Int) < (xs.length : Int) := by omega
      have hk0 : (0 : Int) ≤ (k : Int) := by omega
      have hnI : (n : Int) < (C.length : Int) := by omega
      have hn0 : (0 : Int) ≤ (n : Int) := by omega
      have hm : IntKind.i64.wrap ((q : Int) + (v : Int)) = (q : Int) + (v : Int) := IntWalk.i64_in _ (by omega)
      have Hd := hid hd.out
      clear hd
      go_wp2
      go_quiet (fail)
      clear hm
      go_wp2
      go_roundw
      case rel => exact ⟨k + 1, q + v, by omega, by go_num, by go_num, by omega, hqd.drewN _, by rw [Hn.out, Hd.out, tot_cons, Int.toNat_natCast, ← Hv.out]; omega, Ha.out⟩
      case measure => simp [intOf]; omega
    · go_wp2
      go_ret
      exact ⟨ret_int (by rw [Hn.out, drop_end hk' hlt]; simp [tot]), hb.trans (hqd.below _ |>.mono hb.size)⟩

set_option maxRecDepth 100000 in
set_option maxHeartbeats 1000000 in
theorem rplays_bad (r : Int) (an ac : Option Addr) (cn cc : Nat) (N C : List Int) (p : Int) (a : Option Addr) (ca : Nat) (xs : List Int) (w : World) (hN : Ints w an N) (hC : Ints w ac C) (hv : validB r N C = false) :
    Calls Try.prog 24 #[.agg #[.int .i64 r, .slice an N.length cn, .slice ac C.length cc], .int .i64 p, .slice a xs.length ca] w fun e w' => e = .returned (.tuple #[.int .i64 0, .int .i64 10]) ∧ Below w.heap.size w w' := by
  have hk : chk r N C = 10 := by simp [chk, hv]
  obtain ⟨W, hW, hb, hs, x0⟩ := boxes1 w #[.int .i64 r, .slice an N.length cn, .slice ac C.length cc] 24
  clear hs
  replace hN := hN.below hb (Nat.le_refl _); replace hC := hC.below hb (Nat.le_refl _)
  have c0 := x0.cell 0 rfl; have c1 := x0.cell 1 rfl; have c2 := x0.cell 2 rfl
  go_enter Try.func24, Try.ntmps24
  go_wp2_with fail
  refine (refCheck_any _ _ _ _ _ _ _ _ hN hC).mono ?_
  rintro e W1 ⟨rfl, hb1⟩
  rw [hk]
  replace hb := hb.trans (hb1.mono hb.size); clear hb1
  go_wp2
  go_ret2
  exact ⟨rfl, hb⟩

theorem okPlays_k (R : Nat) (C : List Int) (p : Int) (xs : List Int) : okPlays R C p xs = (inR 0 p (R - 1) && kindsB C 0 xs) := by
  unfold okPlays kindsB isKindB
  rw [Bool.and_comm (decide _)]
  congr 2
  rw [Bool.eq_iff_iff]; simp; omega

set_option maxRecDepth 100000 in
set_option maxHeartbeats 1000000 in
theorem rplays_arg (R : Nat) (an ac : Option Addr) (cn cc : Nat) (N C : List Int) (p : Int) (a : Option Addr) (ca : Nat) (xs : List Int) (w : World) (hN : Ints w an N) (hC : Ints w ac C) (hX : Ints w a xs) (hv : Vw R N C) (ho : okPlays R C p xs = false) :
    Calls Try.prog 24 #[.agg #[.int .i64 (R : Int), .slice an N.length cn, .slice ac C.length cc], .int .i64 p, .slice a xs.length ca] w fun e w' => e = .returned (.tuple #[.int .i64 0, .int .i64 1]) ∧ Below w.heap.size w w' := by
  have hk : chk (R : Int) N C = 0 := by simp [chk, hv.valid]
  rw [okPlays_k] at ho
  obtain ⟨W, hW, hb, hs, x0⟩ := boxes1 w #[.int .i64 (R : Int), .slice an N.length cn, .slice ac C.length cc] 24
  clear hs
  replace hN := hN.below hb (Nat.le_refl _); replace hC := hC.below hb (Nat.le_refl _); replace hX := hX.below hb (Nat.le_refl _)
  have c0 := x0.cell 0 rfl; have c1 := x0.cell 1 rfl; have c2 := x0.cell 2 rfl
  cases hp : inR 0 p ((R : Int) - 1)
  · clear ho
    go_enter Try.func24, Try.ntmps24
    go_wp2_with fail
    refine (refCheck_any _ _ _ _ _ _ _ _ hN hC).mono ?_
    rintro e W1 ⟨rfl, hb1⟩
    rw [hk]
    clear hW
    replace hC := hC.below hb1 (Nat.le_refl _); replace hX := hX.below hb1 (Nat.le_refl _); (try clear c0 c1 c2); replace x0 := x0.below hb1; have c0 := x0.cell 0 rfl; have c1 := x0.cell 1 rfl; have c2 := x0.cell 2 rfl; replace hb := hb.trans (hb1.mono hb.size); clear hb1
    go_wp2_with fail
    refine (rIsPlace_any _ _ _ _ _ _ _ p _ hv).mono ?_
    rintro e W2 ⟨rfl, hb1⟩
    rw [hp]
    replace hb := hb.trans (hb1.mono hb.size); clear hb1
    clear x0 c0 c1 c2
    go_wp2
    go_ret2
    exact ⟨rfl, hb⟩
  · have h2 : kindsB C 0 xs = false := by simpa [hp] using ho
    clear ho
    go_enter Try.func24, Try.ntmps24
    go_wp2_with fail
    refine (refCheck_any _ _ _ _ _ _ _ _ hN hC).mono ?_
    rintro e W1 ⟨rfl, hb1⟩
    rw [hk]
    clear hW
    replace hC := hC.below hb1 (Nat.le_refl _); replace hX := hX.below hb1 (Nat.le_refl _); (try clear c0 c1 c2); replace x0 := x0.below hb1; have c0 := x0.cell 0 rfl; have c1 := x0.cell 1 rfl; have c2 := x0.cell 2 rfl; replace hb := hb.trans (hb1.mono hb.size); clear hb1
    go_wp2_with fail
    refine (rIsPlace_any _ _ _ _ _ _ _ p _ hv).mono ?_
    rintro e W2 ⟨rfl, hb1⟩
    rw [hp]
    replace hC := hC.below hb1 (Nat.le_refl _); replace hX := hX.below hb1 (Nat.le_refl _); (try clear c0 c1 c2); replace x0 := x0.below hb1; have c0 := x0.cell 0 rfl; have c1 := x0.cell 1 rfl; have c2 := x0.cell 2 rfl; replace hb := hb.trans (hb1.mono hb.size); clear hb1
    go_wp2_with fail
    refine (areKinds_any _ _ _ _ _ _ _ a ca xs 0 _ hC hX).mono ?_
    rintro e W2 ⟨rfl, hb1⟩
    rw [h2]
    replace hb := hb.trans (hb1.mono hb.size); clear hb1
    clear x0 c0 c1 c2
    go_wp2
    go_ret2
    exact ⟨rfl, hb⟩

set_option maxRecDepth 100000 in
set_option maxHeartbeats 1000000 in
theorem rplays_ok (R : Nat) (an ac : Option Addr) (cn cc : Nat) (N C : List Int) (p : Nat) (a : Option Addr) (ca : Nat) (xs : List Int) (w : World) (hN : Ints w an N) (hC : Ints w ac C) (hX : Ints w a xs) (hv : Vw R N C) (hp : p < R) (hk2 : kindsB C 0 xs = true) :
    Calls Try.prog 24 #[.agg #[.int .i64 (R : Int), .slice an N.length cn, .slice ac C.length cc], .int .i64 p, .slice a xs.length ca] w fun e w' => e = .returned (.tuple #[.int .i64 (gv R N p (tot C xs) : Nat), .int .i64 0]) ∧ Below w.heap.size w w' := by
  have hk : chk (R : Int) N C = 0 := by simp [chk, hv.valid]
  have hpB : inR 0 (p : Int) ((R : Int) - 1) = true := inR_iff.2 (by omega)
  obtain ⟨hkk, hkl⟩ := kinds_of hk2
  have htl := tot_le hv xs hkk
  have hN0 := hN; have hC0 := hC; have hX0 := hX
  obtain ⟨W, hW, hb, hs, x0⟩ := boxes1 w #[.int .i64 (R : Int), .slice an N.length cn, .slice ac C.length cc] 24
  clear hs hN hC hX
  have c0 := x0.cell 0 rfl; have c1 := x0.cell 1 rfl; have c2 := x0.cell 2 rfl
  go_enter Try.func24, Try.ntmps24
  go_wp2_with fail
  refine (refCheck_any _ _ _ _ _ _ _ _ (hN0.below hb (Nat.le_refl _)) (hC0.below hb (Nat.le_refl _))).mono ?_
  rintro e W1 ⟨rfl, hb1⟩
  rw [hk]
  clear hW
  (try clear c0 c1 c2); replace x0 := x0.below hb1; have c0 := x0.cell 0 rfl; have c1 := x0.cell 1 rfl; have c2 := x0.cell 2 rfl; replace hb := hb.trans (hb1.mono hb.size); clear hb1
  go_wp2_with fail
  refine (rIsPlace_any _ _ _ _ _ _ _ p _ hv).mono ?_
  rintro e W2 ⟨rfl, hb1⟩
  rw [hpB]
  (try clear c0 c1 c2); replace x0 := x0.below hb1; have c0 := x0.cell 0 rfl; have c1 := x0.cell 1 rfl; have c2 := x0.cell 2 rfl; replace hb := hb.trans (hb1.mono hb.size); clear hb1
  go_wp2_with fail
  refine (areKinds_any _ _ _ _ _ _ _ a ca xs 0 _ (hC0.below hb (Nat.le_refl _)) (hX0.below hb (Nat.le_refl _))).mono ?_
  rintro e W2 ⟨rfl, hb1⟩
  rw [hk2]
  replace x0 := x0.below hb1; replace hb := hb.trans (hb1.mono hb.size); clear hb1
  clear c0 c1 c2
  obtain ⟨T, hT⟩ : ∃ T, T = tot C xs := ⟨_, rfl⟩
  obtain ⟨G, hG⟩ : ∃ G, G = gv R N p (tot C xs) := ⟨_, rfl⟩
  obtain ⟨q, hq⟩ : ∃ q, q = (p + tot C xs) % R := ⟨_, rfl⟩
  have wo : ∀ W : World, Ints W an N → Ints W ac C → Ints W a xs → Calls Try.prog 73 #[.agg #[.int .i64 (R : Int), .slice an N.length cn, .slice ac C.length cc], .slice a xs.length ca] W fun e w' => e = .returned (.int .i64 T) ∧ Below W.heap.size W w' := fun W h1 h2 h3 => by
    rw [hT]; exact worthR_any R an ac cn cc N C a ca xs W h1 h2 h3 hv hkl hkk
  have pu : ∀ W : World, Ints W an N → Calls Try.prog 72 #[.agg #[.int .i64 (R : Int), .slice an N.length cn, .slice ac C.length cc], .int .i64 p, .int .i64 T] W fun e w' => e = .returned (.tuple #[.int .i64 q, .int .i64 G]) ∧ Below W.heap.size W w' := fun W h1 => by
    rw [hT, hG, hq]; exact put_any R an ac cn cc N C p (tot C xs) W h1 hv hp (by omega)
  have HG := hid hG
  clear hT hG hq hk2 hkk hk hpB
  have d0 := x0.ext 0 rfl; have d1 := x0.ext 1 rfl; have d2 := x0.ext 2 rfl
  have hN1 := hN0.below hb (Nat.le_refl _); have hC1 := hC0.below hb (Nat.le_refl _); have hX1 := hX0.below hb (Nat.le_refl _)
  go_wp2_with fail
  refine wp_region_ext_lit (by kernel_rfl) (by kernel_rfl) ?_
  repeat (quiet_step (first | (go_at_call 73; exact quiet_ext (wo _ (hN1.below (Ext.below _) (Nat.le_refl _)) (hC1.below (Ext.below _) (Nat.le_refl _)) (hX1.below (Ext.below _) (Nat.le_refl _)))) | (go_at_call 72; exact quiet_ext (pu _ (hN1.below (Ext.below _) (Nat.le_refl _))))))
  refine wpQuiet_nil ?_
  intro _ hw'
  obtain ⟨t, rfl⟩ := hw'
  replace hb := hb.trans (t.below.mono hb.size)
  clear wo pu d0 d1 d2
  go_wp2
  go_ret2
  exact ⟨by rw [← HG.out]; rfl, hb⟩

/-- What Plays answers. -/
def plR (r : Int) (N C : List Int) (p : Int) (xs : List Int) : Int × Int := if validB r N C then (plV r.toNat N C p xs, plE r.toNat C p xs) else (0, 10)
theorem plays_any (r : Int) (an ac : Option Addr) (cn cc : Nat) (N C : List Int) (p : Int) (a : Option Addr) (ca : Nat) (xs : List Int) (w : World) (hN : Ints w an N) (hC : Ints w ac C) (hX : Ints w a xs) :
    Calls Try.prog 23 #[.agg #[.int .i64 r, .slice an N.length cn, .slice ac C.length cc], .int .i64 p, .slice a xs.length ca] w fun e w' => e = .returned (.tuple #[.int .i64 (plR r N C p xs).1, .int .i64 (plR r N C p xs).2]) ∧ Below w.heap.size w w' := by
  cases hv : validB r N C
  · rw [plR, hv]; exact plays_bad r an ac cn cc N C p a ca xs w hN hC hv
  · obtain ⟨R, rfl, hw⟩ := Vw.of_valid hv
    rw [plR, hv, if_pos rfl, Int.toNat_natCast]
    exact plays_good R an ac cn cc N C p a ca xs w hN hC hX hw
theorem rplays_any (r : Int) (an ac : Option Addr) (cn cc : Nat) (N C : List Int) (p : Int) (a : Option Addr) (ca : Nat) (xs : List Int) (w : World) (hN : Ints w an N) (hC : Ints w ac C) (hX : Ints w a xs) :
    Calls Try.prog 24 #[.agg #[.int .i64 r, .slice an N.length cn, .slice ac C.length cc], .int .i64 p, .slice a xs.length ca] w fun e w' => e = .returned (.tuple #[.int .i64 (plR r N C p xs).1, .int .i64 (plR r N C p xs).2]) ∧ Below w.heap.size w w' := by
  cases hv : validB r N C
  · rw [plR, hv]; exact rplays_bad r an ac cn cc N C p a ca xs w hN hC hv
  · obtain ⟨R, rfl, hw⟩ := Vw.of_valid hv
    rw [plR, hv, if_pos rfl, Int.toNat_natCast, plV, plE]
    cases ho : okPlays R C p xs
    · exact rplays_arg R an ac cn cc N C p a ca xs w hN hC hX hw ho
    · have ho2 := ho
      rw [okPlays_k, Bool.and_eq_true, inR_iff] at ho2
      obtain ⟨q, rfl⟩ := Int.eq_ofNat_of_zero_le ho2.1.1
      exact rplays_ok R an ac cn cc N C q a ca xs w hN hC hX hw (by omega) ho2.2
end Go.Proofs.Ytmkmnedojgigoaa
namespace Go.Proofs.Ytmkmnedojgigoaa
open Go.RowKit

set_option maxRecDepth 100000 in
set_option maxHeartbeats 1000000 in
theorem isStandR_any (R : Nat) (an ac : Option Addr) (cn cc : Nat) (N C : List Int) (p c : Int) (w : World) (hv : Vw R N C) :
    Calls Try.prog 65 #[.agg #[.int .i64 (R : Int), .slice an N.length cn, .slice ac C.length cc], .agg #[.int .i64 p, .int .i64 c]] w fun e w' => e = .returned (.bool (inR 0 p (R - 1) && inR 0 c 20)) ∧ Below w.heap.size w w' := by
  obtain ⟨W, hW, hb, hs, x0, x1⟩ := boxes2 w #[.int .i64 (R : Int), .slice an N.length cn, .slice ac C.length cc] 24 #[.int .i64 p, .int .i64 c] 26
  clear hs
  have c0 := x0.cell 0 rfl; have c1 := x0.cell 1 rfl; have c2 := x0.cell 2 rfl; have d0 := x1.cell 0 rfl; have d1 := x1.cell 1 rfl
  cases hp : inR 0 p (R - 1)
  all_goals
    go_enter Try.func65, Try.ntmps65
    go_wp2_with fail
    refine (rIsPlace_any _ _ _ _ _ _ _ p W hv).mono ?_
    rintro e W1 ⟨rfl, hb1⟩
    rw [hp]
    (try clear d0 d1); replace x1 := x1.below hb1; have d0 := x1.cell 0 rfl; have d1 := x1.cell 1 rfl; replace hb := hb.trans (hb1.mono hb.size); clear hb1
    go_wp2_with (first | (go_at_call 58; refine (within_any _ _ _ _).mono ?_; rintro e w' ⟨rfl, rfl⟩))
    go_ret
    exact ⟨ret_bool (by simp), hb⟩

set_option maxRecDepth 100000 in
set_option maxHeartbeats 1000000 in
theorem rrun_bad (r : Int) (an ac : Option Addr) (cn cc : Nat) (N C : List Int) (p c : Int) (a : Option Addr) (ca : Nat) (xs : List Int) (w : World) (hN : Ints w an N) (hC : Ints w ac C) (hv : validB r N C = false) :
    Calls Try.prog 22 #[.agg #[.int .i64 r, .slice an N.length cn, .slice ac C.length cc], .agg #[.int .i64 p, .int .i64 c], .slice a xs.length ca] w fun e w' => e = .returned (.tuple #[.agg #[.int .i64 0, .int .i64 0], .int .i64 0, .int .i64 10]) ∧ Below w.heap.size w w' := by
  have hk : chk r N C = 10 := by simp [chk, hv]
  obtain ⟨W, hW, hb, hs, x0, x1, x2⟩ := boxes3 w #[.int .i64 r, .slice an N.length cn, .slice ac C.length cc] 24 #[.int .i64 p, .int .i64 c] 26 #[.int .i64 0, .int .i64 0] 26
  have Hs := hid hs; clear hs
  replace hN := hN.below hb (Nat.le_refl _); replace hC := hC.below hb (Nat.le_refl _)
  have c0 := x0.cell 0 rfl; have c1 := x0.cell 1 rfl; have c2 := x0.cell 2 rfl
  go_enter Try.func22, Try.ntmps22
  go_wp2_with fail
  refine (refCheck_any _ _ _ _ _ _ _ _ hN hC).mono ?_
  rintro e W1 ⟨rfl, hb1⟩
  rw [hk]
  clear hW
  (try clear g0 g1); replace x2 := x2.below hb1; have g0 := x2.cell 0 rfl; have g1 := x2.cell 1 rfl; (try clear h0 h1); have h0 := x2.free 0; have h1 := x2.free 1; replace hb := hb.trans (hb1.mono hb.size); clear hb1
  go_wp2
  refine bodyPost_ret (v := .tuple #[.agg #[.int .i64 0, .int .i64 0], .int .i64 0, .int .i64 10]) ?_ rfl ⟨rfl, ?_⟩
  · simp [results, Try.results22, go_sem, g0, g1]
  · exact (hb.setCell (by simp; omega) _).setCell (by simp; omega) _

theorem okRun_k (R : Nat) (C : List Int) (p c : Int) (xs : List Int) : okRun R C p c xs = ((inR 0 p (R - 1) && inR 0 c 20) && kindsB C (-1) xs) := by
  unfold okRun kindsB
  rw [Bool.and_comm (decide _)]
  congr 2
  · congr 1
    funext x
    rw [Bool.eq_iff_iff]
    simp only [isActB, Bool.or_eq_true, beq_iff_eq, inR_iff]
    omega
  · rw [Bool.eq_iff_iff]; simp; omega
set_option maxRecDepth 100000 in
set_option maxHeartbeats 1000000 in
theorem rrun_arg (R : Nat) (an ac : Option Addr) (cn cc : Nat) (N C : List Int) (p c : Int) (a : Option Addr) (ca : Nat) (xs : List Int) (w : World) (hN : Ints w an N) (hC : Ints w ac C) (hX : Ints w a xs) (hv : Vw R N C) (ho : okRun R C p c xs = false) :
    Calls Try.prog 22 #[.agg #[.int .i64 (R : Int), .slice an N.length cn, .slice ac C.length cc], .agg #[.int .i64 p, .int .i64 c], .slice a xs.length ca] w fun e w' => e = .returned (.tuple #[.agg #[.int .i64 0, .int .i64 0], .int .i64 0, .int .i64 1]) ∧ Below w.heap.size w w' := by
  have hk : chk (R : Int) N C = 0 := by simp [chk, hv.valid]
  rw [okRun_k] at ho
  obtain ⟨W, hW, hb, hs, x0, x1, x2⟩ := boxes3 w #[.int .i64 (R : Int), .slice an N.length cn, .slice ac C.length cc] 24 #[.int .i64 p, .int .i64 c] 26 #[.int .i64 0, .int .i64 0] 26
  have Hs := hid hs; clear hs
  replace hN := hN.below hb (Nat.le_refl _); replace hC := hC.below hb (Nat.le_refl _); replace hX := hX.below hb (Nat.le_refl _)
  have c0 := x0.cell 0 rfl; have c1 := x0.cell 1 rfl; have c2 := x0.cell 2 rfl; have d0 := x1.cell 0 rfl; have d1 := x1.cell 1 rfl
  cases hp : (inR 0 p ((R : Int) - 1) && inR 0 c 20)
  · clear ho
    go_enter Try.func22, Try.ntmps22
    go_wp2_with fail
    refine (refCheck_any _ _ _ _ _ _ _ _ hN hC).mono ?_
    rintro e W1 ⟨rfl, hb1⟩
    rw [hk]
    clear hW
    replace hC := hC.below hb1 (Nat.le_refl _); replace hX := hX.below hb1 (Nat.le_refl _); replace x2 := x2.below hb1; (try clear c0 c1 c2); replace x0 := x0.below hb1; have c0 := x0.cell 0 rfl; have c1 := x0.cell 1 rfl; have c2 := x0.cell 2 rfl; (try clear d0 d1); replace x1 := x1.below hb1; have d0 := x1.cell 0 rfl; have d1 := x1.cell 1 rfl; replace hb := hb.trans (hb1.mono hb.size); clear hb1
    go_wp2_with fail
    refine (isStandR_any _ _ _ _ _ _ _ p c _ hv).mono ?_
    rintro e W2 ⟨rfl, hb1⟩
    rw [hp]
    (try clear g0 g1); replace x2 := x2.below hb1; have g0 := x2.cell 0 rfl; have g1 := x2.cell 1 rfl; (try clear h0 h1); have h0 := x2.free 0; have h1 := x2.free 1; replace hb := hb.trans (hb1.mono hb.size); clear hb1
    clear x0 c0 c1 c2 x1 d0 d1
    go_wp2
    refine bodyPost_ret (v := .tuple #[.agg #[.int .i64 0, .int .i64 0], .int .i64 0, .int .i64 1]) ?_ rfl ⟨rfl, ?_⟩
    · simp [results, Try.results22, go_sem, g0, g1]
    · exact (hb.setCell (by simp; omega) _).setCell (by simp; omega) _
  · have h2 : kindsB C (-1) xs = false := by simpa [hp] using ho
    clear ho
    go_enter Try.func22, Try.ntmps22
    go_wp2_with fail
    refine (refCheck_any _ _ _ _ _ _ _ _ hN hC).mono ?_
    rintro e W1 ⟨rfl, hb1⟩
    rw [hk]
    clear hW
    replace hC := hC.below hb1 (Nat.le_refl _); replace hX := hX.below hb1 (Nat.le_refl _); replace x2 := x2.below hb1; (try clear c0 c1 c2); replace x0 := x0.below hb1; have c0 := x0.cell 0 rfl; have c1 := x0.cell 1 rfl; have c2 := x0.cell 2 rfl; (try clear d0 d1); replace x1 := x1.below hb1; have d0 := x1.cell 0 rfl; have d1 := x1.cell 1 rfl; replace hb := hb.trans (hb1.mono hb.size); clear hb1
    go_wp2_with fail
    refine (isStandR_any _ _ _ _ _ _ _ p c _ hv).mono ?_
    rintro e W2 ⟨rfl, hb1⟩
    rw [hp]
    replace hC := hC.below hb1 (Nat.le_refl _); replace hX := hX.below hb1 (Nat.le_refl _); replace x2 := x2.below hb1; (try clear c0 c1 c2); replace x0 := x0.below hb1; have c0 := x0.cell 0 rfl; have c1 := x0.cell 1 rfl; have c2 := x0.cell 2 rfl; (try clear d0 d1); replace x1 := x1.below hb1; have d0 := x1.cell 0 rfl; have d1 := x1.cell 1 rfl; replace hb := hb.trans (hb1.mono hb.size); clear hb1
    go_wp2_with fail
    refine (areKinds_any _ _ _ _ _ _ _ a ca xs (-1) _ hC hX).mono ?_
    rintro e W2 ⟨rfl, hb1⟩
    rw [h2]
    (try clear g0 g1); replace x2 := x2.below hb1; have g0 := x2.cell 0 rfl; have g1 := x2.cell 1 rfl; (try clear h0 h1); have h0 := x2.free 0; have h1 := x2.free 1; replace hb := hb.trans (hb1.mono hb.size); clear hb1
    clear x0 c0 c1 c2 x1 d0 d1
    go_wp2
    refine bodyPost_ret (v := .tuple #[.agg #[.int .i64 0, .int .i64 0], .int .i64 0, .int .i64 1]) ?_ rfl ⟨rfl, ?_⟩
    · simp [results, Try.results22, go_sem, g0, g1]
    · exact (hb.setCell (by simp; omega) _).setCell (by simp; omega) _

set_option maxRecDepth 100000 in
set_option maxHeartbeats 4000000 in
theorem rrun_ok (R : Nat) (an ac : Option Addr) (cn cc : Nat) (N C : List Int) (p c : Nat) (a : Option Addr) (ca : Nat) (xs : List Int) (w : World) (hN : Ints w an N) (hC : Ints w ac C) (hX : Ints w a xs) (hv : Vw R N C) (ho : okRun R C p c xs = true) :
    Calls Try.prog 22 #[.agg #[.int .i64 (R : Int), .slice an N.length cn, .slice ac C.length cc], .agg #[.int .i64 p, .int .i64 c], .slice a xs.length ca] w fun e w' => e = .returned (.tuple #[.agg #[.int .i64 (runL R N C ⟨p, c⟩ 0 xs).1.p, .int .i64 (runL R N C ⟨p, c⟩ 0 xs).1.c], .int .i64 (runL R N C ⟨p, c⟩ 0 xs).2, .int .i64 0]) ∧ Below w.heap.size w w' := by
  have hk : chk (R : Int) N C = 0 := by simp [chk, hv.valid]
  have ho2 := ho
  rw [okRun_k, Bool.and_eq_true] at ho2
  have hall : xs.all (isActB C) = true := by
    simp only [okRun, Bool.and_eq_true] at ho; exact ho.2.2
  have hlen : xs.length ≤ 20 := by
    simp only [okRun, Bool.and_eq_true, decide_eq_true_eq] at ho; exact ho.2.1
  have hpc := ho2.1
  rw [Bool.and_eq_true, inR_iff, inR_iff] at hpc
  have hpl : p < R := by omega
  have hcl : c ≤ 20 := by omega
  have h1 := ho2.1; have h2 := ho2.2
  clear ho ho2 hpc
  have hN0 := hN; have hC0 := hC; have hX0 := hX
  obtain ⟨W, hW, hb, hs, x0, x1, x2⟩ := boxes3 w #[.int .i64 (R : Int), .slice an N.length cn, .slice ac C.length cc] 24 #[.int .i64 p, .int .i64 c] 26 #[.int .i64 0, .int .i64 0] 26
  have Hs := hid hs; clear hs hN hC hX
  have c0 := x0.cell 0 rfl; have c1 := x0.cell 1 rfl; have c2 := x0.cell 2 rfl; have d0 := x1.cell 0 rfl; have d1 := x1.cell 1 rfl
  go_enter Try.func22, Try.ntmps22
  go_wp2_with fail
  refine (refCheck_any _ _ _ _ _ _ _ _ (hN0.below hb (Nat.le_refl _)) (hC0.below hb (Nat.le_refl _))).mono ?_
  rintro e W1 ⟨rfl, hb1⟩
  rw [hk]
  clear hW
  replace x2 := x2.below hb1; (try clear c0 c1 c2); replace x0 := x0.below hb1; have c0 := x0.cell 0 rfl; have c1 := x0.cell 1 rfl; have c2 := x0.cell 2 rfl; (try clear d0 d1); replace x1 := x1.below hb1; have d0 := x1.cell 0 rfl; have d1 := x1.cell 1 rfl; replace hb := hb.trans (hb1.mono hb.size); clear hb1
  go_wp2_with fail
  refine (isStandR_any _ _ _ _ _ _ _ p c _ hv).mono ?_
  rintro e W2 ⟨rfl, hb1⟩
  rw [h1]
  replace x2 := x2.below hb1; replace x1 := x1.below hb1; (try clear c0 c1 c2); replace x0 := x0.below hb1; have c0 := x0.cell 0 rfl; have c1 := x0.cell 1 rfl; have c2 := x0.cell 2 rfl; replace hb := hb.trans (hb1.mono hb.size); clear hb1
  clear d0 d1
  go_wp2_with fail
  refine (areKinds_any _ _ _ _ _ _ _ a ca xs (-1) _ (hC0.below hb (Nat.le_refl _)) (hX0.below hb (Nat.le_refl _))).mono ?_
  rintro e W3 ⟨rfl, hb1⟩
  rw [h2]
  replace x0 := x0.below hb1; replace x1 := x1.below hb1; replace x2 := x2.below hb1; replace hb := hb.trans (hb1.mono hb.size); clear hb1
  clear c0 c1 c2 h1 h2 hk
  go_wp2_with fail
  go_loopw [7, 10] (fun s7 s10 wr => ∃ (k : Nat) (s : St) (m : Nat), k ≤ xs.length ∧ s10 = .int .i64 k ∧ s7 = .int .i64 m ∧ s.p < R ∧ s.c ≤ 20 + 4000 * k ∧ m ≤ k ∧ runL R N C ⟨p, c⟩ 0 xs = runL R N C s m (xs.drop k) ∧ Below w.heap.size w wr ∧ Bx wr w.heap.size #[.int .i64 (R : Int), .slice an N.length cn, .slice ac C.length cc] 24 ∧ Bx wr (w.heap.size + 1) #[.int .i64 s.p, .int .i64 s.c] 26 ∧ Bx wr (w.heap.size + 1 + 1) #[.int .i64 0, .int .i64 0] 26) (fun _ s10 _ => xs.length - (intOf s10).toNat)
  case atStart => exact ⟨0, ⟨p, c⟩, 0, Nat.zero_le _, rfl, rfl, hpl, by show c ≤ _; omega, Nat.le_refl _, rfl, hb, x0, x1, x2⟩
  case round =>
    clear hb x0 x1 x2
    obtain ⟨k, s, m, hk', rfl, rfl, hsp, hsc, hmk, hn, hb, x0, x1, x2⟩ := hrel
    have Hn := hid hn; clear hn
    by_cases hlt : k < xs.length
    · obtain ⟨b, off, x, hae, hbs, hcx, _, _, hx, hd⟩ := (hX0.below hb (Nat.le_refl _)).at hlt
      have hbw : b < w.heap.size := by
        obtain ⟨b2, off2, hae2, hb2, _⟩ := hX0.2.2 k hlt
        rw [hae] at hae2; cases hae2; exact hb2
      subst hae
      have hact := List.all_eq_true.1 hall x (List.mem_of_getElem? hx.out)
      have hbd := act_bd (N := N) hv hact hsp
      have ac1 : ∀ W : World, Ints W an N → Ints W ac C → Calls Try.prog 66 #[.agg #[.int .i64 (R : Int), .slice an N.length cn, .slice ac C.length cc], .agg #[.int .i64 s.p, .int .i64 s.c], .int .i64 x] W fun e w' => e = .returned (.tuple #[.agg #[.int .i64 (act R N C s x).1.p, .int .i64 (act R N C s x).1.c], .bool (act R N C s x).2]) ∧ Below W.heap.size W w' := fun W h1 h2 =>
        act_any R an ac cn cc N C s x W h1 h2 hv hsp (by omega) hact
      have hr : runL R N C s m (xs.drop k) = runL R N C (act R N C s x).1 (if (act R N C s x).2 then m + 1 else m) (xs.drop (k + 1)) := by rw [hd.out]; rfl
      obtain ⟨⟨⟨p1, c1⟩, mb⟩, hst⟩ : ∃ t, t = act R N C s x := ⟨_, rfl⟩
      rw [← hst] at hbd ac1 hr
      have HR := hid hr
      obtain ⟨hp1l, hc1l⟩ := hbd
      dsimp only at hp1l hc1l ac1
      clear hr hst hact hx hd
      have hkI : (k : Int) < (xs.length : Int) := by omega
      have hk0 : (0 : Int) ≤ (k : Int) := by omega
      go_wp2_with fail
      replace x0 := x0.drew; replace x1 := x1.drew; replace x2 := x2.drew; replace hb := hb.drew
      replace hcx := Below.keep (Below.refl _ _).drew hcx
      refine wp_region_head 12 (fun w' => Bx w' w.heap.size #[.int .i64 (R : Int), .slice an N.length cn, .slice ac C.length cc] 24 ∧ Bx w' (w.heap.size + 1) #[.int .i64 s.p, .int .i64 s.c] 26 ∧ w'.cell? ⟨b, off + k, none⟩ = some (.int .i64 x)) (by kernel_rfl) rfl ?_
      generalize World.drew _ = Y0 at *
      refine HeadAt.take (i := 0) (.agg #[.int .i64 (R : Int), .slice an N.length cn, .slice ac C.length cc]) rfl (by kernel_rfl) (.inl ⟨rfl, fun w' z => ?_⟩) ⟨x0, x1, hcx⟩ ?_
      · (have y := z.1; have z0 := y.cell 0 rfl; have z1 := y.cell 1 rfl; have z2 := y.cell 2 rfl; simp [go_sem, z0, z1, z2])
      refine HeadAt.take (i := 1) (.agg #[.int .i64 s.p, .int .i64 s.c]) rfl (by kernel_rfl) (.inl ⟨rfl, fun w' z => ?_⟩) ⟨x0, x1, hcx⟩ ?_
      · (have y := z.2.1; have z0 := y.cell 0 rfl; have z1 := y.cell 1 rfl; simp [go_sem, z0, z1])
      refine HeadAt.take (i := 2) (.slice (some ⟨b, off, none⟩) xs.length ca) rfl (by kernel_rfl) (.inl ⟨rfl, fun _ _ => by simp [go_sem]⟩) ⟨x0, x1, hcx⟩ ?_
      refine HeadAt.take (i := 3) (.int .i64 k) rfl (by kernel_rfl) (.inl ⟨rfl, fun _ _ => by simp [go_sem]⟩) ⟨x0, x1, hcx⟩ ?_
      refine HeadAt.take (i := 4) (.pointer (some ⟨b, off + k, none⟩)) rfl (by kernel_rfl) (.inl ⟨rfl, fun w' z => ?_⟩) ⟨x0, x1, hcx⟩ ?_
      · simp [go_sem, hlt]
      refine HeadAt.take (i := 5) (.int .i64 x) rfl (by kernel_rfl) (.inl ⟨rfl, fun w' z => ?_⟩) ⟨x0, x1, hcx⟩ ?_
      · (have y := z.2.2; simp [go_sem, y])
      cases mb
      · refine HeadAt.two (i := 6) (j := 10) rfl rfl (by kernel_rfl) ?_ ?_
        · skip
          generalize hK : Upto _ _ = K0
          (try simp only [Act.put, List.getElem_toArray, List.getElem_cons_succ, List.getElem_cons_zero, List.setIfInBounds_toArray, List.set_cons_succ, List.set_cons_zero])
          go_wp2_with fail
          refine (ac1 _ (hN0.below hb (Nat.le_refl _)) (hC0.below hb (Nat.le_refl _))).mono ?_
          rintro e Y3 ⟨rfl, hb1⟩
          replace hcx := Below.keep hb1 hcx
          replace x0 := x0.below hb1; replace x1 := x1.below hb1; replace x2 := x2.below hb1; replace hb := hb.trans (hb1.mono hb.size); clear hb1
          go_wp2_with fail
          subst hK
          refine ⟨⟨x0, x1, hcx⟩, ?_⟩
          refine HeadAt.take (i := 7) (.tuple #[.agg #[.int .i64 p1, .int .i64 c1], .bool false]) rfl (by kernel_rfl) (.inl ⟨rfl, fun _ _ => by simp [go_sem]⟩) ⟨x0, x1, hcx⟩ ?_
          refine HeadAt.take (i := 8) (.agg #[.int .i64 p1, .int .i64 c1]) rfl (by kernel_rfl) (.inl ⟨rfl, fun _ _ => by simp [go_sem]⟩) ⟨x0, x1, hcx⟩ ?_
          refine HeadAt.take (i := 9) (.bool false) rfl (by kernel_rfl) (.inl ⟨rfl, fun _ _ => by simp [go_sem]⟩) ⟨x0, x1, hcx⟩ ?_
          refine HeadAt.one (i := 10) rfl (by kernel_rfl) ?_
          generalize hK : Upto _ _ = K0
          (try simp only [Act.put, List.getElem_toArray, List.getElem_cons_succ, List.getElem_cons_zero, List.setIfInBounds_toArray, List.set_cons_succ, List.set_cons_zero])
          have hb1 := below_one (w := Y3) (.cells #[.int .i64 0, .int .i64 0] 26)
          have xg := Bx.new Y3 #[.int .i64 0, .int .i64 0] 26
          have lg := x2.lt
          replace hcx := Below.keep hb1 hcx
          go_wp2_with fail
          replace x0 := x0.below hb1; replace x1 := x1.below hb1; replace x2 := x2.below hb1; replace hb := hb.trans (hb1.mono hb.size); clear hb1
          generalize Y3.alloc (.cells #[.int .i64 0, .int .i64 0] 26) = Y4 at *
          generalize Y3.heap.size = g at *
          subst hK
          refine ⟨⟨x0, x1, hcx⟩, ?_⟩
          refine HeadAt.one (i := 11) rfl (by kernel_rfl) ?_
          generalize hK : Upto _ _ = K0
          (try simp only [List.getElem_toArray, List.getElem_cons_succ, List.getElem_cons_zero])
          have g0 := xg.cell 0 rfl; have g1 := xg.cell 1 rfl
          have f0 := xg.free 0; have f1 := xg.free 1
          have hcg : ∀ v1 v2 : Value, ∃ Z, (Y4.setCell ⟨g, 0, none⟩ v1).setCell ⟨g, 1, none⟩ v2 = Z ∧ Bx Z g #[v1, v2] 26 ∧ Bx Z w.heap.size #[.int .i64 (R : Int), .slice an N.length cn, .slice ac C.length cc] 24 ∧ Bx Z (w.heap.size + 1) #[.int .i64 s.p, .int .i64 s.c] 26 ∧ Bx Z (w.heap.size + 1 + 1) #[.int .i64 0, .int .i64 0] 26 ∧ Below w.heap.size w Z ∧ Z.cell? ⟨b, off + k, none⟩ = some (.int .i64 x) := fun v1 v2 =>
            ⟨_, rfl, xg.set2 v1 v2, (x0.other (a := ⟨g, 0, none⟩) (by show w.heap.size ≠ g; omega) v1).other (a := ⟨g, 1, none⟩) (by show w.heap.size ≠ g; omega) v2, (x1.other (a := ⟨g, 0, none⟩) (by show w.heap.size + 1 ≠ g; omega) v1).other (a := ⟨g, 1, none⟩) (by show w.heap.size + 1 ≠ g; omega) v2, (x2.other (a := ⟨g, 0, none⟩) (by show w.heap.size + 1 + 1 ≠ g; omega) v1).other (a := ⟨g, 1, none⟩) (by show w.heap.size + 1 + 1 ≠ g; omega) v2, Below.store (Below.store hb (p := ⟨g, 0, none⟩) (by show w.heap.size ≤ g; omega) v1) (p := ⟨g, 1, none⟩) (by show w.heap.size ≤ g; omega) v2,
              by rw [World.cell?_setCell_other _ _ _ _ (fun e => by injection e with e; omega), World.cell?_setCell_other _ _ _ _ (fun e => by injection e with e; omega)]; exact hcx⟩
          obtain ⟨Z, hZ, xgp, x0p, x1p, x2p, hbp, hcxp⟩ := hcg (.int .i64 p1) (.int .i64 c1)
          clear hcg
          go_wp2_with fail
          subst hK
          refine ⟨⟨x0p, x1p, hcxp⟩, ?_⟩
          clear x0 x1 x2 xg hb hcx hZ g0 g1 f0 f1
          refine HeadAt.done (by kernel_rfl) ?_
          (try simp only [List.drop_succ_cons, List.drop_zero])
          have g0 := xgp.cell 0 rfl; have g1 := xgp.cell 1 rfl
          have d0 := x1p.cell 0 rfl; have d1 := x1p.cell 1 rfl
          have f0 := x1p.free 0; have f1 := x1p.free 1
          go_wp2_with fail
          refine NoPanic.normal ?_
          have hst : ∃ Y, (Z.setCell ⟨w.heap.size + 1, 0, none⟩ (.int .i64 p1)).setCell ⟨w.heap.size + 1, 1, none⟩ (.int .i64 c1) = Y ∧ Bx Y w.heap.size #[.int .i64 (R : Int), .slice an N.length cn, .slice ac C.length cc] 24 ∧ Bx Y (w.heap.size + 1) #[.int .i64 p1, .int .i64 c1] 26 ∧ Bx Y (w.heap.size + 1 + 1) #[.int .i64 0, .int .i64 0] 26 ∧ Below w.heap.size w Y :=
            ⟨_, rfl, (x0p.other (a := ⟨w.heap.size + 1, 0, none⟩) (by show w.heap.size ≠ w.heap.size + 1; omega) _).other (a := ⟨w.heap.size + 1, 1, none⟩) (by show w.heap.size ≠ w.heap.size + 1; omega) _, x1p.set2 _ _, (x2p.other (a := ⟨w.heap.size + 1, 0, none⟩) (by show w.heap.size + 1 + 1 ≠ w.heap.size + 1; omega) _).other (a := ⟨w.heap.size + 1, 1, none⟩) (by show w.heap.size + 1 + 1 ≠ w.heap.size + 1; omega) _, Below.store (Below.store hbp (p := ⟨w.heap.size + 1, 0, none⟩) (by show w.heap.size ≤ w.heap.size + 1; omega) _) (p := ⟨w.heap.size + 1, 1, none⟩) (by show w.heap.size ≤ w.heap.size + 1; omega) _⟩
          obtain ⟨Y, hY, y0, y1, y2, hbY⟩ := hst
          go_wp2_with fail
          clear hY
          go_roundw
          case rel => exact ⟨k + 1, ⟨p1, c1⟩, (m), by omega, by go_num, rfl, hp1l, by show c1 ≤ _; omega, by omega, by rw [Hn.out, HR.out]; rfl, hbY, y0, y1, y2⟩
          case measure => simp [intOf]; omega
        · skip
          generalize hK : Upto _ _ = K0
          (try simp only [Act.put, List.getElem_toArray, List.getElem_cons_succ, List.getElem_cons_zero, List.setIfInBounds_toArray, List.set_cons_succ, List.set_cons_zero])
          have hb1 := below_one (w := Y0) (.cells #[.int .i64 0, .int .i64 0] 26)
          have xg := Bx.new Y0 #[.int .i64 0, .int .i64 0] 26
          have lg := x2.lt
          replace hcx := Below.keep hb1 hcx
          go_wp2_with fail
          replace x0 := x0.below hb1; replace x1 := x1.below hb1; replace x2 := x2.below hb1; replace hb := hb.trans (hb1.mono hb.size); clear hb1
          generalize Y0.alloc (.cells #[.int .i64 0, .int .i64 0] 26) = Y1 at *
          generalize Y0.heap.size = g at *
          subst hK
          refine ⟨⟨x0, x1, hcx⟩, ?_⟩
          refine HeadAt.one (i := 6) rfl (by kernel_rfl) ?_
          generalize hK : Upto _ _ = K0
          (try simp only [List.getElem_toArray, List.getElem_cons_succ, List.getElem_cons_zero])
          go_wp2_with fail
          refine (ac1 _ (hN0.below hb (Nat.le_refl _)) (hC0.below hb (Nat.le_refl _))).mono ?_
          rintro e Y3 ⟨rfl, hb1⟩
          replace hcx := Below.keep hb1 hcx
          replace x0 := x0.below hb1; replace x1 := x1.below hb1; replace x2 := x2.below hb1; replace xg := xg.below hb1; replace hb := hb.trans (hb1.mono hb.size); clear hb1
          go_wp2_with fail
          subst hK
          refine ⟨⟨x0, x1, hcx⟩, ?_⟩
          refine HeadAt.take (i := 7) (.tuple #[.agg #[.int .i64 p1, .int .i64 c1], .bool false]) rfl (by kernel_rfl) (.inl ⟨rfl, fun _ _ => by simp [go_sem]⟩) ⟨x0, x1, hcx⟩ ?_
          refine HeadAt.take (i := 8) (.agg #[.int .i64 p1, .int .i64 c1]) rfl (by kernel_rfl) (.inl ⟨rfl, fun _ _ => by simp [go_sem]⟩) ⟨x0, x1, hcx⟩ ?_
          refine HeadAt.take (i := 9) (.bool false) rfl (by kernel_rfl) (.inl ⟨rfl, fun _ _ => by simp [go_sem]⟩) ⟨x0, x1, hcx⟩ ?_
          refine HeadAt.one (i := 11) rfl (by kernel_rfl) ?_
          generalize hK : Upto _ _ = K0
          (try simp only [Act.put, List.getElem_toArray, List.getElem_cons_succ, List.getElem_cons_zero, List.setIfInBounds_toArray, List.set_cons_succ, List.set_cons_zero])
          have g0 := xg.cell 0 rfl; have g1 := xg.cell 1 rfl
          have f0 := xg.free 0; have f1 := xg.free 1
          have hcg : ∀ v1 v2 : Value, ∃ Z, (Y3.setCell ⟨g, 0, none⟩ v1).setCell ⟨g, 1, none⟩ v2 = Z ∧ Bx Z g #[v1, v2] 26 ∧ Bx Z w.heap.size #[.int .i64 (R : Int), .slice an N.length cn, .slice ac C.length cc] 24 ∧ Bx Z (w.heap.size + 1) #[.int .i64 s.p, .int .i64 s.c] 26 ∧ Bx Z (w.heap.size + 1 + 1) #[.int .i64 0, .int .i64 0] 26 ∧ Below w.heap.size w Z ∧ Z.cell? ⟨b, off + k, none⟩ = some (.int .i64 x) := fun v1 v2 =>
            ⟨_, rfl, xg.set2 v1 v2, (x0.other (a := ⟨g, 0, none⟩) (by show w.heap.size ≠ g; omega) v1).other (a := ⟨g, 1, none⟩) (by show w.heap.size ≠ g; omega) v2, (x1.other (a := ⟨g, 0, none⟩) (by show w.heap.size + 1 ≠ g; omega) v1).other (a := ⟨g, 1, none⟩) (by show w.heap.size + 1 ≠ g; omega) v2, (x2.other (a := ⟨g, 0, none⟩) (by show w.heap.size + 1 + 1 ≠ g; omega) v1).other (a := ⟨g, 1, none⟩) (by show w.heap.size + 1 + 1 ≠ g; omega) v2, Below.store (Below.store hb (p := ⟨g, 0, none⟩) (by show w.heap.size ≤ g; omega) v1) (p := ⟨g, 1, none⟩) (by show w.heap.size ≤ g; omega) v2,
              by rw [World.cell?_setCell_other _ _ _ _ (fun e => by injection e with e; omega), World.cell?_setCell_other _ _ _ _ (fun e => by injection e with e; omega)]; exact hcx⟩
          obtain ⟨Z, hZ, xgp, x0p, x1p, x2p, hbp, hcxp⟩ := hcg (.int .i64 p1) (.int .i64 c1)
          clear hcg
          go_wp2_with fail
          subst hK
          refine ⟨⟨x0p, x1p, hcxp⟩, ?_⟩
          clear x0 x1 x2 xg hb hcx hZ g0 g1 f0 f1
          refine HeadAt.done (by kernel_rfl) ?_
          (try simp only [List.drop_succ_cons, List.drop_zero])
          have g0 := xgp.cell 0 rfl; have g1 := xgp.cell 1 rfl
          have d0 := x1p.cell 0 rfl; have d1 := x1p.cell 1 rfl
          have f0 := x1p.free 0; have f1 := x1p.free 1
          go_wp2_with fail
          refine NoPanic.normal ?_
          have hst : ∃ Y, (Z.setCell ⟨w.heap.size + 1, 0, none⟩ (.int .i64 p1)).setCell ⟨w.heap.size + 1, 1, none⟩ (.int .i64 c1) = Y ∧ Bx Y w.heap.size #[.int .i64 (R : Int), .slice an N.length cn, .slice ac C.length cc] 24 ∧ Bx Y (w.heap.size + 1) #[.int .i64 p1, .int .i64 c1] 26 ∧ Bx Y (w.heap.size + 1 + 1) #[.int .i64 0, .int .i64 0] 26 ∧ Below w.heap.size w Y :=
            ⟨_, rfl, (x0p.other (a := ⟨w.heap.size + 1, 0, none⟩) (by show w.heap.size ≠ w.heap.size + 1; omega) _).other (a := ⟨w.heap.size + 1, 1, none⟩) (by show w.heap.size ≠ w.heap.size + 1; omega) _, x1p.set2 _ _, (x2p.other (a := ⟨w.heap.size + 1, 0, none⟩) (by show w.heap.size + 1 + 1 ≠ w.heap.size + 1; omega) _).other (a := ⟨w.heap.size + 1, 1, none⟩) (by show w.heap.size + 1 + 1 ≠ w.heap.size + 1; omega) _, Below.store (Below.store hbp (p := ⟨w.heap.size + 1, 0, none⟩) (by show w.heap.size ≤ w.heap.size + 1; omega) _) (p := ⟨w.heap.size + 1, 1, none⟩) (by show w.heap.size ≤ w.heap.size + 1; omega) _⟩
          obtain ⟨Y, hY, y0, y1, y2, hbY⟩ := hst
          go_wp2_with fail
          clear hY
          go_roundw
          case rel => exact ⟨k + 1, ⟨p1, c1⟩, (m), by omega, by go_num, rfl, hp1l, by show c1 ≤ _; omega, by omega, by rw [Hn.out, HR.out]; rfl, hbY, y0, y1, y2⟩
          case measure => simp [intOf]; omega
      · refine HeadAt.two (i := 6) (j := 10) rfl rfl (by kernel_rfl) ?_ ?_
        · skip
          generalize hK : Upto _ _ = K0
          (try simp only [Act.put, List.getElem_toArray, List.getElem_cons_succ, List.getElem_cons_zero, List.setIfInBounds_toArray, List.set_cons_succ, List.set_cons_zero])
          go_wp2_with fail
          refine (ac1 _ (hN0.below hb (Nat.le_refl _)) (hC0.below hb (Nat.le_refl _))).mono ?_
          rintro e Y3 ⟨rfl, hb1⟩
          replace hcx := Below.keep hb1 hcx
          replace x0 := x0.below hb1; replace x1 := x1.below hb1; replace x2 := x2.below hb1; replace hb := hb.trans (hb1.mono hb.size); clear hb1
          go_wp2_with fail
          subst hK
          refine ⟨⟨x0, x1, hcx⟩, ?_⟩
          refine HeadAt.take (i := 7) (.tuple #[.agg #[.int .i64 p1, .int .i64 c1], .bool true]) rfl (by kernel_rfl) (.inl ⟨rfl, fun _ _ => by simp [go_sem]⟩) ⟨x0, x1, hcx⟩ ?_
          refine HeadAt.take (i := 8) (.agg #[.int .i64 p1, .int .i64 c1]) rfl (by kernel_rfl) (.inl ⟨rfl, fun _ _ => by simp [go_sem]⟩) ⟨x0, x1, hcx⟩ ?_
          refine HeadAt.take (i := 9) (.bool true) rfl (by kernel_rfl) (.inl ⟨rfl, fun _ _ => by simp [go_sem]⟩) ⟨x0, x1, hcx⟩ ?_
          refine HeadAt.one (i := 10) rfl (by kernel_rfl) ?_
          generalize hK : Upto _ _ = K0
          (try simp only [Act.put, List.getElem_toArray, List.getElem_cons_succ, List.getElem_cons_zero, List.setIfInBounds_toArray, List.set_cons_succ, List.set_cons_zero])
          have hb1 := below_one (w := Y3) (.cells #[.int .i64 0, .int .i64 0] 26)
          have xg := Bx.new Y3 #[.int .i64 0, .int .i64 0] 26
          have lg := x2.lt
          replace hcx := Below.keep hb1 hcx
          go_wp2_with fail
          replace x0 := x0.below hb1; replace x1 := x1.below hb1; replace x2 := x2.below hb1; replace hb := hb.trans (hb1.mono hb.size); clear hb1
          generalize Y3.alloc (.cells #[.int .i64 0, .int .i64 0] 26) = Y4 at *
          generalize Y3.heap.size = g at *
          subst hK
          refine ⟨⟨x0, x1, hcx⟩, ?_⟩
          refine HeadAt.one (i := 11) rfl (by kernel_rfl) ?_
          generalize hK : Upto _ _ = K0
          (try simp only [List.getElem_toArray, List.getElem_cons_succ, List.getElem_cons_zero])
          have g0 := xg.cell 0 rfl; have g1 := xg.cell 1 rfl
          have f0 := xg.free 0; have f1 := xg.free 1
          have hcg : ∀ v1 v2 : Value, ∃ Z, (Y4.setCell ⟨g, 0, none⟩ v1).setCell ⟨g, 1, none⟩ v2 = Z ∧ Bx Z g #[v1, v2] 26 ∧ Bx Z w.heap.size #[.int .i64 (R : Int), .slice an N.length cn, .slice ac C.length cc] 24 ∧ Bx Z (w.heap.size + 1) #[.int .i64 s.p, .int .i64 s.c] 26 ∧ Bx Z (w.heap.size + 1 + 1) #[.int .i64 0, .int .i64 0] 26 ∧ Below w.heap.size w Z ∧ Z.cell? ⟨b, off + k, none⟩ = some (.int .i64 x) := fun v1 v2 =>
            ⟨_, rfl, xg.set2 v1 v2, (x0.other (a := ⟨g, 0, none⟩) (by show w.heap.size ≠ g; omega) v1).other (a := ⟨g, 1, none⟩) (by show w.heap.size ≠ g; omega) v2, (x1.other (a := ⟨g, 0, none⟩) (by show w.heap.size + 1 ≠ g; omega) v1).other (a := ⟨g, 1, none⟩) (by show w.heap.size + 1 ≠ g; omega) v2, (x2.other (a := ⟨g, 0, none⟩) (by show w.heap.size + 1 + 1 ≠ g; omega) v1).other (a := ⟨g, 1, none⟩) (by show w.heap.size + 1 + 1 ≠ g; omega) v2, Below.store (Below.store hb (p := ⟨g, 0, none⟩) (by show w.heap.size ≤ g; omega) v1) (p := ⟨g, 1, none⟩) (by show w.heap.size ≤ g; omega) v2,
              by rw [World.cell?_setCell_other _ _ _ _ (fun e => by injection e with e; omega), World.cell?_setCell_other _ _ _ _ (fun e => by injection e with e; omega)]; exact hcx⟩
          obtain ⟨Z, hZ, xgp, x0p, x1p, x2p, hbp, hcxp⟩ := hcg (.int .i64 p1) (.int .i64 c1)
          clear hcg
          go_wp2_with fail
          subst hK
          refine ⟨⟨x0p, x1p, hcxp⟩, ?_⟩
          clear x0 x1 x2 xg hb hcx hZ g0 g1 f0 f1
          refine HeadAt.done (by kernel_rfl) ?_
          (try simp only [List.drop_succ_cons, List.drop_zero])
          have g0 := xgp.cell 0 rfl; have g1 := xgp.cell 1 rfl
          have d0 := x1p.cell 0 rfl; have d1 := x1p.cell 1 rfl
          have f0 := x1p.free 0; have f1 := x1p.free 1
          go_wp2_with fail
          refine NoPanic.normal ?_
          have hst : ∃ Y, (Z.setCell ⟨w.heap.size + 1, 0, none⟩ (.int .i64 p1)).setCell ⟨w.heap.size + 1, 1, none⟩ (.int .i64 c1) = Y ∧ Bx Y w.heap.size #[.int .i64 (R : Int), .slice an N.length cn, .slice ac C.length cc] 24 ∧ Bx Y (w.heap.size + 1) #[.int .i64 p1, .int .i64 c1] 26 ∧ Bx Y (w.heap.size + 1 + 1) #[.int .i64 0, .int .i64 0] 26 ∧ Below w.heap.size w Y :=
            ⟨_, rfl, (x0p.other (a := ⟨w.heap.size + 1, 0, none⟩) (by show w.heap.size ≠ w.heap.size + 1; omega) _).other (a := ⟨w.heap.size + 1, 1, none⟩) (by show w.heap.size ≠ w.heap.size + 1; omega) _, x1p.set2 _ _, (x2p.other (a := ⟨w.heap.size + 1, 0, none⟩) (by show w.heap.size + 1 + 1 ≠ w.heap.size + 1; omega) _).other (a := ⟨w.heap.size + 1, 1, none⟩) (by show w.heap.size + 1 + 1 ≠ w.heap.size + 1; omega) _, Below.store (Below.store hbp (p := ⟨w.heap.size + 1, 0, none⟩) (by show w.heap.size ≤ w.heap.size + 1; omega) _) (p := ⟨w.heap.size + 1, 1, none⟩) (by show w.heap.size ≤ w.heap.size + 1; omega) _⟩
          obtain ⟨Y, hY, y0, y1, y2, hbY⟩ := hst
          go_wp2_with fail
          clear hY
          go_roundw
          case rel => exact ⟨k + 1, ⟨p1, c1⟩, (m + 1), by omega, by go_num, by go_num, hp1l, by show c1 ≤ _; omega, by omega, by rw [Hn.out, HR.out]; rfl, hbY, y0, y1, y2⟩
          case measure => simp [intOf]; omega
        · skip
          generalize hK : Upto _ _ = K0
          (try simp only [Act.put, List.getElem_toArray, List.getElem_cons_succ, List.getElem_cons_zero, List.setIfInBounds_toArray, List.set_cons_succ, List.set_cons_zero])
          have hb1 := below_one (w := Y0) (.cells #[.int .i64 0, .int .i64 0] 26)
          have xg := Bx.new Y0 #[.int .i64 0, .int .i64 0] 26
          have lg := x2.lt
          replace hcx := Below.keep hb1 hcx
          go_wp2_with fail
          replace x0 := x0.below hb1; replace x1 := x1.below hb1; replace x2 := x2.below hb1; replace hb := hb.trans (hb1.mono hb.size); clear hb1
          generalize Y0.alloc (.cells #[.int .i64 0, .int .i64 0] 26) = Y1 at *
          generalize Y0.heap.size = g at *
          subst hK
          refine ⟨⟨x0, x1, hcx⟩, ?_⟩
          refine HeadAt.one (i := 6) rfl (by kernel_rfl) ?_
          generalize hK : Upto _ _ = K0
          (try simp only [List.getElem_toArray, List.getElem_cons_succ, List.getElem_cons_zero])
          go_wp2_with fail
          refine (ac1 _ (hN0.below hb (Nat.le_refl _)) (hC0.below hb (Nat.le_refl _))).mono ?_
          rintro e Y3 ⟨rfl, hb1⟩
          replace hcx := Below.keep hb1 hcx
          replace x0 := x0.below hb1; replace x1 := x1.below hb1; replace x2 := x2.below hb1; replace xg := xg.below hb1; replace hb := hb.trans (hb1.mono hb.size); clear hb1
          go_wp2_with fail
          subst hK
          refine ⟨⟨x0, x1, hcx⟩, ?_⟩
          refine HeadAt.take (i := 7) (.tuple #[.agg #[.int .i64 p1, .int .i64 c1], .bool true]) rfl (by kernel_rfl) (.inl ⟨rfl, fun _ _ => by simp [go_sem]⟩) ⟨x0, x1, hcx⟩ ?_
          refine HeadAt.take (i := 8) (.agg #[.int .i64 p1, .int .i64 c1]) rfl (by kernel_rfl) (.inl ⟨rfl, fun _ _ => by simp [go_sem]⟩) ⟨x0, x1, hcx⟩ ?_
          refine HeadAt.take (i := 9) (.bool true) rfl (by kernel_rfl) (.inl ⟨rfl, fun _ _ => by simp [go_sem]⟩) ⟨x0, x1, hcx⟩ ?_
          refine HeadAt.one (i := 11) rfl (by kernel_rfl) ?_
          generalize hK : Upto _ _ = K0
          (try simp only [Act.put, List.getElem_toArray, List.getElem_cons_succ, List.getElem_cons_zero, List.setIfInBounds_toArray, List.set_cons_succ, List.set_cons_zero])
          have g0 := xg.cell 0 rfl; have g1 := xg.cell 1 rfl
          have f0 := xg.free 0; have f1 := xg.free 1
          have hcg : ∀ v1 v2 : Value, ∃ Z, (Y3.setCell ⟨g, 0, none⟩ v1).setCell ⟨g, 1, none⟩ v2 = Z ∧ Bx Z g #[v1, v2] 26 ∧ Bx Z w.heap.size #[.int .i64 (R : Int), .slice an N.length cn, .slice ac C.length cc] 24 ∧ Bx Z (w.heap.size + 1) #[.int .i64 s.p, .int .i64 s.c] 26 ∧ Bx Z (w.heap.size + 1 + 1) #[.int .i64 0, .int .i64 0] 26 ∧ Below w.heap.size w Z ∧ Z.cell? ⟨b, off + k, none⟩ = some (.int .i64 x) := fun v1 v2 =>
            ⟨_, rfl, xg.set2 v1 v2, (x0.other (a := ⟨g, 0, none⟩) (by show w.heap.size ≠ g; omega) v1).other (a := ⟨g, 1, none⟩) (by show w.heap.size ≠ g; omega) v2, (x1.other (a := ⟨g, 0, none⟩) (by show w.heap.size + 1 ≠ g; omega) v1).other (a := ⟨g, 1, none⟩) (by show w.heap.size + 1 ≠ g; omega) v2, (x2.other (a := ⟨g, 0, none⟩) (by show w.heap.size + 1 + 1 ≠ g; omega) v1).other (a := ⟨g, 1, none⟩) (by show w.heap.size + 1 + 1 ≠ g; omega) v2, Below.store (Below.store hb (p := ⟨g, 0, none⟩) (by show w.heap.size ≤ g; omega) v1) (p := ⟨g, 1, none⟩) (by show w.heap.size ≤ g; omega) v2,
              by rw [World.cell?_setCell_other _ _ _ _ (fun e => by injection e with e; omega), World.cell?_setCell_other _ _ _ _ (fun e => by injection e with e; omega)]; exact hcx⟩
          obtain ⟨Z, hZ, xgp, x0p, x1p, x2p, hbp, hcxp⟩ := hcg (.int .i64 p1) (.int .i64 c1)
          clear hcg
          go_wp2_with fail
          subst hK
          refine ⟨⟨x0p, x1p, hcxp⟩, ?_⟩
          clear x0 x1 x2 xg hb hcx hZ g0 g1 f0 f1
          refine HeadAt.done (by kernel_rfl) ?_
          (try simp only [List.drop_succ_cons, List.drop_zero])
          have g0 := xgp.cell 0 rfl; have g1 := xgp.cell 1 rfl
          have d0 := x1p.cell 0 rfl; have d1 := x1p.cell 1 rfl
          have f0 := x1p.free 0; have f1 := x1p.free 1
          go_wp2_with fail
          refine NoPanic.normal ?_
          have hst : ∃ Y, (Z.setCell ⟨w.heap.size + 1, 0, none⟩ (.int .i64 p1)).setCell ⟨w.heap.size + 1, 1, none⟩ (.int .i64 c1) = Y ∧ Bx Y w.heap.size #[.int .i64 (R : Int), .slice an N.length cn, .slice ac C.length cc] 24 ∧ Bx Y (w.heap.size + 1) #[.int .i64 p1, .int .i64 c1] 26 ∧ Bx Y (w.heap.size + 1 + 1) #[.int .i64 0, .int .i64 0] 26 ∧ Below w.heap.size w Y :=
            ⟨_, rfl, (x0p.other (a := ⟨w.heap.size + 1, 0, none⟩) (by show w.heap.size ≠ w.heap.size + 1; omega) _).other (a := ⟨w.heap.size + 1, 1, none⟩) (by show w.heap.size ≠ w.heap.size + 1; omega) _, x1p.set2 _ _, (x2p.other (a := ⟨w.heap.size + 1, 0, none⟩) (by show w.heap.size + 1 + 1 ≠ w.heap.size + 1; omega) _).other (a := ⟨w.heap.size + 1, 1, none⟩) (by show w.heap.size + 1 + 1 ≠ w.heap.size + 1; omega) _, Below.store (Below.store hbp (p := ⟨w.heap.size + 1, 0, none⟩) (by show w.heap.size ≤ w.heap.size + 1; omega) _) (p := ⟨w.heap.size + 1, 1, none⟩) (by show w.heap.size ≤ w.heap.size + 1; omega) _⟩
          obtain ⟨Y, hY, y0, y1, y2, hbY⟩ := hst
          go_wp2_with fail
          clear hY
          go_roundw
          case rel => exact ⟨k + 1, ⟨p1, c1⟩, (m + 1), by omega, by go_num, by go_num, hp1l, by show c1 ≤ _; omega, by omega, by rw [Hn.out, HR.out]; rfl, hbY, y0, y1, y2⟩
          case measure => simp [intOf]; omega
    · have d0 := x1.cell 0 rfl; have d1 := x1.cell 1 rfl
      have g0 := x2.cell 0 rfl; have g1 := x2.cell 1 rfl
      have h0 := x2.free 0; have h1 := x2.free 1
      go_wp2
      refine bodyPost_ret (v := .tuple #[.agg #[.int .i64 (runL R N C ⟨p, c⟩ 0 xs).1.p, .int .i64 (runL R N C ⟨p, c⟩ 0 xs).1.c], .int .i64 (runL R N C ⟨p, c⟩ 0 xs).2, .int .i64 0]) ?_ rfl ⟨rfl, ?_⟩
      · rw [Hn.out, drop_end hk' hlt]
        simp [results, Try.results22, go_sem, g0, g1, runL]
      · exact (hb.setCell (by simp; omega) _).setCell (by simp; omega) _
end Go.Proofs.Ytmkmnedojgigoaa
namespace Go.Proofs.Ytmkmnedojgigoaa
open Go.RowKit

/-- What Run answers. -/
structure RunR where
  p : Int
  c : Int
  m : Int
  e : Int
def ruR (r : Int) (N C : List Int) (p c : Int) (xs : List Int) : RunR :=
  if validB r N C then (if okRun r.toNat C p c xs then ⟨(runL r.toNat N C ⟨p.toNat, c.toNat⟩ 0 xs).1.p, (runL r.toNat N C ⟨p.toNat, c.toNat⟩ 0 xs).1.c, (runL r.toNat N C ⟨p.toNat, c.toNat⟩ 0 xs).2, 0⟩ else ⟨0, 0, 0, 1⟩) else ⟨0, 0, 0, 10⟩
theorem okRun_nat {R : Nat} {C : List Int} {p c : Int} {xs : List Int} (h : okRun R C p c xs = true) : ∃ a b : Nat, p = a ∧ c = b := by
  simp only [okRun, Bool.and_eq_true, inR_iff] at h
  exact ⟨p.toNat, c.toNat, by omega, by omega⟩

theorem run_any (r : Int) (an ac : Option Addr) (cn cc : Nat) (N C : List Int) (p c : Int) (a : Option Addr) (ca : Nat) (xs : List Int) (w : World) (hN : Ints w an N) (hC : Ints w ac C) (hX : Ints w a xs) :
    Calls Try.prog 21 #[.agg #[.int .i64 r, .slice an N.length cn, .slice ac C.length cc], .agg #[.int .i64 p, .int .i64 c], .slice a xs.length ca] w fun e w' => e = .returned (.tuple #[.agg #[.int .i64 (ruR r N C p c xs).p, .int .i64 (ruR r N C p c xs).c], .int .i64 (ruR r N C p c xs).m, .int .i64 (ruR r N C p c xs).e]) ∧ Below w.heap.size w w' := by
  cases hv : validB r N C
  · rw [ruR, hv]; exact run_bad r an ac cn cc N C p c a ca xs w hN hC hv
  · obtain ⟨R, rfl, hw⟩ := Vw.of_valid hv
    rw [ruR, hv, if_pos rfl, Int.toNat_natCast]
    cases ho : okRun R C p c xs
    · exact run_arg R an ac cn cc N C p c a ca xs w hN hC hX hw ho
    · obtain ⟨a', b', rfl, rfl⟩ := okRun_nat ho
      exact run_good R an ac cn cc N C a' b' a ca xs w hN hC hX hw ho

theorem rrun_any (r : Int) (an ac : Option Addr) (cn cc : Nat) (N C : List Int) (p c : Int) (a : Option Addr) (ca : Nat) (xs : List Int) (w : World) (hN : Ints w an N) (hC : Ints w ac C) (hX : Ints w a xs) :
    Calls Try.prog 22 #[.agg #[.int .i64 r, .slice an N.length cn, .slice ac C.length cc], .agg #[.int .i64 p, .int .i64 c], .slice a xs.length ca] w fun e w' => e = .returned (.tuple #[.agg #[.int .i64 (ruR r N C p c xs).p, .int .i64 (ruR r N C p c xs).c], .int .i64 (ruR r N C p c xs).m, .int .i64 (ruR r N C p c xs).e]) ∧ Below w.heap.size w w' := by
  cases hv : validB r N C
  · rw [ruR, hv]; exact rrun_bad r an ac cn cc N C p c a ca xs w hN hC hv
  · obtain ⟨R, rfl, hw⟩ := Vw.of_valid hv
    rw [ruR, hv, if_pos rfl, Int.toNat_natCast]
    cases ho : okRun R C p c xs
    · exact rrun_arg R an ac cn cc N C p c a ca xs w hN hC hX hw ho
    · obtain ⟨a', b', rfl, rfl⟩ := okRun_nat ho
      exact rrun_ok R an ac cn cc N C a' b' a ca xs w hN hC hX hw ho


set_option maxRecDepth 100000 in
set_option maxHeartbeats 1000000 in
theorem crun_ok (r : Int) (an ac : Option Addr) (cn cc : Nat) (N C : List Int) (p c : Int) (a : Option Addr) (ca : Nat) (xs : List Int) (w : World) (hN : Ints w an N) (hC : Ints w ac C) (hX : Ints w a xs) (hf : farB N C = false) (hl : xs.length ≤ 40) :
    Calls Try.prog 3 #[.agg #[.int .i64 r, .slice an N.length cn, .slice ac C.length cc], .agg #[.int .i64 p, .int .i64 c], .slice a xs.length ca] w (WorksP w) := by
  obtain ⟨j0, hj, jz0, jz1, jz2⟩ := info_parts info3
  have hnl : N.length ≤ 40 ∧ C.length ≤ 40 := by
    simp only [farB, Bool.or_eq_false_iff, decide_eq_false_iff_not] at hf; omega
  have hN0 := hN; have hC0 := hC; have hX0 := hX
  have d1 : decide ((40 : Int) < (xs.length : Int)) = false := by simp; omega
  obtain ⟨⟨rp, rc, rm, re⟩, hru⟩ : ∃ t, t = ruR r N C p c xs := ⟨_, rfl⟩
  obtain ⟨⟨pv, pe⟩, hpl⟩ : ∃ t, t = plR r N C p xs := ⟨_, rfl⟩
  have ru : ∀ (an' ac' a' : Option Addr) (cn' cc' ca' : Nat) (W : World), Ints W an' N → Ints W ac' C → Ints W a' xs → Calls Try.prog 21 #[.agg #[.int .i64 r, .slice an' N.length cn', .slice ac' C.length cc'], .agg #[.int .i64 p, .int .i64 c], .slice a' xs.length ca'] W fun e w' => e = .returned (.tuple #[.agg #[.int .i64 rp, .int .i64 rc], .int .i64 rm, .int .i64 re]) ∧ Below W.heap.size W w' := fun an' ac' a' cn' cc' ca' W h1 h2 h3 => by
    have := run_any r an' ac' cn' cc' N C p c a' ca' xs W h1 h2 h3
    rw [← hru] at this; exact this
  have rr : ∀ W : World, Ints W an N → Ints W ac C → Ints W a xs → Calls Try.prog 22 #[.agg #[.int .i64 r, .slice an N.length cn, .slice ac C.length cc], .agg #[.int .i64 p, .int .i64 c], .slice a xs.length ca] W fun e w' => e = .returned (.tuple #[.agg #[.int .i64 rp, .int .i64 rc], .int .i64 rm, .int .i64 re]) ∧ Below W.heap.size W w' := fun W h1 h2 h3 => by
    have := rrun_any r an ac cn cc N C p c a ca xs W h1 h2 h3
    rw [← hru] at this; exact this
  have pu : ∀ (an' ac' a' : Option Addr) (cn' cc' ca' : Nat) (W : World), Ints W an' N → Ints W ac' C → Ints W a' xs → Calls Try.prog 23 #[.agg #[.int .i64 r, .slice an' N.length cn', .slice ac' C.length cc'], .int .i64 p, .slice a' xs.length ca'] W fun e w' => e = .returned (.tuple #[.int .i64 pv, .int .i64 pe]) ∧ Below W.heap.size W w' := fun an' ac' a' cn' cc' ca' W h1 h2 h3 => by
    have := plays_any r an' ac' cn' cc' N C p a' ca' xs W h1 h2 h3
    rw [← hpl] at this; exact this
  have pr : ∀ W : World, Ints W an N → Ints W ac C → Ints W a xs → Calls Try.prog 24 #[.agg #[.int .i64 r, .slice an N.length cn, .slice ac C.length cc], .int .i64 p, .slice a xs.length ca] W fun e w' => e = .returned (.tuple #[.int .i64 pv, .int .i64 pe]) ∧ Below W.heap.size W w' := fun W h1 h2 h3 => by
    have := rplays_any r an ac cn cc N C p a ca xs W h1 h2 h3
    rw [← hpl] at this; exact this
  obtain ⟨kk, hkk⟩ : ∃ kk, kk = chk r N C := ⟨_, rfl⟩
  have ck : ∀ (an' ac' : Option Addr) (cn' cc' : Nat) (W : World), Ints W an' N → Ints W ac' C → Calls Try.prog 19 #[.agg #[.int .i64 r, .slice an' N.length cn', .slice ac' C.length cc']] W fun e w' => e = .returned (.int .i64 kk) ∧ Below W.heap.size W w' := fun an' ac' cn' cc' W h1 h2 => by
    rw [hkk]; exact codeCheck_any r an' ac' cn' cc' N C W h1 h2
  have cr : ∀ (an' ac' : Option Addr) (cn' cc' : Nat) (W : World), Ints W an' N → Ints W ac' C → Calls Try.prog 20 #[.agg #[.int .i64 r, .slice an' N.length cn', .slice ac' C.length cc']] W fun e w' => e = .returned (.int .i64 kk) ∧ Below W.heap.size W w' := fun an' ac' cn' cc' W h1 h2 => by
    rw [hkk]; exact refCheck_any r an' ac' cn' cc' N C W h1 h2
  clear hru hpl hkk
  obtain ⟨W, hW, hb, hs, x0, x1⟩ := boxes2 w #[.int .i64 r, .slice an N.length cn, .slice ac C.length cc] 24 #[.int .i64 p, .int .i64 c] 26
  clear hs hN hC hX
  have c0 := x0.cell 0 rfl; have c1 := x0.cell 1 rfl; have c2 := x0.cell 2 rfl
  go_enter Try.func3, Try.ntmps3
  go_wp2_with fail
  refine (far_any _ _ _ _ _ _ _ _ (hN0.below hb (Nat.le_refl _)) (hC0.below hb (Nat.le_refl _))).mono ?_
  rintro e W1 ⟨rfl, hb1⟩
  rw [hf]
  clear hW
  replace x1 := x1.below hb1; (try clear c0 c1 c2); replace x0 := x0.below hb1; have c0 := x0.cell 0 rfl; have c1 := x0.cell 1 rfl; have c2 := x0.cell 2 rfl; replace hb := hb.trans (hb1.mono hb.size); clear hb1
  go_wp2_with fail
  refine (copy_any _ _ _ _ _ _ _ _ (hN0.below hb (Nat.le_refl _)) (hC0.below hb (Nat.le_refl _)) hnl.1 hnl.2).mono ?_
  rintro e W2 ⟨hb1, a1, a2, e1, e2, rfl, hN, hC⟩
  replace x0 := x0.below hb1; replace x1 := x1.below hb1; replace hb := hb.trans (hb1.mono hb.size); clear hb1
  clear c0 c1 c2 hf
  have hA := own_lit0 W2 3 1
  have hb1 := below_one (w := W2) (.cells #[] 3)
  have hcl := ((hX0.below hb (Nat.le_refl _)).below hb1 (Nat.le_refl _)).cls
  go_wp2_with (at_builtin; refine wpList_app rfl (.tmp 29) (.tmp 30) 22 rfl W2.heap.size 3 j0 (.int .i64 0) 1 8 under22 hj jz0 jz1 jz2 rfl (by decide) _ 0 [] rfl hA a xs.length ca _ rfl (by simp) hcl (ints_one xs) (by unfold maxLen; omega) (by omega) (by simp) ?_; intro v1 W3 hown' hg)
  have hbY := hb1.grown hg (by simp) (own_ge hA)
  clear hA hcl hg hb1
  obtain ⟨a3, e3, rfl, hX⟩ := Ints.of_own (w := W3) (xs := xs) (by simpa using hown') hX0.len hX0.2.1
  clear hown'
  replace hN := hN.below hbY (Nat.le_refl _); replace hC := hC.below hbY (Nat.le_refl _); replace x0 := x0.below hbY; replace x1 := x1.below hbY; replace hb := hb.trans (hbY.mono hb.size); clear hbY
  obtain ⟨W4, hW4, hb1, hs4, x7⟩ := boxes1 W3 #[.int .i64 r, .slice a1 N.length e1, .slice a2 C.length e2] 24
  rw [hW4]
  have lg := x0.lt
  replace hN := hN.below hb1 (Nat.le_refl _); replace hC := hC.below hb1 (Nat.le_refl _); replace hX := hX.below hb1 (Nat.le_refl _); replace x0 := x0.below hb1; replace x1 := x1.below hb1; replace hb := hb.trans (hb1.mono hb.size); clear hb1
  clear hW4 hs4
  generalize W3.heap.size = g at *
  have d0 := x0.ext 0 rfl; have d1' := x0.ext 1 rfl; have d2 := x0.ext 2 rfl
  have f0 := x7.ext 0 rfl; have f1 := x7.ext 1 rfl; have f2 := x7.ext 2 rfl
  have hN1 := hN0.below hb (Nat.le_refl _); have hC1 := hC0.below hb (Nat.le_refl _)
  refine wp_region_ext_lit (by kernel_rfl) (by kernel_rfl) ?_
  repeat (quiet_step (first | (go_at_call 19; exact quiet_ext (ck _ _ _ _ _ (hN.below (Ext.below _) (Nat.le_refl _)) (hC.below (Ext.below _) (Nat.le_refl _)))) | (go_at_call 20; exact quiet_ext (cr _ _ _ _ _ (hN1.below (Ext.below _) (Nat.le_refl _)) (hC1.below (Ext.below _) (Nat.le_refl _))))))
  refine wpQuiet_nil ?_
  intro _ hw'
  obtain ⟨t, rfl⟩ := hw'
  have hbt := t.below
  clear d0 d1' d2 f0 f1 f2 ck cr hN1 hC1
  generalize t.w = W5 at *
  replace hN := hN.below hbt (Nat.le_refl _); replace hC := hC.below hbt (Nat.le_refl _); replace hX := hX.below hbt (Nat.le_refl _); replace x0 := x0.below hbt; (try clear f0 f1 f2); replace x7 := x7.below hbt; have f0 := x7.cell 0 rfl; have f1 := x7.cell 1 rfl; have f2 := x7.cell 2 rfl; (try clear d0 d1); replace x1 := x1.below hbt; have d0 := x1.cell 0 rfl; have d1 := x1.cell 1 rfl; replace hb := hb.trans (hbt.mono hb.size); clear hbt
  go_wp2_with fail
  refine (ru _ _ _ _ _ _ _ hN hC hX).mono ?_
  rintro e W6 ⟨rfl, hb1⟩
  replace hN := hN.below hb1 (Nat.le_refl _); replace hC := hC.below hb1 (Nat.le_refl _); replace hX := hX.below hb1 (Nat.le_refl _); replace x7 := x7.below hb1; (try clear c0 c1 c2); replace x0 := x0.below hb1; have c0 := x0.cell 0 rfl; have c1 := x0.cell 1 rfl; have c2 := x0.cell 2 rfl; (try clear d0 d1); replace x1 := x1.below hb1; have d0 := x1.cell 0 rfl; have d1 := x1.cell 1 rfl; replace hb := hb.trans (hb1.mono hb.size); clear hb1
  clear f0 f1 f2
  obtain ⟨W7, hW7, hb1, hs7, x9⟩ := boxes1 W6 #[.int .i64 rp, .int .i64 rc] 26
  replace hN := hN.below hb1 (Nat.le_refl _); replace hC := hC.below hb1 (Nat.le_refl _); replace hX := hX.below hb1 (Nat.le_refl _); replace x7 := x7.below hb1; (try clear c0 c1 c2); replace x0 := x0.below hb1; have c0 := x0.cell 0 rfl; have c1 := x0.cell 1 rfl; have c2 := x0.cell 2 rfl; (try clear d0 d1); replace x1 := x1.below hb1; have d0 := x1.cell 0 rfl; have d1 := x1.cell 1 rfl; replace hb := hb.trans (hb1.mono hb.size); clear hb1
  go_wp2_with fail
  clear hW7 hs7
  refine (rr _ (hN0.below hb (Nat.le_refl _)) (hC0.below hb (Nat.le_refl _)) (hX0.below hb (Nat.le_refl _))).mono ?_
  rintro e W8 ⟨rfl, hb1⟩
  replace hN := hN.below hb1 (Nat.le_refl _); replace hC := hC.below hb1 (Nat.le_refl _); replace hX := hX.below hb1 (Nat.le_refl _); replace x0 := x0.below hb1; replace x9 := x9.below hb1; (try clear f0 f1 f2); replace x7 := x7.below hb1; have f0 := x7.cell 0 rfl; have f1 := x7.cell 1 rfl; have f2 := x7.cell 2 rfl; (try clear d0 d1); replace x1 := x1.below hb1; have d0 := x1.cell 0 rfl; have d1 := x1.cell 1 rfl; replace hb := hb.trans (hb1.mono hb.size); clear hb1
  clear c0 c1 c2
  obtain ⟨W9, hW9, hb1, hs9, x12⟩ := boxes1 W8 #[.int .i64 rp, .int .i64 rc] 26
  replace hN := hN.below hb1 (Nat.le_refl _); replace hC := hC.below hb1 (Nat.le_refl _); replace hX := hX.below hb1 (Nat.le_refl _); replace x0 := x0.below hb1; replace x9 := x9.below hb1; (try clear f0 f1 f2); replace x7 := x7.below hb1; have f0 := x7.cell 0 rfl; have f1 := x7.cell 1 rfl; have f2 := x7.cell 2 rfl; (try clear d0 d1); replace x1 := x1.below hb1; have d0 := x1.cell 0 rfl; have d1 := x1.cell 1 rfl; replace hb := hb.trans (hb1.mono hb.size); clear hb1
  go_wp2_with fail
  clear hW9 hs9
  refine (pu _ _ _ _ _ _ _ hN hC hX).mono ?_
  rintro e W10 ⟨rfl, hb1⟩
  replace hN := hN.below hb1 (Nat.le_refl _); replace hC := hC.below hb1 (Nat.le_refl _); replace hX := hX.below hb1 (Nat.le_refl _); replace x7 := x7.below hb1; replace x9 := x9.below hb1; replace x12 := x12.below hb1; (try clear c0 c1 c2); replace x0 := x0.below hb1; have c0 := x0.cell 0 rfl; have c1 := x0.cell 1 rfl; have c2 := x0.cell 2 rfl; (try clear d0 d1); replace x1 := x1.below hb1; have d0 := x1.cell 0 rfl; have d1 := x1.cell 1 rfl; replace hb := hb.trans (hb1.mono hb.size); clear hb1
  clear f0 f1 f2
  go_wp2_with fail
  refine (pr _ (hN0.below hb (Nat.le_refl _)) (hC0.below hb (Nat.le_refl _)) (hX0.below hb (Nat.le_refl _))).mono ?_
  rintro e W11 ⟨rfl, hb1⟩
  replace hN := hN.below hb1 (Nat.le_refl _); replace hC := hC.below hb1 (Nat.le_refl _); replace hX := hX.below hb1 (Nat.le_refl _); replace x1 := x1.below hb1; (try clear c0 c1 c2); replace x0 := x0.below hb1; have c0 := x0.cell 0 rfl; have c1 := x0.cell 1 rfl; have c2 := x0.cell 2 rfl; (try clear f0 f1 f2); replace x7 := x7.below hb1; have f0 := x7.cell 0 rfl; have f1 := x7.cell 1 rfl; have f2 := x7.cell 2 rfl; (try clear u0 u1); replace x9 := x9.below hb1; have u0 := x9.cell 0 rfl; have u1 := x9.cell 1 rfl; (try clear v0 v1); replace x12 := x12.below hb1; have v0 := x12.cell 0 rfl; have v1 := x12.cell 1 rfl; replace hb := hb.trans (hb1.mono hb.size); clear hb1
  clear d0 d1
  go_wp2_with fail
  refine (same_any _ _ _ _ _ _ _ _ _ _ _ _ _ _ _ hN hC (hN0.below hb (Nat.le_refl _)) (hC0.below hb (Nat.le_refl _))).mono ?_
  rintro e W12 ⟨rfl, hb1⟩
  rw [(eq_iff3 r r N C N C).2 ⟨rfl, rfl, rfl⟩]
  replace hX := hX.below hb1 (Nat.le_refl _); replace hb := hb.trans (hb1.mono hb.size); clear hb1
  clear hN hC x0 x7 x9 x12 c0 c1 c2 f0 f1 f2 u0 u1 v0 v1 x1
  go_wp2_with fail
  refine (sameInts_any _ _ _ _ _ _ _ hX (hX0.below hb (Nat.le_refl _))).mono ?_
  rintro e W13 ⟨rfl, hq⟩
  rw [decide_eq_true (rfl : xs = xs)]
  replace hb := hb.trans ((hq.below _).mono hb.size)
  clear hX hq
  go_wp2_with fail
  refine (works_any _).mono ?_
  rintro e V3 ⟨rfl, hb1⟩
  replace hb := hb.trans (hb1.mono hb.size)
  clear hb1
  go_wp2
  go_ret
  exact ⟨rfl, hb⟩

set_option maxRecDepth 100000 in
set_option maxHeartbeats 1000000 in
theorem crun_arg (r : Int) (an ac : Option Addr) (cn cc : Nat) (N C : List Int) (p c : Int) (a : Option Addr) (ca : Nat) (xs : List Int) (w : World) (hN : Ints w an N) (hC : Ints w ac C) (hX : Ints w a xs) (ho : (!farB N C && decide (xs.length ≤ 40)) = false) :
    Calls Try.prog 3 #[.agg #[.int .i64 r, .slice an N.length cn, .slice ac C.length cc], .agg #[.int .i64 p, .int .i64 c], .slice a xs.length ca] w (WorksP w) := by
  have lx := hX.len
  obtain ⟨W, hW, hb, hs, x0, x1⟩ := boxes2 w #[.int .i64 r, .slice an N.length cn, .slice ac C.length cc] 24 #[.int .i64 p, .int .i64 c] 26
  clear hs
  replace hN := hN.below hb (Nat.le_refl _); replace hC := hC.below hb (Nat.le_refl _)
  have c0 := x0.cell 0 rfl; have c1 := x0.cell 1 rfl; have c2 := x0.cell 2 rfl
  cases hf : farB N C
  · have d1 : decide ((40 : Int) < (xs.length : Int)) = true := by
      rw [hf] at ho; simp at ho; simp; omega
    clear ho
    go_enter Try.func3, Try.ntmps3
    go_wp2_with fail
    refine (far_any _ _ _ _ _ _ _ _ hN hC).mono ?_
    rintro e W1 ⟨rfl, hb1⟩
    rw [hf]
    replace hb := hb.trans (hb1.mono hb.size)
    clear hW x0 x1 c0 c1 c2 hb1 hN hC
    go_wp2_with fail
    refine (works_any _).mono ?_
    rintro e V3 ⟨rfl, hb1⟩
    replace hb := hb.trans (hb1.mono hb.size)
    clear hb1
    go_wp2
    go_ret
    exact ⟨rfl, hb⟩
  · clear ho
    go_enter Try.func3, Try.ntmps3
    go_wp2_with fail
    refine (far_any _ _ _ _ _ _ _ _ hN hC).mono ?_
    rintro e W1 ⟨rfl, hb1⟩
    rw [hf]
    replace hb := hb.trans (hb1.mono hb.size)
    clear hW x0 x1 c0 c1 c2 hb1 hN hC
    go_wp2_with fail
    refine (works_any _).mono ?_
    rintro e V3 ⟨rfl, hb1⟩
    replace hb := hb.trans (hb1.mono hb.size)
    clear hb1
    go_wp2
    go_ret
    exact ⟨rfl, hb⟩
theorem crun_any (r : Int) (an ac : Option Addr) (cn cc : Nat) (N C : List Int) (p c : Int) (a : Option Addr) (ca : Nat) (xs : List Int) (w : World) (hN : Ints w an N) (hC : Ints w ac C) (hX : Ints w a xs) :
    Calls Try.prog 3 #[.agg #[.int .i64 r, .slice an N.length cn, .slice ac C.length cc], .agg #[.int .i64 p, .int .i64 c], .slice a xs.length ca] w (WorksP w) := by
  cases ho : (!farB N C && decide (xs.length ≤ 40))
  · exact crun_arg _ _ _ _ _ _ _ p c a ca xs w hN hC hX ho
  · simp only [Bool.and_eq_true, Bool.not_eq_true', decide_eq_true_eq] at ho
    exact crun_ok _ _ _ _ _ _ _ p c a ca xs w hN hC hX ho.1 ho.2
end Go.Proofs.Ytmkmnedojgigoaa
