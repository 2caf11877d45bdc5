import Derived.Test.YtmkmnedojgigoaaA7
namespace Go.Proofs.Ytmkmnedojgigoaa
open Go.RowKit

theorem Wk.set {w : World} {R : Nat} {an ac ap : Option Addr} {N C P : List Int} (h : Wk w R an ac ap N C P) {b : Nat} (o : Off b an N.length ∧ Off b ac C.length ∧ Off b ap P.length) (i : Nat) (v : Value) :
    Wk (w.setCell ⟨b, i, none⟩ v) R an ac ap N C P := ⟨h.hN.set o.1 i v, h.hC.set o.2.1 i v, h.hP.set o.2.2 i v, h.v, h.hp⟩

def runL (R : Nat) (N C : List Int) : St → Nat → List Int → St × Nat
  | s, m, [] => (s, m)
  | s, m, a :: l => runL R N C (act R N C s a).1 (if (act R N C s a).2 then m + 1 else m) l

theorem act_bd {R : Nat} {N C : List Int} (hv : Vw R N C) {s : St} {a : Int} (ha : isActB C a = true) (hp : s.p < R) : (act R N C s a).1.p < R ∧ (act R N C s a).1.c ≤ s.c + 4000 := by
  unfold act
  have r1 := hv.r1
  have r2 := hv.r2
  split
  · split
    · exact ⟨hp, by show s.c ≤ _; omega⟩
    · exact ⟨by show 0 < R; omega, by show s.c - 1 ≤ _; omega⟩
  · rename_i h
    have hk : isKindB C a = true := by
      simp only [isActB, Bool.or_eq_true, beq_iff_eq] at ha
      exact ha.resolve_left h
    obtain ⟨n, rfl, hn⟩ := kind_nat hk
    have h1 := hv.coin hn
    have h2 := gv_le hv s.p (cw C n)
    simp only [Int.toNat_natCast]
    exact ⟨Nat.mod_lt _ (by omega), by omega⟩

theorem do_any (R : Nat) (an ac ap : Option Addr) (cn cc cp : Nat) (N C P : List Int) (s : St) (a : Int) (w : World) (hk : Wk w R an ac ap N C P) (hp : s.p < R) (hc : s.c ≤ 1000000) (ha : isActB C a = true) :
    Calls Try.prog 64 #[.agg #[.int .i64 (R : Int), .slice an N.length cn, .slice ac C.length cc, .slice ap P.length cp], .agg #[.int .i64 s.p, .int .i64 s.c], .int .i64 a] w fun e w' => e = .returned (.tuple #[.agg #[.int .i64 (act R N C s a).1.p, .int .i64 (act R N C s a).1.c], .bool (act R N C s a).2]) ∧ Below w.heap.size w w' := by
  by_cases h : a = -1
  · subst h
    by_cases h0 : s.c = 0
    · have e : act R N C s (-1) = (s, false) := by simp [act, h0]
      rw [e]
      have := do_sel0 R an ac ap cn cc cp N C P s.p w
      simpa [h0] using this
    · have e : act R N C s (-1) = (⟨0, s.c - 1⟩, true) := by simp [act, h0]
      rw [e]
      exact do_sel R an ac ap cn cc cp N C P s.p s.c w h0 hc
  · have hkk : isKindB C a = true := by
      simp only [isActB, Bool.or_eq_true, beq_iff_eq] at ha
      exact ha.resolve_left h
    obtain ⟨n, rfl, hn⟩ := kind_nat hkk
    have e : act R N C s (n : Int) = (⟨(s.p + cw C n) % R, s.c + gv R N s.p (cw C n)⟩, false) := by simp [act, h]
    rw [e]
    exact do_kind R an ac ap cn cc cp N C P s.p s.c n w hk hp hc hn

set_option maxRecDepth 100000 in
set_option maxHeartbeats 1000000 in
theorem run_bad (r : Int) (an ac : Option Addr) (cn cc : Nat) (N C : List Int) (p c : Int) (a : Option Addr) (ca : Nat) (xs : List Int) (w : World) (hN : Ints w an N) (hC : Ints w ac C) (hv : validB r N C = false) :
    Calls Try.prog 21 #[.agg #[.int .i64 r, .slice an N.length cn, .slice ac C.length cc], .agg #[.int .i64 p, .int .i64 c], .slice a xs.length ca] w fun e w' => e = .returned (.tuple #[.agg #[.int .i64 0, .int .i64 0], .int .i64 0, .int .i64 10]) ∧ Below w.heap.size w w' := by
  obtain ⟨W, hW, hb, hs, x0, x1, x2⟩ := boxes3 w #[.int .i64 r, .slice an N.length cn, .slice ac C.length cc] 24 #[.int .i64 p, .int .i64 c] 26 #[.int .i64 0, .int .i64 0] 26
  clear hs
  replace hN := hN.below hb (Nat.le_refl _); replace hC := hC.below hb (Nat.le_refl _)
  have c0 := x0.cell 0 rfl; have c1 := x0.cell 1 rfl; have c2 := x0.cell 2 rfl
  go_enter Try.func21, Try.ntmps21
  go_wp2_with fail
  refine (valid_any _ _ _ _ _ _ _ _ hN hC).mono ?_
  rintro e W1 ⟨rfl, hb1⟩
  (try clear d0 d1); replace x2 := x2.below hb1; have d0 := x2.cell 0 rfl; have d1 := x2.cell 1 rfl; (try clear f0 f1); have f0 := x2.free 0; have f1 := x2.free 1; replace hb := hb.trans (hb1.mono hb.size); clear hb1
  clear c0 c1 c2 hW
  go_wp2
  refine bodyPost_ret (v := .tuple #[.agg #[.int .i64 0, .int .i64 0], .int .i64 0, .int .i64 10]) ?_ rfl ⟨rfl, ?_⟩
  · simp [results, Try.results21, go_sem, d0, d1]
  · (repeat (first | with_reducible assumption | with_reducible refine Below.alloc ?_ (by simp; try omega) _ | with_reducible refine Below.setCell ?_ (by simp; try omega) _ | with_reducible refine below_drewN ?_ _ | with_reducible exact Below.refl _ _))

def okRun (R : Nat) (C : List Int) (p c : Int) (xs : List Int) : Bool := (inR 0 p (R - 1) && inR 0 c 20) && (decide (xs.length ≤ 20) && xs.all (isActB C))

set_option maxRecDepth 100000 in
set_option maxHeartbeats 1000000 in
theorem run_arg (R : Nat) (an ac : Option Addr) (cn cc : Nat) (N C : List Int) (p c : Int) (a : Option Addr) (ca : Nat) (xs : List Int) (w : World) (hN : Ints w an N) (hC : Ints w ac C) (hX : Ints w a xs) (hv : Vw R N C) (ho : okRun R C p c xs = false) :
    Calls Try.prog 21 #[.agg #[.int .i64 (R : Int), .slice an N.length cn, .slice ac C.length cc], .agg #[.int .i64 p, .int .i64 c], .slice a xs.length ca] w fun e w' => e = .returned (.tuple #[.agg #[.int .i64 0, .int .i64 0], .int .i64 0, .int .i64 1]) ∧ Below w.heap.size w w' := by
  obtain ⟨W, hW, hb, hs, x0, x1, x2⟩ := boxes3 w #[.int .i64 (R : Int), .slice an N.length cn, .slice ac C.length cc] 24 #[.int .i64 p, .int .i64 c] 26 #[.int .i64 0, .int .i64 0] 26
  clear hs
  replace hN := hN.below hb (Nat.le_refl _); replace hC := hC.below hb (Nat.le_refl _); replace hX := hX.below hb (Nat.le_refl _)
  have c0 := x0.cell 0 rfl; have c1 := x0.cell 1 rfl; have c2 := x0.cell 2 rfl
  have hval := hv.valid
  go_enter Try.func21, Try.ntmps21
  go_wp2_with fail
  refine (valid_any _ _ _ _ _ _ _ _ hN hC).mono ?_
  rintro e W1 ⟨rfl, hb1⟩
  clear hW
  replace hN := hN.below hb1 (Nat.le_refl _); replace hC := hC.below hb1 (Nat.le_refl _); replace hX := hX.below hb1 (Nat.le_refl _); (try clear c0 c1 c2); replace x0 := x0.below hb1; have c0 := x0.cell 0 rfl; have c1 := x0.cell 1 rfl; have c2 := x0.cell 2 rfl; replace x1 := x1.below hb1; replace x2 := x2.below hb1; replace hb := hb.trans (hb1.mono hb.size); clear hb1
  go_wp2_with fail
  refine (newWheel_any _ _ _ _ _ _ _ _ hN hC hv).mono ?_
  rintro e W2 ⟨ap, cp, P, rfl, hk, hb1, hap⟩
  replace hX := hX.below hb1 (Nat.le_refl _); replace x1 := x1.below hb1; replace x2 := x2.below hb1; replace hb := hb.trans (hb1.mono hb.size); clear hb1
  clear hN hC x0 c0 c1 c2 hval
  have hbw : w.heap.size ≤ W2.heap.size := hb.size
  have b1 := below_one (w := W2) (.cells #[.int .i64 (R : Int), .slice an N.length cn, .slice ac C.length cc, .slice ap P.length cp] 73)
  have x0 := Bx.new W2 #[.int .i64 (R : Int), .slice an N.length cn, .slice ac C.length cc, .slice ap P.length cp] 73
  replace hk := hk.below b1 (Nat.le_refl _); replace hX := hX.below b1 (Nat.le_refl _); replace hb := hb.trans (b1.mono hb.size); replace x1 := x1.below b1; replace x2 := x2.below b1
  clear b1
  have c0 := x0.cell 0 rfl; have c1 := x0.cell 1 rfl; have c2 := x0.cell 2 rfl; have c3 := x0.cell 3 rfl; have d0 := x1.cell 0 rfl; have d1 := x1.cell 1 rfl
  go_wp2_with fail
  generalize W2.alloc (.cells #[.int .i64 (R : Int), .slice an N.length cn, .slice ac C.length cc, .slice ap P.length cp] 73) = W3 at *
  generalize hg : W2.heap.size = g at *
  clear hg
  refine (isStand_any _ _ _ _ _ _ _ _ _ _ p c _ hv).mono ?_
  rintro e W4 ⟨rfl, hb1⟩
  replace hk := hk.below hb1 (Nat.le_refl _); replace hX := hX.below hb1 (Nat.le_refl _); (try clear c0 c1 c2 c3); replace x0 := x0.below hb1; have c0 := x0.cell 0 rfl; have c1 := x0.cell 1 rfl; have c2 := x0.cell 2 rfl; have c3 := x0.cell 3 rfl; (try clear d0 d1); replace x1 := x1.below hb1; have d0 := x1.cell 0 rfl; have d1 := x1.cell 1 rfl; (try clear g0 g1); replace x2 := x2.below hb1; have g0 := x2.cell 0 rfl; have g1 := x2.cell 1 rfl; (try clear f0 f1); have f0 := x2.free 0; have f1 := x2.free 1; replace hb := hb.trans (hb1.mono hb.size); clear hb1
  have hm := hX.len
  cases h1 : (inR 0 p (R - 1) && inR 0 c 20)
  · go_wp2
    refine bodyPost_ret (v := .tuple #[.agg #[.int .i64 0, .int .i64 0], .int .i64 0, .int .i64 1]) ?_ rfl ⟨rfl, ?_⟩
    · simp [results, Try.results21, go_sem, g0, g1]
    · (repeat (first | with_reducible assumption | with_reducible refine Below.alloc ?_ (by simp; try omega) _ | with_reducible refine Below.setCell ?_ (by simp; try omega) _ | with_reducible refine below_drewN ?_ _ | with_reducible exact Below.refl _ _))
  · have h2 : (decide (xs.length ≤ 20) && xs.all (isActB C)) = false := by simpa [okRun, h1] using ho
    go_wp2_with fail
    refine (isList_isAct _ _ _ _ _ _ _ _ _ _ _ _ _ _ hv hX).mono ?_
    rintro e W5 ⟨rfl, hb1⟩
    replace hk := hk.below hb1 (Nat.le_refl _); replace hX := hX.below hb1 (Nat.le_refl _); (try clear c0 c1 c2 c3); replace x0 := x0.below hb1; have c0 := x0.cell 0 rfl; have c1 := x0.cell 1 rfl; have c2 := x0.cell 2 rfl; have c3 := x0.cell 3 rfl; (try clear g0 g1); replace x2 := x2.below hb1; have g0 := x2.cell 0 rfl; have g1 := x2.cell 1 rfl; (try clear f0 f1); have f0 := x2.free 0; have f1 := x2.free 1; replace hb := hb.trans (hb1.mono hb.size); clear hb1
    go_wp2
    refine bodyPost_ret (v := .tuple #[.agg #[.int .i64 0, .int .i64 0], .int .i64 0, .int .i64 1]) ?_ rfl ⟨rfl, ?_⟩
    · simp [results, Try.results21, go_sem, g0, g1]
    · (repeat (first | with_reducible assumption | with_reducible refine Below.alloc ?_ (by simp; try omega) _ | with_reducible refine Below.setCell ?_ (by simp; try omega) _ | with_reducible refine below_drewN ?_ _ | with_reducible exact Below.refl _ _))

set_option maxRecDepth 100000 in
set_option maxHeartbeats 1000000 in
theorem run_good (R : Nat) (an ac : Option Addr) (cn cc : Nat) (N C : List Int) (p c : Nat) (a : Option Addr) (ca : Nat) (xs : List Int) (w : World) (hN : Ints w an N) (hC : Ints w ac C) (hX : Ints w a xs) (hv : Vw R N C) (ho : okRun R C p c xs = true) :
    Calls Try.prog 21 #[.agg #[.int .i64 (R : Int), .slice an N.length cn, .slice ac C.length cc], .agg #[.int .i64 p, .int .i64 c], .slice a xs.length ca] w fun e w' => e = .returned (.tuple #[.agg #[.int .i64 (runL R N C ⟨p, c⟩ 0 xs).1.p, .int .i64 (runL R N C ⟨p, c⟩ 0 xs).1.c], .int .i64 (runL R N C ⟨p, c⟩ 0 xs).2, .int .i64 0]) ∧ Below w.heap.size w w' := by
  obtain ⟨W, hW, hb, hs, x0, x1, x2⟩ := boxes3 w #[.int .i64 (R : Int), .slice an N.length cn, .slice ac C.length cc] 24 #[.int .i64 p, .int .i64 c] 26 #[.int .i64 0, .int .i64 0] 26
  clear hs
  have oN := Off.of_old hN (show w.heap.size ≤ w.heap.size + 1 + 1 by omega)
  have oC := Off.of_old hC (show w.heap.size ≤ w.heap.size + 1 + 1 by omega)
  have oX := Off.of_old hX (show w.heap.size ≤ w.heap.size + 1 + 1 by omega)
  replace hN := hN.below hb (Nat.le_refl _); replace hC := hC.below hb (Nat.le_refl _); replace hX := hX.below hb (Nat.le_refl _)
  have c0 := x0.cell 0 rfl; have c1 := x0.cell 1 rfl; have c2 := x0.cell 2 rfl
  have hval := hv.valid
  go_enter Try.func21, Try.ntmps21
  go_wp2_with fail
  refine (valid_any _ _ _ _ _ _ _ _ hN hC).mono ?_
  rintro e W1 ⟨rfl, hb1⟩
  clear hW
  replace hN := hN.below hb1 (Nat.le_refl _); replace hC := hC.below hb1 (Nat.le_refl _); replace hX := hX.below hb1 (Nat.le_refl _); (try clear c0 c1 c2); replace x0 := x0.below hb1; have c0 := x0.cell 0 rfl; have c1 := x0.cell 1 rfl; have c2 := x0.cell 2 rfl; replace x1 := x1.below hb1; replace x2 := x2.below hb1; replace hb := hb.trans (hb1.mono hb.size); clear hb1
  go_wp2_with fail
  refine (newWheel_any _ _ _ _ _ _ _ _ hN hC hv).mono ?_
  rintro e W2 ⟨ap, cp, P, rfl, hk, hb1, hap⟩
  have oP := Off.of_new (n := P.length) hap x2.lt
  replace hX := hX.below hb1 (Nat.le_refl _); replace x1 := x1.below hb1; replace x2 := x2.below hb1; replace hb := hb.trans (hb1.mono hb.size); clear hb1
  clear hN hC x0 c0 c1 c2 hval hap
  have hbw : w.heap.size ≤ W2.heap.size := hb.size
  have hbx := x2.lt
  have b1 := below_one (w := W2) (.cells #[.int .i64 (R : Int), .slice an N.length cn, .slice ac C.length cc, .slice ap P.length cp] 73)
  have x0 := Bx.new W2 #[.int .i64 (R : Int), .slice an N.length cn, .slice ac C.length cc, .slice ap P.length cp] 73
  replace hk := hk.below b1 (Nat.le_refl _); replace hX := hX.below b1 (Nat.le_refl _); replace hb := hb.trans (b1.mono hb.size); replace x1 := x1.below b1; replace x2 := x2.below b1
  clear b1
  have c0 := x0.cell 0 rfl; have c1 := x0.cell 1 rfl; have c2 := x0.cell 2 rfl; have c3 := x0.cell 3 rfl; have d0 := x1.cell 0 rfl; have d1 := x1.cell 1 rfl
  go_wp2_with fail
  generalize W2.alloc (.cells #[.int .i64 (R : Int), .slice an N.length cn, .slice ac C.length cc, .slice ap P.length cp] 73) = W3 at *
  generalize hg : W2.heap.size = g at *
  clear hg
  refine (isStand_any _ _ _ _ _ _ _ _ _ _ p c _ hv).mono ?_
  rintro e W4 ⟨rfl, hb1⟩
  replace hk := hk.below hb1 (Nat.le_refl _); replace hX := hX.below hb1 (Nat.le_refl _); (try clear c0 c1 c2 c3); replace x0 := x0.below hb1; have c0 := x0.cell 0 rfl; have c1 := x0.cell 1 rfl; have c2 := x0.cell 2 rfl; have c3 := x0.cell 3 rfl; (try clear d0 d1); replace x1 := x1.below hb1; have d0 := x1.cell 0 rfl; have d1 := x1.cell 1 rfl; (try clear g0 g1); replace x2 := x2.below hb1; have g0 := x2.cell 0 rfl; have g1 := x2.cell 1 rfl; (try clear f0 f1); have f0 := x2.free 0; have f1 := x2.free 1; replace hb := hb.trans (hb1.mono hb.size); clear hb1
  have hm := hX.len
  have ho' := ho
  rw [okRun, Bool.and_eq_true] at ho'
  obtain ⟨h1, h2⟩ := ho'
  go_wp2_with fail
  refine (isList_isAct _ _ _ _ _ _ _ _ _ _ _ _ _ _ hv hX).mono ?_
  rintro e W5 ⟨rfl, hb1⟩
  replace hk := hk.below hb1 (Nat.le_refl _); replace hX := hX.below hb1 (Nat.le_refl _); (try clear c0 c1 c2 c3); replace x0 := x0.below hb1; have c0 := x0.cell 0 rfl; have c1 := x0.cell 1 rfl; have c2 := x0.cell 2 rfl; have c3 := x0.cell 3 rfl; (try clear d0 d1); replace x1 := x1.below hb1; have d0 := x1.cell 0 rfl; have d1 := x1.cell 1 rfl; (try clear g0 g1); replace x2 := x2.below hb1; have g0 := x2.cell 0 rfl; have g1 := x2.cell 1 rfl; (try clear f0 f1); have f0 := x2.free 0; have f1 := x2.free 1; replace hb := hb.trans (hb1.mono hb.size); clear hb1
  go_wp2_with fail
  rw [Bool.and_eq_true] at h1 h2
  have hp0 := inR_iff.1 h1.1
  have hc0 := inR_iff.1 h1.2
  have hl : xs.length ≤ 20 := of_decide_eq_true h2.1
  have Ha := hid h2.2
  have r2 := hv.r2
  have hne : g ≠ w.heap.size + 1 + 1 := by omega
  clear h1 h2 ho
  go_loopw [7, 35] (fun m i wr => ∃ (k : Nat) (s : St) (q : Nat), k ≤ xs.length ∧ i = .int .i64 k ∧ m = .int .i64 q ∧ q ≤ k ∧ s.p < R ∧ s.c ≤ 20 + 4000 * k ∧ Below w.heap.size w wr ∧ Wk wr R an ac ap N C P ∧ Ints wr a xs ∧ Bx wr g #[.int .i64 (R : Int), .slice an N.length cn, .slice ac C.length cc, .slice ap P.length cp] 73 ∧ Bx wr (w.heap.size + 1 + 1) #[.int .i64 s.p, .int .i64 s.c] 26 ∧ runL R N C ⟨p, c⟩ 0 xs = runL R N C s q (xs.drop k) ∧ (xs.drop k).all (isActB C) = true) (fun _ i _ => xs.length - (intOf i).toNat)
  case atStart =>
    refine ⟨0, ⟨p, c⟩, 0, Nat.zero_le _, rfl, rfl, Nat.le_refl _, by show p < R; omega, by show c ≤ _; omega, ?_, ?_, ?_, ?_, (x2.set 0 _).set 1 _, rfl, Ha.out⟩
    · (repeat (first | with_reducible assumption | with_reducible refine Below.alloc ?_ (by simp; try omega) _ | with_reducible refine Below.setCell ?_ (by simp; try omega) _ | with_reducible refine below_drewN ?_ _ | with_reducible exact Below.refl _ _))
    · exact (hk.set ⟨oN, oC, oP⟩ _ _).set ⟨oN, oC, oP⟩ _ _
    · exact (hX.set oX _ _).set oX _ _
    · exact (x0.other hne _).other hne _
  case round =>
    clear hk hX x0 x2 x1 d0 d1 c0 c1 c2 c3 g0 g1 f0 f1 hb Ha hp0 hc0
    obtain ⟨k, s, q, hk', rfl, rfl, hq, hsp, hsc, hb, hk, hX, x0, x2, hn, ha⟩ := hrel
    have Hn := hid hn; clear hn
    have c0 := x0.cell 0 rfl; have c1 := x0.cell 1 rfl; have c2 := x0.cell 2 rfl; have c3 := x0.cell 3 rfl; have g0 := x2.cell 0 rfl; have g1 := x2.cell 1 rfl
    by_cases hlt : k < xs.length
    · obtain ⟨b, off, x, rfl, hbs, hc, _, _, hx, hd⟩ := hX.at hlt
      rw [hd.out, List.all_cons, Bool.and_eq_true] at ha
      obtain ⟨ha1, ha2⟩ := ha
      have Ha2 := hid ha2
      have bd := act_bd hv (s := s) ha1 hsp
      clear ha2
      go_wp2_with fail
      refine (do_any _ _ _ _ _ _ _ _ _ _ s x _ hk hsp (by omega) ha1).mono ?_
      rintro e W6 ⟨rfl, hb1⟩
      replace hk := hk.below hb1 (Nat.le_refl _); replace hX := hX.below hb1 (Nat.le_refl _); (try clear c0 c1 c2 c3); replace x0 := x0.below hb1; have c0 := x0.cell 0 rfl; have c1 := x0.cell 1 rfl; have c2 := x0.cell 2 rfl; have c3 := x0.cell 3 rfl; (try clear g0 g1); replace x2 := x2.below hb1; have g0 := x2.cell 0 rfl; have g1 := x2.cell 1 rfl; (try clear f0 f1); have f0 := x2.free 0; have f1 := x2.free 1; replace hb := hb.trans (hb1.mono hb.size); clear hb1
      clear hc hbs
      have hl2 := x2.lt
      have hlg := x0.lt
      cases hs : (act R N C s x).2
      · have Hs := hid hs; clear hs
        go_wp2
        go_roundw
        case rel =>
          refine ⟨k + 1, (act R N C s x).1, q, by omega, by go_num, rfl, by omega, bd.1, by omega, ?_, ?_, ?_, ?_, ((x2.set 0 _).set 1 _).alloc _, by rw [Hn.out, hd.out, runL, Hs.out]; simp, Ha2.out⟩
          · (repeat (first | with_reducible assumption | with_reducible refine Below.alloc ?_ (by simp; try omega) _ | with_reducible refine Below.setCell ?_ (by simp; try omega) _ | with_reducible refine below_drewN ?_ _ | with_reducible exact Below.refl _ _))
          · exact ((hk.set ⟨oN, oC, oP⟩ _ _).set ⟨oN, oC, oP⟩ _ _).alloc _
          · exact ((hX.set oX _ _).set oX _ _).alloc _
          · exact ((x0.other hne _).other hne _).alloc _
        case measure => simp [intOf]; omega
      · have Hs := hid hs; clear hs
        go_wp2
        go_roundw
        case rel =>
          refine ⟨k + 1, (act R N C s x).1, q + 1, by omega, by go_num, by go_num, by omega, bd.1, by omega, ?_, ?_, ?_, ?_, ((x2.set 0 _).set 1 _).alloc _, by rw [Hn.out, hd.out, runL, Hs.out]; simp, Ha2.out⟩
          · (repeat (first | with_reducible assumption | with_reducible refine Below.alloc ?_ (by simp; try omega) _ | with_reducible refine Below.setCell ?_ (by simp; try omega) _ | with_reducible refine below_drewN ?_ _ | with_reducible exact Below.refl _ _))
          · exact ((hk.set ⟨oN, oC, oP⟩ _ _).set ⟨oN, oC, oP⟩ _ _).alloc _
          · exact ((hX.set oX _ _).set oX _ _).alloc _
          · exact ((x0.other hne _).other hne _).alloc _
        case measure => simp [intOf]; omega
    · have f0 := x2.free 0; have f1 := x2.free 1
      rw [drop_end hk' hlt] at Hn
      have e : runL R N C ⟨p, c⟩ 0 xs = (s, q) := Hn.out
      have E := hid e
      clear e Hn ha
      go_wp2
      refine bodyPost_ret (v := .tuple #[.agg #[.int .i64 s.p, .int .i64 s.c], .int .i64 q, .int .i64 0]) ?_ rfl ⟨by rw [E.out], ?_⟩
      · simp [results, Try.results21, go_sem, g0, g1]
      · (repeat (first | with_reducible assumption | with_reducible refine Below.alloc ?_ (by simp; try omega) _ | with_reducible refine Below.setCell ?_ (by simp; try omega) _ | with_reducible refine below_drewN ?_ _ | with_reducible exact Below.refl _ _))

end Go.Proofs.Ytmkmnedojgigoaa
namespace Go.Proofs.Ytmkmnedojgigoaa
open Go.RowKit

set_option maxRecDepth 100000 in
set_option maxHeartbeats 1000000 in
theorem more_any (a b : Int) (w : World) :
    Calls Try.prog 75 #[.int .i64 a, .int .i64 b] w fun e w' => e = .returned (.bool (decide (b < a))) ∧ w = w' := by
  go_enter Try.func75, Try.ntmps75
  go_wp2
  go_ret
  exact ⟨rfl, rfl⟩
set_option maxRecDepth 100000 in
set_option maxHeartbeats 1000000 in
theorem fewer_any (a b : Int) (w : World) :
    Calls Try.prog 78 #[.int .i64 a, .int .i64 b] w fun e w' => e = .returned (.bool (decide (a < b))) ∧ w = w' := by
  go_enter Try.func78, Try.ntmps78
  go_wp2
  go_ret
  exact ⟨rfl, rfl⟩

set_option maxRecDepth 100000 in
set_option maxHeartbeats 1000000 in
theorem count_any (b0 b1 b2 b3 : Nat) (w : World) (h0 : b0 ≤ 1000) (h1 : b1 ≤ 1000) (h2 : b2 ≤ 1000) (h3 : b3 ≤ 1000) :
    Calls Try.prog 113 #[.agg #[.int .i64 b0, .int .i64 b1, .int .i64 b2, .int .i64 b3]] w fun e w' => e = .returned (.int .i64 (b0 + b1 + b2 + b3 : Nat)) ∧ Below w.heap.size w w' := by
  have i0 : ∀ w, (Instr.index 92 (.agg #[.int .i64 b0, .int .i64 b1, .int .i64 b2, .int .i64 b3]) (.int .i64 0)).run Try.prog w = .ok (.int .i64 b0) w := fun _ => by kernel_rfl
  have i1 : ∀ w, (Instr.index 92 (.agg #[.int .i64 b0, .int .i64 b1, .int .i64 b2, .int .i64 b3]) (.int .i64 1)).run Try.prog w = .ok (.int .i64 b1) w := fun _ => by kernel_rfl
  have i2 : ∀ w, (Instr.index 92 (.agg #[.int .i64 b0, .int .i64 b1, .int .i64 b2, .int .i64 b3]) (.int .i64 2)).run Try.prog w = .ok (.int .i64 b2) w := fun _ => by kernel_rfl
  have i3 : ∀ w, (Instr.index 92 (.agg #[.int .i64 b0, .int .i64 b1, .int .i64 b2, .int .i64 b3]) (.int .i64 3)).run Try.prog w = .ok (.int .i64 b3) w := fun _ => by kernel_rfl
  go_enter Try.func113, Try.ntmps113
  go_wp2
  refine wp_loop_rounds 5 ?_
  rw [rounds_succ]
  go_wp2
  rw [rounds_succ]
  go_wp2
  rw [rounds_succ]
  go_wp2
  rw [rounds_succ]
  go_wp2
  rw [rounds_succ]
  go_wp2
  go_ret
  exact ⟨ret_int (by omega), by (repeat (first | with_reducible assumption | with_reducible refine Below.alloc ?_ (by simp; try omega) _ | with_reducible refine Below.setCell ?_ (by simp; try omega) _ | with_reducible refine below_drewN ?_ _ | with_reducible exact Below.refl _ _))⟩


set_option maxRecDepth 100000 in
set_option maxHeartbeats 1000000 in
theorem can_0 (R : Nat) (an ac ap : Option Addr) (cn cc cp : Nat) (N C P : List Int) (F : Value) (mb : Nat) (b0 b1 b2 b3 p c : Nat) (w : World) :
    Calls Try.prog 114 #[.agg #[.int .i64 (R : Int), .slice an N.length cn, .slice ac C.length cc, .slice ap P.length cp, F, .map (some mb)], .agg #[.int .i64 b0, .int .i64 b1, .int .i64 b2, .int .i64 b3, .int .i64 p, .int .i64 c], .int .i64 0] w fun e w' => e = .returned (.bool (decide (0 < b0))) ∧ Below w.heap.size w w' := by
  go_enter Try.func114, Try.ntmps114
  go_wp2
  go_ret
  exact ⟨rfl, by (repeat (first | with_reducible assumption | with_reducible refine Below.alloc ?_ (by simp; try omega) _ | with_reducible refine Below.setCell ?_ (by simp; try omega) _ | with_reducible refine below_drewN ?_ _ | with_reducible exact Below.refl _ _))⟩

set_option maxRecDepth 100000 in
set_option maxHeartbeats 1000000 in
theorem can_1 (R : Nat) (an ac ap : Option Addr) (cn cc cp : Nat) (N C P : List Int) (F : Value) (mb : Nat) (b0 b1 b2 b3 p c : Nat) (w : World) :
    Calls Try.prog 114 #[.agg #[.int .i64 (R : Int), .slice an N.length cn, .slice ac C.length cc, .slice ap P.length cp, F, .map (some mb)], .agg #[.int .i64 b0, .int .i64 b1, .int .i64 b2, .int .i64 b3, .int .i64 p, .int .i64 c], .int .i64 1] w fun e w' => e = .returned (.bool (decide (0 < b1))) ∧ Below w.heap.size w w' := by
  go_enter Try.func114, Try.ntmps114
  go_wp2
  go_ret
  exact ⟨rfl, by (repeat (first | with_reducible assumption | with_reducible refine Below.alloc ?_ (by simp; try omega) _ | with_reducible refine Below.setCell ?_ (by simp; try omega) _ | with_reducible refine below_drewN ?_ _ | with_reducible exact Below.refl _ _))⟩

set_option maxRecDepth 100000 in
set_option maxHeartbeats 1000000 in
theorem can_2 (R : Nat) (an ac ap : Option Addr) (cn cc cp : Nat) (N C P : List Int) (F : Value) (mb : Nat) (b0 b1 b2 b3 p c : Nat) (w : World) :
    Calls Try.prog 114 #[.agg #[.int .i64 (R : Int), .slice an N.length cn, .slice ac C.length cc, .slice ap P.length cp, F, .map (some mb)], .agg #[.int .i64 b0, .int .i64 b1, .int .i64 b2, .int .i64 b3, .int .i64 p, .int .i64 c], .int .i64 2] w fun e w' => e = .returned (.bool (decide (0 < b2))) ∧ Below w.heap.size w w' := by
  go_enter Try.func114, Try.ntmps114
  go_wp2
  go_ret
  exact ⟨rfl, by (repeat (first | with_reducible assumption | with_reducible refine Below.alloc ?_ (by simp; try omega) _ | with_reducible refine Below.setCell ?_ (by simp; try omega) _ | with_reducible refine below_drewN ?_ _ | with_reducible exact Below.refl _ _))⟩

set_option maxRecDepth 100000 in
set_option maxHeartbeats 1000000 in
theorem can_3 (R : Nat) (an ac ap : Option Addr) (cn cc cp : Nat) (N C P : List Int) (F : Value) (mb : Nat) (b0 b1 b2 b3 p c : Nat) (w : World) :
    Calls Try.prog 114 #[.agg #[.int .i64 (R : Int), .slice an N.length cn, .slice ac C.length cc, .slice ap P.length cp, F, .map (some mb)], .agg #[.int .i64 b0, .int .i64 b1, .int .i64 b2, .int .i64 b3, .int .i64 p, .int .i64 c], .int .i64 3] w fun e w' => e = .returned (.bool (decide (0 < b3))) ∧ Below w.heap.size w w' := by
  go_enter Try.func114, Try.ntmps114
  go_wp2
  go_ret
  exact ⟨rfl, by (repeat (first | with_reducible assumption | with_reducible refine Below.alloc ?_ (by simp; try omega) _ | with_reducible refine Below.setCell ?_ (by simp; try omega) _ | with_reducible refine below_drewN ?_ _ | with_reducible exact Below.refl _ _))⟩

set_option maxRecDepth 100000 in
set_option maxHeartbeats 1000000 in
theorem can_m (R : Nat) (an ac ap : Option Addr) (cn cc cp : Nat) (N C P : List Int) (F : Value) (mb : Nat) (b0 b1 b2 b3 p c : Nat) (w : World) :
    Calls Try.prog 114 #[.agg #[.int .i64 (R : Int), .slice an N.length cn, .slice ac C.length cc, .slice ap P.length cp, F, .map (some mb)], .agg #[.int .i64 b0, .int .i64 b1, .int .i64 b2, .int .i64 b3, .int .i64 p, .int .i64 c], .int .i64 (-1)] w fun e w' => e = .returned (.bool (decide (0 < c) && decide (0 < p))) ∧ Below w.heap.size w w' := by
  by_cases h : 0 < c
  · go_enter Try.func114, Try.ntmps114
    go_wp2
    go_ret
    exact ⟨ret_bool (by simp only [h, decide_true, Bool.true_and]), by (repeat (first | with_reducible assumption | with_reducible refine Below.alloc ?_ (by simp; try omega) _ | with_reducible refine Below.setCell ?_ (by simp; try omega) _ | with_reducible refine below_drewN ?_ _ | with_reducible exact Below.refl _ _))⟩
  · go_enter Try.func114, Try.ntmps114
    go_wp2
    go_ret
    exact ⟨ret_bool (by simp only [h, decide_false, Bool.false_and]), by (repeat (first | with_reducible assumption | with_reducible refine Below.alloc ?_ (by simp; try omega) _ | with_reducible refine Below.setCell ?_ (by simp; try omega) _ | with_reducible refine below_drewN ?_ _ | with_reducible exact Below.refl _ _))⟩

end Go.Proofs.Ytmkmnedojgigoaa
