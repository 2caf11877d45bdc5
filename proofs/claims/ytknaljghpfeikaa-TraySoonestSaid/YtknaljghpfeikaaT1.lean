import Derived.Test.YtknaljghpfeikaaProg
import Derived.Test.YtknaljghpfeikaaM1
namespace Go.Proofs.Ytknaljghpfeikaa
open Go.RowKit

def inR (lo n hi : Int) : Bool := decide (lo ≤ n) && decide (n ≤ hi)
theorem inR_iff {lo n hi : Int} : inR lo n hi = true ↔ lo ≤ n ∧ n ≤ hi := by simp [inR]

set_option maxHeartbeats 400000 in
theorem isFrom_any (lo n hi : Int) (w : World) :
    Calls Try.prog 72 #[.int .i64 lo, .int .i64 n, .int .i64 hi] w fun e w' => e = .returned (.bool (inR lo n hi)) ∧ w = w' := by
  unfold inR
  by_cases h1 : lo ≤ n
  · go_enter Try.func72, Try.ntmps72
    go_wp2
    go_ret
    exact ⟨by simp [h1], rfl⟩
  · go_enter Try.func72, Try.ntmps72
    go_wp2
    go_ret
    exact ⟨by simp; omega, rfl⟩
set_option maxHeartbeats 400000 in
theorem within_any (n lo hi : Int) (w : World) :
    Calls Try.prog 56 #[.int .i64 n, .int .i64 lo, .int .i64 hi] w fun e w' => e = .returned (.bool (inR lo n hi)) ∧ w = w' := by
  unfold inR
  by_cases h1 : lo ≤ n
  · go_enter Try.func56, Try.ntmps56
    go_wp2
    go_ret
    exact ⟨by simp [h1], rfl⟩
  · go_enter Try.func56, Try.ntmps56
    go_wp2
    go_ret
    exact ⟨by simp; omega, rfl⟩
theorem isTime_any (n : Int) (w : World) : Calls Try.prog 57 #[.int .i64 n] w fun e w' => e = .returned (.bool (inR 0 n 9999)) ∧ w = w' := by
  go_enter Try.func57, Try.ntmps57
  go_wp2_with (first | (go_at_call 72; refine (isFrom_any _ _ _ _).mono ?_; rintro e w' ⟨rfl, rfl⟩))
  go_ret
  exact ⟨rfl, rfl⟩
theorem refTime_any (n : Int) (w : World) : Calls Try.prog 28 #[.int .i64 n] w fun e w' => e = .returned (.bool (inR 0 n 9999)) ∧ w = w' := by
  go_enter Try.func28, Try.ntmps28
  go_wp2_with (first | (go_at_call 56; refine (within_any _ _ _ _).mono ?_; rintro e w' ⟨rfl, rfl⟩))
  go_ret
  exact ⟨rfl, rfl⟩

set_option maxRecDepth 100000 in
set_option maxHeartbeats 1000000 in
theorem isSide_60 (ar ap : Option Addr) (cr cp : Nat) (rs ps : List (Int × Int)) (p0 way step : Int) (n : Int) (w : World) (hl : rs.length ≤ 4611686018427387903) : Calls Try.prog 60 #[.agg #[.slice ar rs.length cr, .int .i64 p0, .int .i64 way, .int .i64 step, .slice ap ps.length cp], .int .i64 n] w fun e w' => e = .returned (.bool (inR 0 n (2 * (rs.length : Int) - 1))) ∧ Below w.heap.size w w' := by
  have hlI : (rs.length : Int) ≤ 4611686018427387903 := by omega
  obtain ⟨W, hW, hb, hs, x0⟩ := boxes1 w #[.slice ar rs.length cr, .int .i64 p0, .int .i64 way, .int .i64 step, .slice ap ps.length cp] 25
  clear hs
  have c0 := x0.cell 0 rfl; have c1 := x0.cell 1 rfl; have c2 := x0.cell 2 rfl; have c3 := x0.cell 3 rfl; have c4 := x0.cell 4 rfl
  go_enter Try.func60, Try.ntmps60
  go_wp2_with (first | (go_at_call 72; refine (isFrom_any _ _ _ _).mono ?_; rintro e w' ⟨rfl, rfl⟩))
  go_ret
  exact ⟨rfl, hb⟩

set_option maxRecDepth 100000 in
set_option maxHeartbeats 1000000 in
theorem isSide_29 (ar ap : Option Addr) (cr cp : Nat) (rs ps : List (Int × Int)) (p0 way step : Int) (n : Int) (w : World) (hl : rs.length ≤ 4611686018427387903) : Calls Try.prog 29 #[.agg #[.slice ar rs.length cr, .int .i64 p0, .int .i64 way, .int .i64 step, .slice ap ps.length cp], .int .i64 n] w fun e w' => e = .returned (.bool (inR 0 n (2 * (rs.length : Int) - 1))) ∧ Below w.heap.size w w' := by
  have hlI : (rs.length : Int) ≤ 4611686018427387903 := by omega
  obtain ⟨W, hW, hb, hs, x0⟩ := boxes1 w #[.slice ar rs.length cr, .int .i64 p0, .int .i64 way, .int .i64 step, .slice ap ps.length cp] 25
  clear hs
  have c0 := x0.cell 0 rfl; have c1 := x0.cell 1 rfl; have c2 := x0.cell 2 rfl; have c3 := x0.cell 3 rfl; have c4 := x0.cell 4 rfl
  go_enter Try.func29, Try.ntmps29
  go_wp2_with (first | (go_at_call 56; refine (within_any _ _ _ _).mono ?_; rintro e w' ⟨rfl, rfl⟩))
  go_ret
  exact ⟨rfl, hb⟩

set_option maxRecDepth 100000 in
set_option maxHeartbeats 1000000 in
theorem isPress_any (ar ap : Option Addr) (cr cp : Nat) (rs ps : List (Int × Int)) (p0 way step : Int) (n : Int) (w : World) (hl : ps.length ≤ 4611686018427387903) : Calls Try.prog 27 #[.agg #[.slice ar rs.length cr, .int .i64 p0, .int .i64 way, .int .i64 step, .slice ap ps.length cp], .int .i64 n] w fun e w' => e = .returned (.bool (inR 0 n ((ps.length : Int) - 1))) ∧ Below w.heap.size w w' := by
  have hlI : (ps.length : Int) ≤ 4611686018427387903 := by omega
  obtain ⟨W, hW, hb, hs, x0⟩ := boxes1 w #[.slice ar rs.length cr, .int .i64 p0, .int .i64 way, .int .i64 step, .slice ap ps.length cp] 25
  clear hs
  have c0 := x0.cell 0 rfl; have c1 := x0.cell 1 rfl; have c2 := x0.cell 2 rfl; have c3 := x0.cell 3 rfl; have c4 := x0.cell 4 rfl
  go_enter Try.func27, Try.ntmps27
  go_wp2_with (first | (go_at_call 56; refine (within_any _ _ _ _).mono ?_; rintro e w' ⟨rfl, rfl⟩))
  go_ret
  exact ⟨rfl, hb⟩

def recB (r : Int × Int) : Bool := inR 1 r.1 999 && inR 1 r.2 999
def preB (n : Nat) (p : Int × Int) : Bool := inR 0 p.1 (2 * (n : Int) - 1) && inR 0 p.2 9999
/-- Whether a tray is valid. -/
def trB (rs ps : List (Int × Int)) (p0 way step : Int) : Bool :=
  (inR 1 rs.length 6 && decide ((ps.length : Int) ≤ 12)) && (rs.all recB && (ps.all (preB rs.length) && (inR 0 p0 (rs.length - 1) && ((decide (way = 1) || decide (way = -1)) && inR 0 step 60))))

set_option maxRecDepth 100000 in
set_option maxHeartbeats 3000000 in
theorem valid_any (ar ap : Option Addr) (cr cp : Nat) (rs ps : List (Int × Int)) (p0 way step : Int) (w : World) (hR : Prs w ar rs) (hP : Prs w ap ps) : Calls Try.prog 52 #[.agg #[.slice ar rs.length cr, .int .i64 p0, .int .i64 way, .int .i64 step, .slice ap ps.length cp]] w fun e w' => e = .returned (.bool (trB rs ps p0 way step)) ∧ Below w.heap.size w w' := by
  have lr : (rs.length : Int) ≤ 4611686018427387903 := by have := hR.1; omega
  have lp : (ps.length : Int) ≤ 4611686018427387903 := by have := hP.1; omega
  obtain ⟨W, hW, hb, hs, x0⟩ := boxes1 w #[.slice ar rs.length cr, .int .i64 p0, .int .i64 way, .int .i64 step, .slice ap ps.length cp] 25
  clear hs
  have c0 := x0.cell 0 rfl; have c1 := x0.cell 1 rfl; have c2 := x0.cell 2 rfl; have c3 := x0.cell 3 rfl; have c4 := x0.cell 4 rfl
  cases h1 : inR 1 (rs.length : Int) 6
  · go_enter Try.func52, Try.ntmps52
    go_wp2_with (first | (go_at_call 72; refine (isFrom_any _ _ _ _).mono ?_; rintro e w' ⟨rfl, rfl⟩))
    go_ret
    exact ⟨ret_bool (by unfold trB; rw [h1]; rfl), hb⟩
  by_cases h2 : (12 : Int) < (ps.length : Int)
  · go_enter Try.func52, Try.ntmps52
    go_wp2_with (first | (go_at_call 72; refine (isFrom_any _ _ _ _).mono ?_; rintro e w' ⟨rfl, rfl⟩))
    go_ret
    exact ⟨ret_bool (by unfold trB; rw [h1, decide_eq_false (by omega : ¬ (ps.length : Int) ≤ 12)]; rfl), hb⟩
  have htr : trB rs ps p0 way step = (rs.all recB && (ps.all (preB rs.length) && (inR 0 p0 (rs.length - 1) && ((decide (way = 1) || decide (way = -1)) && inR 0 step 60)))) := by
    unfold trB; rw [h1, decide_eq_true (by omega : (ps.length : Int) ≤ 12)]; simp
  have HTR := hid htr
  clear htr
  go_enter Try.func52, Try.ntmps52
  go_wp2_with (first | (go_at_call 72; refine (isFrom_any _ _ _ _).mono ?_; rintro e w' ⟨rfl, rfl⟩))
  clear hW c0 c1 c2 c3 c4 h1
  go_loopw [21] (fun v wr => ∃ k : Nat, k ≤ rs.length ∧ v = .int .i64 (k : Int) ∧ Below w.heap.size w wr ∧ Bx wr w.heap.size #[.slice ar rs.length cr, .int .i64 p0, .int .i64 way, .int .i64 step, .slice ap ps.length cp] 25 ∧ rs.all recB = (rs.drop k).all recB) (fun v _ => rs.length - (intOf v).toNat)
  case atStart => exact ⟨0, Nat.zero_le _, rfl, hb, x0, rfl⟩
  case round =>
    clear hb x0
    obtain ⟨k, hk, rfl, hb, x0, hn⟩ := hrel
    have Hn := hid hn; clear hn
    by_cases hlt : k < rs.length
    · obtain ⟨b, off, x, y, rfl, hbs, hc1, hc2, _, _, _, hd⟩ := (hR.below hb (Nat.le_refl _)).at hlt
      have hkI : (k : Int) < (rs.length : Int) := by omega
      have hk0 : (0 : Int) ≤ (k : Int) := by omega
      have hb1 := below_one (w := wr) (.cells #[.int .i64 x, .int .i64 y] 34)
      have hb2 := hb.trans (hb1.mono hb.size)
      have x02 := x0.below hb1
      have hrb : recB (x, y) = (inR 1 x 999 && inR 1 y 999) := rfl
      have Hrb := hid hrb
      clear hrb
      cases hx : inR 1 x 999
      · have hf : rs.all recB = false := by rw [Hn.out, hd.out, List.all_cons, Hrb.out, hx]; rfl
        have HF := hid hf; clear hf
        go_wp2_with (first | (go_at_call 72; refine (isFrom_any _ _ _ _).mono ?_; rintro e w' ⟨rfl, rfl⟩))
        go_ret
        exact ⟨ret_bool (by rw [HTR.out, HF.out]; rfl), hb2⟩
      cases hy : inR 1 y 999
      · have hf : rs.all recB = false := by rw [Hn.out, hd.out, List.all_cons, Hrb.out, hx, hy]; rfl
        have HF := hid hf; clear hf
        go_wp2_with (first | (go_at_call 72; refine (isFrom_any _ _ _ _).mono ?_; rintro e w' ⟨rfl, rfl⟩))
        go_ret
        exact ⟨ret_bool (by rw [HTR.out, HF.out]; rfl), hb2⟩
      have hf : rs.all recB = (rs.drop (k + 1)).all recB := by rw [Hn.out, hd.out, List.all_cons, Hrb.out, hx, hy]; rfl
      have HF := hid hf; clear hf
      go_wp2_with (first | (go_at_call 72; refine (isFrom_any _ _ _ _).mono ?_; rintro e w' ⟨rfl, rfl⟩))
      go_roundw
      case rel => exact ⟨k + 1, by omega, by go_num, hb2, x02, HF.out⟩
      case measure => simp [intOf]; omega
    · have hkI : (rs.length : Int) ≤ (k : Int) := by omega
      have hra : rs.all recB = true := by rw [Hn.out, drop_endP hk hlt]; rfl
      have HT2 := hid (show trB rs ps p0 way step = (ps.all (preB rs.length) && (inR 0 p0 (rs.length - 1) && ((decide (way = 1) || decide (way = -1)) && inR 0 step 60))) by rw [HTR.out, hra]; rfl)
      clear hra
      have c0 := x0.cell 0 rfl; have c1 := x0.cell 1 rfl; have c2 := x0.cell 2 rfl; have c3 := x0.cell 3 rfl; have c4 := x0.cell 4 rfl
      go_wp2
      clear c0 c1 c2 c3 c4
      obtain ⟨wo, rfl⟩ : ∃ wo : World, wo = wr := ⟨_, rfl⟩
      go_loopw [39] (fun v wr => ∃ j : Nat, j ≤ ps.length ∧ v = .int .i64 (j : Int) ∧ Below w.heap.size w wr ∧ Bx wr w.heap.size #[.slice ar rs.length cr, .int .i64 p0, .int .i64 way, .int .i64 step, .slice ap ps.length cp] 25 ∧ ps.all (preB rs.length) = (ps.drop j).all (preB rs.length)) (fun v _ => ps.length - (intOf v).toNat)
      case atStart => exact ⟨0, Nat.zero_le _, rfl, hb, x0, rfl⟩
      case round =>
        clear hb x0
        obtain ⟨j, hj, rfl, hb, x0, hn⟩ := hrel
        have Hn2 := hid hn; clear hn
        by_cases hlp : j < ps.length
        · obtain ⟨b, off, x, y, rfl, hbs, hc1, hc2, _, _, _, hd⟩ := (hP.below hb (Nat.le_refl _)).at hlp
          have hjI : (j : Int) < (ps.length : Int) := by omega
          have hj0 : (0 : Int) ≤ (j : Int) := by omega
          have hb1 := below_one (w := wr) (.cells #[.int .i64 x, .int .i64 y] 40)
          have xp := Bx.new wr #[.int .i64 x, .int .i64 y] 40
          have hb2 := hb.trans (hb1.mono hb.size)
          replace x0 := x0.below hb1
          have hpb : preB rs.length (x, y) = (inR 0 x (2 * (rs.length : Int) - 1) && inR 0 y 9999) := rfl
          have Hpb := hid hpb
          clear hpb
          go_upto_region 12 with fail
          generalize wr.alloc (.cells #[.int .i64 x, .int .i64 y] 40) = V at *
          generalize wr.heap.size = g at *
          have c0 := x0.cell 0 rfl; have c1 := x0.cell 1 rfl; have c2 := x0.cell 2 rfl; have c3 := x0.cell 3 rfl; have c4 := x0.cell 4 rfl
          have g0 := xp.cell 0 rfl; have g1 := xp.cell 1 rfl
          cases hx : inR 0 x (2 * (rs.length : Int) - 1)
          · have hf : ps.all (preB rs.length) = false := by rw [Hn2.out, hd.out, List.all_cons, Hpb.out, hx]; rfl
            have HF := hid hf; clear hf
            go_wp2_with fail
            refine (isSide_60 _ _ _ _ _ _ _ _ _ _ _ (by omega)).mono ?_
            rintro e V1 ⟨rfl, hb3⟩
            rw [hx]
            have hb4 := hb2.trans (hb3.mono hb2.size)
            clear c0 c1 c2 c3 c4 g0 g1
            go_wp2
            go_ret
            exact ⟨ret_bool (by rw [HT2.out, HF.out]; rfl), hb4⟩
          cases hy : inR 0 y 9999
          · have hf : ps.all (preB rs.length) = false := by rw [Hn2.out, hd.out, List.all_cons, Hpb.out, hx, hy]; rfl
            have HF := hid hf; clear hf
            go_wp2_with fail
            refine (isSide_60 _ _ _ _ _ _ _ _ _ _ _ (by omega)).mono ?_
            rintro e V1 ⟨rfl, hb3⟩
            rw [hx]
            have hb4 := hb2.trans (hb3.mono hb2.size)
            replace xp := xp.below hb3
            clear c0 c1 c2 c3 c4 g0 g1
            have g0 := xp.cell 0 rfl; have g1 := xp.cell 1 rfl
            go_wp2_with (first | (go_at_call 57; refine (isTime_any _ _).mono ?_; rintro e w' ⟨rfl, rfl⟩))
            go_ret
            exact ⟨ret_bool (by rw [HT2.out, HF.out]; rfl), hb4⟩
          have hf : ps.all (preB rs.length) = (ps.drop (j + 1)).all (preB rs.length) := by rw [Hn2.out, hd.out, List.all_cons, Hpb.out, hx, hy]; rfl
          have HF := hid hf; clear hf
          go_wp2_with fail
          refine (isSide_60 _ _ _ _ _ _ _ _ _ _ _ (by omega)).mono ?_
          rintro e V1 ⟨rfl, hb3⟩
          rw [hx]
          have hb4 := hb2.trans (hb3.mono hb2.size)
          replace xp := xp.below hb3; replace x0 := x0.below hb3
          clear c0 c1 c2 c3 c4 g0 g1
          have g0 := xp.cell 0 rfl; have g1 := xp.cell 1 rfl
          go_wp2_with (first | (go_at_call 57; refine (isTime_any _ _).mono ?_; rintro e w' ⟨rfl, rfl⟩))
          go_roundw
          case rel => exact ⟨j + 1, by omega, by go_num, hb4, x0, HF.out⟩
          case measure => simp [intOf]; omega
        · have hjI : (ps.length : Int) ≤ (j : Int) := by omega
          have hpa : ps.all (preB rs.length) = true := by rw [Hn2.out, drop_endP hj hlp]; rfl
          have HT3 := hid (show trB rs ps p0 way step = (inR 0 p0 (rs.length - 1) && ((decide (way = 1) || decide (way = -1)) && inR 0 step 60)) by rw [HT2.out, hpa]; rfl)
          clear hpa
          have c0 := x0.cell 0 rfl; have c1 := x0.cell 1 rfl; have c2 := x0.cell 2 rfl; have c3 := x0.cell 3 rfl; have c4 := x0.cell 4 rfl
          cases h3 : inR 0 p0 ((rs.length : Int) - 1)
          · go_wp2_with (first | (go_at_call 72; refine (isFrom_any _ _ _ _).mono ?_; rintro e w' ⟨rfl, rfl⟩))
            go_ret
            exact ⟨ret_bool (by rw [HT3.out, h3]; rfl), hb⟩
          by_cases hw1 : way = 1
          · subst hw1
            go_wp2_with (first | (go_at_call 72; refine (isFrom_any _ _ _ _).mono ?_; rintro e w' ⟨rfl, rfl⟩))
            go_ret
            exact ⟨ret_bool (by rw [HT3.out, h3]; simp), hb⟩
          have hw1B : (way == 1) = false := by simp [hw1]
          by_cases hw2 : way = -1
          · subst hw2
            go_wp2_with (first | (go_at_call 72; refine (isFrom_any _ _ _ _).mono ?_; rintro e w' ⟨rfl, rfl⟩))
            go_ret
            exact ⟨ret_bool (by rw [HT3.out, h3]; simp), hb⟩
          have hw2B : (way == -1) = false := by simp [hw2]
          have HW := hid (And.intro hw1 hw2)
          clear hw1 hw2
          go_wp2_with (first | (go_at_call 72; refine (isFrom_any _ _ _ _).mono ?_; rintro e w' ⟨rfl, rfl⟩))
          go_ret
          exact ⟨ret_bool (by rw [HT3.out, h3, decide_eq_false HW.out.1, decide_eq_false HW.out.2]; rfl), hb⟩
set_option maxRecDepth 100000 in
set_option maxHeartbeats 1000000 in
theorem check_any (ar ap : Option Addr) (cr cp : Nat) (rs ps : List (Int × Int)) (p0 way step : Int) (w : World) (hR : Prs w ar rs) (hP : Prs w ap ps) : Calls Try.prog 37 #[.agg #[.slice ar rs.length cr, .int .i64 p0, .int .i64 way, .int .i64 step, .slice ap ps.length cp]] w fun e w' => e = .returned (.int .i64 (if trB rs ps p0 way step then 0 else 20)) ∧ Below w.heap.size w w' := by
  have hva := fun W h1 h2 => valid_any ar ap cr cp rs ps p0 way step W h1 h2
  generalize trB rs ps p0 way step = bb at hva ⊢
  obtain ⟨W, hW, hb, hs, x0⟩ := boxes1 w #[.slice ar rs.length cr, .int .i64 p0, .int .i64 way, .int .i64 step, .slice ap ps.length cp] 25
  clear hs
  have c0 := x0.cell 0 rfl; have c1 := x0.cell 1 rfl; have c2 := x0.cell 2 rfl; have c3 := x0.cell 3 rfl; have c4 := x0.cell 4 rfl
  have hR0 := hR; have hP0 := hP
  cases bb
  · go_enter Try.func37, Try.ntmps37
    go_wp2_with fail
    refine (hva _ (hR0.below hb (Nat.le_refl _)) (hP0.below hb (Nat.le_refl _))).mono ?_
    rintro e W1 ⟨rfl, hb1⟩
    replace hb := hb.trans (hb1.mono hb.size)
    clear hva hW x0 c0 c1 c2 c3 c4 hb1
    go_wp2
    go_ret
    exact ⟨rfl, hb⟩
  · go_enter Try.func37, Try.ntmps37
    go_wp2_with fail
    refine (hva _ (hR0.below hb (Nat.le_refl _)) (hP0.below hb (Nat.le_refl _))).mono ?_
    rintro e W1 ⟨rfl, hb1⟩
    replace hb := hb.trans (hb1.mono hb.size)
    clear hva hW x0 c0 c1 c2 c3 c4 hb1
    go_wp2
    go_ret
    exact ⟨rfl, hb⟩
end Go.Proofs.Ytknaljghpfeikaa
