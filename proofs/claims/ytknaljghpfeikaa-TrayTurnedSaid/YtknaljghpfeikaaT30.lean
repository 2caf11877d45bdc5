import Derived.Test.YtknaljghpfeikaaT28
import Derived.Test.YtknaljghpfeikaaT29
namespace Go.Proofs.Ytknaljghpfeikaa
open Go.RowKit

theorem ret_i64 {a b : Int} (h : a = b) : Ending.returned (.int .i64 a) = .returned (.int .i64 b) := by rw [h]
set_option maxRecDepth 100000 in
set_option maxHeartbeats 4000000 in
/-- The reference's validity of a tray. -/
theorem rCheck_any (ar ap : Option Addr) (cr cp : Nat) (rs ps : List (Int × Int)) (p0 way step : Int) (w : World) (hR : Prs w ar rs) (hP : Prs w ap ps) : Calls Try.prog 38 #[.agg #[.slice ar rs.length cr, .int .i64 p0, .int .i64 way, .int .i64 step, .slice ap ps.length cp]] w fun e w' => e = .returned (.int .i64 (if trB rs ps p0 way step = true then 0 else 20)) ∧ Below w.heap.size w w' := by
  have lr : (rs.length : Int) ≤ 4611686018427387903 := by have := hR.1; omega
  obtain ⟨r, hr⟩ : ∃ r : Int, r = if trB rs ps p0 way step = true then 0 else 20 := ⟨_, rfl⟩
  rw [← hr]
  have HRR := hid hr
  clear hr
  obtain ⟨W, hW, hb, hs, x0⟩ := boxes1 w #[.slice ar rs.length cr, .int .i64 p0, .int .i64 way, .int .i64 step, .slice ap ps.length cp] 25
  clear hs
  have c0 := x0.cell 0 rfl; have c1 := x0.cell 1 rfl; have c2 := x0.cell 2 rfl; have c3 := x0.cell 3 rfl; have c4 := x0.cell 4 rfl
  cases h1 : inR 1 (rs.length : Int) 6
  · go_enter Try.func38, Try.ntmps38
    go_wp2_with (first | (go_at_call 56; refine (within_any _ _ _ _).mono ?_; rintro e w' ⟨rfl, rfl⟩))
    go_ret
    exact ⟨ret_i64 (by rw [HRR.out]; unfold trB; rw [h1]; rfl), hb⟩
  cases h3 : inR 0 p0 ((rs.length : Int) - 1)
  · go_enter Try.func38, Try.ntmps38
    go_wp2_with (first | (go_at_call 56; refine (within_any _ _ _ _).mono ?_; rintro e w' ⟨rfl, rfl⟩))
    go_ret
    exact ⟨ret_i64 (by rw [HRR.out]; unfold trB; rw [h3]; simp), hb⟩
  cases h5 : inR 0 step 60
  · by_cases hw : way = 1 ∨ way = -1
    · rcases hw with rfl | rfl
      · go_enter Try.func38, Try.ntmps38
        go_wp2_with (first | (go_at_call 56; refine (within_any _ _ _ _).mono ?_; rintro e w' ⟨rfl, rfl⟩))
        go_ret
        exact ⟨ret_i64 (by rw [HRR.out]; unfold trB; rw [h5]; simp), hb⟩
      · go_enter Try.func38, Try.ntmps38
        go_wp2_with (first | (go_at_call 56; refine (within_any _ _ _ _).mono ?_; rintro e w' ⟨rfl, rfl⟩))
        go_ret
        exact ⟨ret_i64 (by rw [HRR.out]; unfold trB; rw [h5]; simp), hb⟩
    · have hw1B : (way != 1) = true := by simp; omega
      have hw2B : (way != -1) = true := by simp; omega
      go_enter Try.func38, Try.ntmps38
      go_wp2_with (first | (go_at_call 56; refine (within_any _ _ _ _).mono ?_; rintro e w' ⟨rfl, rfl⟩))
      go_ret
      exact ⟨ret_i64 (by rw [HRR.out]; unfold trB; rw [h5]; simp), hb⟩
  by_cases hw : way = 1 ∨ way = -1
  rotate_left
  · have hw1B : (way != 1) = true := by simp; omega
    have hw2B : (way != -1) = true := by simp; omega
    have hwf : (decide (way = 1) || decide (way = -1)) = false := by simp; omega
    have HWF := hid hwf
    clear hwf hw
    go_enter Try.func38, Try.ntmps38
    go_wp2_with (first | (go_at_call 56; refine (within_any _ _ _ _).mono ?_; rintro e w' ⟨rfl, rfl⟩))
    go_ret
    exact ⟨ret_i64 (by rw [HRR.out]; unfold trB; rw [HWF.out]; simp), hb⟩
  have hwt : (decide (way = 1) || decide (way = -1)) = true := by rcases hw with rfl | rfl <;> rfl
  have htr : trB rs ps p0 way step = (rs.all recB && (decide (ps.length ≤ 12) && ps.all (preB rs.length))) := by
    unfold trB
    rw [h1, h3, h5, hwt]
    have e : decide ((ps.length : Int) ≤ 12) = decide (ps.length ≤ 12) := by
      by_cases h : ps.length ≤ 12
      · rw [decide_eq_true h, decide_eq_true (by omega)]
      · rw [decide_eq_false h, decide_eq_false (by omega)]
    rw [e]
    cases decide (ps.length ≤ 12) <;> cases rs.all recB <;> cases ps.all (preB rs.length) <;> rfl
  have HTR := hid (And.intro htr h1)
  clear htr hwt
  rcases hw with rfl | rfl

  · go_enter Try.func38, Try.ntmps38
    go_wp2_with (first | (go_at_call 56; refine (within_any _ _ _ _).mono ?_; rintro e w' ⟨rfl, rfl⟩))
    clear c0 c1 c2 c3 c4 h1 h3 h5 hW
    go_loopw [2, 3] (fun v2 v wr => ∃ k : Nat, k ≤ rs.length ∧ v2 = .int .i64 0 ∧ v = .int .i64 (k : Int) ∧ Below w.heap.size w wr ∧ Bx wr w.heap.size #[.slice ar rs.length cr, .int .i64 p0, .int .i64 (1), .int .i64 step, .slice ap ps.length cp] 25 ∧ Hid (rs.all recB = (rs.drop k).all recB)) (fun _ v _ => rs.length - (intOf v).toNat)
    case atStart => exact ⟨0, Nat.zero_le _, rfl, rfl, hb, x0, hid rfl⟩
    case round =>
      clear hb x0
      obtain ⟨k, hk, rfl, rfl, hb, x0, Hn⟩ := hrel
      by_cases hlt : k < rs.length
      · obtain ⟨b, off, x, y, rfl, hbs, hc1, hc2, _, _, _, hd⟩ := (hR.below hb (Nat.le_refl _)).at hlt
        have hkI : (k : Int) < (rs.length : Int) := by omega
        have hk0 : (0 : Int) ≤ (k : Int) := by omega
        have Hrb := hid (show recB (x, y) = (inR 1 x 999 && inR 1 y 999) from rfl)
        have c0 := x0.cell 0 rfl; have c1 := x0.cell 1 rfl; have c2 := x0.cell 2 rfl; have c3 := x0.cell 3 rfl; have c4 := x0.cell 4 rfl
        cases hx : inR 1 x 999
        · have HF := hid (show rs.all recB = false by rw [Hn.out, hd.out, List.all_cons, Hrb.out, hx]; rfl)
          go_wp2_with (first | (go_at_call 56; refine (within_any _ _ _ _).mono ?_; rintro e w' ⟨rfl, rfl⟩))
          go_ret
          exact ⟨ret_i64 (by rw [HRR.out, HTR.out.1, HF.out]; rfl), hb⟩
        cases hy : inR 1 y 999
        · have HF := hid (show rs.all recB = false by rw [Hn.out, hd.out, List.all_cons, Hrb.out, hx, hy]; rfl)
          go_wp2_with (first | (go_at_call 56; refine (within_any _ _ _ _).mono ?_; rintro e w' ⟨rfl, rfl⟩))
          go_ret
          exact ⟨ret_i64 (by rw [HRR.out, HTR.out.1, HF.out]; rfl), hb⟩
        have HF := hid (show rs.all recB = (rs.drop (k + 1)).all recB by rw [Hn.out, hd.out, List.all_cons, Hrb.out, hx, hy]; rfl)
        go_wp2_with (first | (go_at_call 56; refine (within_any _ _ _ _).mono ?_; rintro e w' ⟨rfl, rfl⟩))
        go_roundw
        case rel => exact ⟨k + 1, by omega, rfl, by go_num, hb, x0, HF⟩
        case measure => simp [intOf]; omega
      · have hkI : (rs.length : Int) ≤ (k : Int) := by omega
        have HT2 := hid (show rs.all recB = true by rw [Hn.out, drop_endP hk hlt]; rfl)
        have hp := fun W h1 h2 => presses_any ar ap cr cp rs ps p0 (1) step 12 W h1 h2 (by omega) (by have := (inR_iff.1 HTR.out.2).2; omega)
        rw [show (((12 : Nat)) : Int) = 12 from rfl] at hp
        obtain ⟨q, hq⟩ : ∃ q : Int, q = if (decide (ps.length ≤ 12) && ps.all (preB rs.length)) = true then 0 else 20 := ⟨_, rfl⟩
        rw [← hq] at hp
        have HQ := hid hq
        clear hq
        have c0 := x0.cell 0 rfl; have c1 := x0.cell 1 rfl; have c2 := x0.cell 2 rfl; have c3 := x0.cell 3 rfl; have c4 := x0.cell 4 rfl
        go_wp2_with fail
        refine (hp _ (hR.below hb (Nat.le_refl _)) (hP.below hb (Nat.le_refl _))).mono ?_
        rintro e W1 ⟨rfl, hb1⟩
        replace hb := hb.trans (hb1.mono hb.size)
        clear hp c0 c1 c2 c3 c4 x0 hb1
        go_wp2
        go_ret
        exact ⟨ret_i64 (by rw [HRR.out, HTR.out.1, HT2.out, HQ.out]; rfl), hb⟩

  · go_enter Try.func38, Try.ntmps38
    go_wp2_with (first | (go_at_call 56; refine (within_any _ _ _ _).mono ?_; rintro e w' ⟨rfl, rfl⟩))
    clear c0 c1 c2 c3 c4 h1 h3 h5 hW
    go_loopw [2, 3] (fun v2 v wr => ∃ k : Nat, k ≤ rs.length ∧ v2 = .int .i64 0 ∧ v = .int .i64 (k : Int) ∧ Below w.heap.size w wr ∧ Bx wr w.heap.size #[.slice ar rs.length cr, .int .i64 p0, .int .i64 (-1), .int .i64 step, .slice ap ps.length cp] 25 ∧ Hid (rs.all recB = (rs.drop k).all recB)) (fun _ v _ => rs.length - (intOf v).toNat)
    case atStart => exact ⟨0, Nat.zero_le _, rfl, rfl, hb, x0, hid rfl⟩
    case round =>
      clear hb x0
      obtain ⟨k, hk, rfl, rfl, hb, x0, Hn⟩ := hrel
      by_cases hlt : k < rs.length
      · obtain ⟨b, off, x, y, rfl, hbs, hc1, hc2, _, _, _, hd⟩ := (hR.below hb (Nat.le_refl _)).at hlt
        have hkI : (k : Int) < (rs.length : Int) := by omega
        have hk0 : (0 : Int) ≤ (k : Int) := by omega
        have Hrb := hid (show recB (x, y) = (inR 1 x 999 && inR 1 y 999) from rfl)
        have c0 := x0.cell 0 rfl; have c1 := x0.cell 1 rfl; have c2 := x0.cell 2 rfl; have c3 := x0.cell 3 rfl; have c4 := x0.cell 4 rfl
        cases hx : inR 1 x 999
        · have HF := hid (show rs.all recB = false by rw [Hn.out, hd.out, List.all_cons, Hrb.out, hx]; rfl)
          go_wp2_with (first | (go_at_call 56; refine (within_any _ _ _ _).mono ?_; rintro e w' ⟨rfl, rfl⟩))
          go_ret
          exact ⟨ret_i64 (by rw [HRR.out, HTR.out.1, HF.out]; rfl), hb⟩
        cases hy : inR 1 y 999
        · have HF := hid (show rs.all recB = false by rw [Hn.out, hd.out, List.all_cons, Hrb.out, hx, hy]; rfl)
          go_wp2_with (first | (go_at_call 56; refine (within_any _ _ _ _).mono ?_; rintro e w' ⟨rfl, rfl⟩))
          go_ret
          exact ⟨ret_i64 (by rw [HRR.out, HTR.out.1, HF.out]; rfl), hb⟩
        have HF := hid (show rs.all recB = (rs.drop (k + 1)).all recB by rw [Hn.out, hd.out, List.all_cons, Hrb.out, hx, hy]; rfl)
        go_wp2_with (first | (go_at_call 56; refine (within_any _ _ _ _).mono ?_; rintro e w' ⟨rfl, rfl⟩))
        go_roundw
        case rel => exact ⟨k + 1, by omega, rfl, by go_num, hb, x0, HF⟩
        case measure => simp [intOf]; omega
      · have hkI : (rs.length : Int) ≤ (k : Int) := by omega
        have HT2 := hid (show rs.all recB = true by rw [Hn.out, drop_endP hk hlt]; rfl)
        have hp := fun W h1 h2 => presses_any ar ap cr cp rs ps p0 (-1) step 12 W h1 h2 (by omega) (by have := (inR_iff.1 HTR.out.2).2; omega)
        rw [show (((12 : Nat)) : Int) = 12 from rfl] at hp
        obtain ⟨q, hq⟩ : ∃ q : Int, q = if (decide (ps.length ≤ 12) && ps.all (preB rs.length)) = true then 0 else 20 := ⟨_, rfl⟩
        rw [← hq] at hp
        have HQ := hid hq
        clear hq
        have c0 := x0.cell 0 rfl; have c1 := x0.cell 1 rfl; have c2 := x0.cell 2 rfl; have c3 := x0.cell 3 rfl; have c4 := x0.cell 4 rfl
        go_wp2_with fail
        refine (hp _ (hR.below hb (Nat.le_refl _)) (hP.below hb (Nat.le_refl _))).mono ?_
        rintro e W1 ⟨rfl, hb1⟩
        replace hb := hb.trans (hb1.mono hb.size)
        clear hp c0 c1 c2 c3 c4 x0 hb1
        go_wp2
        go_ret
        exact ⟨ret_i64 (by rw [HRR.out, HTR.out.1, HT2.out, HQ.out]; rfl), hb⟩

end Go.Proofs.Ytknaljghpfeikaa
