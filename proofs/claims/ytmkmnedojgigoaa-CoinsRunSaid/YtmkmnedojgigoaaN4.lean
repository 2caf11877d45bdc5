import Derived.Test.YtmkmnedojgigoaaN3
import Derived.Test.YtmkmnedojgigoaaM1
namespace Go.Proofs.Ytmkmnedojgigoaa
open Go.RowKit

/-- What Run answers. -/
structure RunR where
  p : Int
  c : Int
  m : Int
  e : Int
def ruR (r : Int) (N C : List Int) (p c : Int) (xs : List Int) : RunR :=
  if validB r N C then (if okRun r.toNat C p c xs then ⟨(runL r.toNat N C ⟨p.toNat, c.toNat⟩ 0 xs).1.p, (runL r.toNat N C ⟨p.toNat, c.toNat⟩ 0 xs).1.c, (runL r.toNat N C ⟨p.toNat, c.toNat⟩ 0 xs).2, 0⟩ else ⟨0, 0, 0, 1⟩) else ⟨0, 0, 0, 10⟩
theorem okRun_nat {R : Nat} {C : List Int} {p c : Int} {xs : List Int} (h : okRun R C p c xs = true) : ∃ a b : Nat, p = a ∧ c = b := by
  simp only [okRun, Bool.and_eq_true, inR_iff] at h
  exact ⟨p.toNat, c.toNat, by omega, by omega⟩

theorem run_any (r : Int) (an ac : Option Addr) (cn cc : Nat) (N C : List Int) (p c : Int) (a : Option Addr) (ca : Nat) (xs : List Int) (w : World) (hN : Ints w an N) (hC : Ints w ac C) (hX : Ints w a xs) :
    Calls Try.prog 21 #[.agg #[.int .i64 r, .slice an N.length cn, .slice ac C.length cc], .agg #[.int .i64 p, .int .i64 c], .slice a xs.length ca] w fun e w' => e = .returned (.tuple #[.agg #[.int .i64 (ruR r N C p c xs).p, .int .i64 (ruR r N C p c xs).c], .int .i64 (ruR r N C p c xs).m, .int .i64 (ruR r N C p c xs).e]) ∧ Below w.heap.size w w' := by
  cases hv : validB r N C
  · rw [ruR, hv]; exact run_bad r an ac cn cc N C p c a ca xs w hN hC hv
  · obtain ⟨R, rfl, hw⟩ := Vw.of_valid hv
    rw [ruR, hv, if_pos rfl, Int.toNat_natCast]
    cases ho : okRun R C p c xs
    · exact run_arg R an ac cn cc N C p c a ca xs w hN hC hX hw ho
    · obtain ⟨a', b', rfl, rfl⟩ := okRun_nat ho
      exact run_good R an ac cn cc N C a' b' a ca xs w hN hC hX hw ho

theorem rrun_any (r : Int) (an ac : Option Addr) (cn cc : Nat) (N C : List Int) (p c : Int) (a : Option Addr) (ca : Nat) (xs : List Int) (w : World) (hN : Ints w an N) (hC : Ints w ac C) (hX : Ints w a xs) :
    Calls Try.prog 22 #[.agg #[.int .i64 r, .slice an N.length cn, .slice ac C.length cc], .agg #[.int .i64 p, .int .i64 c], .slice a xs.length ca] w fun e w' => e = .returned (.tuple #[.agg #[.int .i64 (ruR r N C p c xs).p, .int .i64 (ruR r N C p c xs).c], .int .i64 (ruR r N C p c xs).m, .int .i64 (ruR r N C p c xs).e]) ∧ Below w.heap.size w w' := by
  cases hv : validB r N C
  · rw [ruR, hv]; exact rrun_bad r an ac cn cc N C p c a ca xs w hN hC hv
  · obtain ⟨R, rfl, hw⟩ := Vw.of_valid hv
    rw [ruR, hv, if_pos rfl, Int.toNat_natCast]
    cases ho : okRun R C p c xs
    · exact rrun_arg R an ac cn cc N C p c a ca xs w hN hC hX hw ho
    · obtain ⟨a', b', rfl, rfl⟩ := okRun_nat ho
      exact rrun_ok R an ac cn cc N C a' b' a ca xs w hN hC hX hw ho


set_option maxRecDepth 100000 in
set_option maxHeartbeats 1000000 in
theorem crun_ok (r : Int) (an ac : Option Addr) (cn cc : Nat) (N C : List Int) (p c : Int) (a : Option Addr) (ca : Nat) (xs : List Int) (w : World) (hN : Ints w an N) (hC : Ints w ac C) (hX : Ints w a xs) (hf : farB N C = false) (hl : xs.length ≤ 40) :
    Calls Try.prog 3 #[.agg #[.int .i64 r, .slice an N.length cn, .slice ac C.length cc], .agg #[.int .i64 p, .int .i64 c], .slice a xs.length ca] w (WorksP w) := by
  obtain ⟨j0, hj, jz0, jz1, jz2⟩ := info_parts info3
  have hnl : N.length ≤ 40 ∧ C.length ≤ 40 := by
    simp only [farB, Bool.or_eq_false_iff, decide_eq_false_iff_not] at hf; omega
  have hN0 := hN; have hC0 := hC; have hX0 := hX
  have d1 : decide ((40 : Int) < (xs.length : Int)) = false := by simp; omega
  obtain ⟨⟨rp, rc, rm, re⟩, hru⟩ : ∃ t, t = ruR r N C p c xs := ⟨_, rfl⟩
  obtain ⟨⟨pv, pe⟩, hpl⟩ : ∃ t, t = plR r N C p xs := ⟨_, rfl⟩
  have ru : ∀ (an' ac' a' : Option Addr) (cn' cc' ca' : Nat) (W : World), Ints W an' N → Ints W ac' C → Ints W a' xs → Calls Try.prog 21 #[.agg #[.int .i64 r, .slice an' N.length cn', .slice ac' C.length cc'], .agg #[.int .i64 p, .int .i64 c], .slice a' xs.length ca'] W fun e w' => e = .returned (.tuple #[.agg #[.int .i64 rp, .int .i64 rc], .int .i64 rm, .int .i64 re]) ∧ Below W.heap.size W w' := fun an' ac' a' cn' cc' ca' W h1 h2 h3 => by
    have := run_any r an' ac' cn' cc' N C p c a' ca' xs W h1 h2 h3
    rw [← hru] at this; exact this
  have rr : ∀ W : World, Ints W an N → Ints W ac C → Ints W a xs → Calls Try.prog 22 #[.agg #[.int .i64 r, .slice an N.length cn, .slice ac C.length cc], .agg #[.int .i64 p, .int .i64 c], .slice a xs.length ca] W fun e w' => e = .returned (.tuple #[.agg #[.int .i64 rp, .int .i64 rc], .int .i64 rm, .int .i64 re]) ∧ Below W.heap.size W w' := fun W h1 h2 h3 => by
    have := rrun_any r an ac cn cc N C p c a ca xs W h1 h2 h3
    rw [← hru] at this; exact this
  have pu : ∀ (an' ac' a' : Option Addr) (cn' cc' ca' : Nat) (W : World), Ints W an' N → Ints W ac' C → Ints W a' xs → Calls Try.prog 23 #[.agg #[.int .i64 r, .slice an' N.length cn', .slice ac' C.length cc'], .int .i64 p, .slice a' xs.length ca'] W fun e w' => e = .returned (.tuple #[.int .i64 pv, .int .i64 pe]) ∧ Below W.heap.size W w' := fun an' ac' a' cn' cc' ca' W h1 h2 h3 => by
    have := plays_any r an' ac' cn' cc' N C p a' ca' xs W h1 h2 h3
    rw [← hpl] at this; exact this
  have pr : ∀ W : World, Ints W an N → Ints W ac C → Ints W a xs → Calls Try.prog 24 #[.agg #[.int .i64 r, .slice an N.length cn, .slice ac C.length cc], .int .i64 p, .slice a xs.length ca] W fun e w' => e = .returned (.tuple #[.int .i64 pv, .int .i64 pe]) ∧ Below W.heap.size W w' := fun W h1 h2 h3 => by
    have := rplays_any r an ac cn cc N C p a ca xs W h1 h2 h3
    rw [← hpl] at this; exact this
  obtain ⟨kk, hkk⟩ : ∃ kk, kk = chk r N C := ⟨_, rfl⟩
  have ck : ∀ (an' ac' : Option Addr) (cn' cc' : Nat) (W : World), Ints W an' N → Ints W ac' C → Calls Try.prog 19 #[.agg #[.int .i64 r, .slice an' N.length cn', .slice ac' C.length cc']] W fun e w' => e = .returned (.int .i64 kk) ∧ Below W.heap.size W w' := fun an' ac' cn' cc' W h1 h2 => by
    rw [hkk]; exact codeCheck_any r an' ac' cn' cc' N C W h1 h2
  have cr : ∀ (an' ac' : Option Addr) (cn' cc' : Nat) (W : World), Ints W an' N → Ints W ac' C → Calls Try.prog 20 #[.agg #[.int .i64 r, .slice an' N.length cn', .slice ac' C.length cc']] W fun e w' => e = .returned (.int .i64 kk) ∧ Below W.heap.size W w' := fun an' ac' cn' cc' W h1 h2 => by
    rw [hkk]; exact refCheck_any r an' ac' cn' cc' N C W h1 h2
  clear hru hpl hkk
  obtain ⟨W, hW, hb, hs, x0, x1⟩ := boxes2 w #[.int .i64 r, .slice an N.length cn, .slice ac C.length cc] 24 #[.int .i64 p, .int .i64 c] 26
  clear hs hN hC hX
  have c0 := x0.cell 0 rfl; have c1 := x0.cell 1 rfl; have c2 := x0.cell 2 rfl
  go_enter Try.func3, Try.ntmps3
  go_wp2_with fail
  refine (far_any _ _ _ _ _ _ _ _ (hN0.below hb (Nat.le_refl _)) (hC0.below hb (Nat.le_refl _))).mono ?_
  rintro e W1 ⟨rfl, hb1⟩
  rw [hf]
  clear hW
  replace x1 := x1.below hb1; (try clear c0 c1 c2); replace x0 := x0.below hb1; have c0 := x0.cell 0 rfl; have c1 := x0.cell 1 rfl; have c2 := x0.cell 2 rfl; replace hb := hb.trans (hb1.mono hb.size); clear hb1
  go_wp2_with fail
  refine (copy_any _ _ _ _ _ _ _ _ (hN0.below hb (Nat.le_refl _)) (hC0.below hb (Nat.le_refl _)) hnl.1 hnl.2).mono ?_
  rintro e W2 ⟨hb1, a1, a2, e1, e2, rfl, hN, hC⟩
  replace x0 := x0.below hb1; replace x1 := x1.below hb1; replace hb := hb.trans (hb1.mono hb.size); clear hb1
  clear c0 c1 c2 hf
  have hA := own_lit0 W2 3 1
  have hb1 := below_one (w := W2) (.cells #[] 3)
  have hcl := ((hX0.below hb (Nat.le_refl _)).below hb1 (Nat.le_refl _)).cls
  go_wp2_with (at_builtin; refine wpList_app rfl (.tmp 29) (.tmp 30) 22 rfl W2.heap.size 3 j0 (.int .i64 0) 1 8 under22 hj jz0 jz1 jz2 rfl (by decide) _ 0 [] rfl hA a xs.length ca _ rfl (by simp) hcl (ints_one xs) (by unfold maxLen; omega) (by omega) (by simp) ?_; intro v1 W3 hown' hg)
  have hbY := hb1.grown hg (by simp) (own_ge hA)
  clear hA hcl hg hb1
  obtain ⟨a3, e3, rfl, hX⟩ := Ints.of_own (w := W3) (xs := xs) (by simpa using hown') hX0.len hX0.2.1
  clear hown'
  replace hN := hN.below hbY (Nat.le_refl _); replace hC := hC.below hbY (Nat.le_refl _); replace x0 := x0.below hbY; replace x1 := x1.below hbY; replace hb := hb.trans (hbY.mono hb.size); clear hbY
  obtain ⟨W4, hW4, hb1, hs4, x7⟩ := boxes1 W3 #[.int .i64 r, .slice a1 N.length e1, .slice a2 C.length e2] 24
  rw [hW4]
  have lg := x0.lt
  replace hN := hN.below hb1 (Nat.le_refl _); replace hC := hC.below hb1 (Nat.le_refl _); replace hX := hX.below hb1 (Nat.le_refl _); replace x0 := x0.below hb1; replace x1 := x1.below hb1; replace hb := hb.trans (hb1.mono hb.size); clear hb1
  clear hW4 hs4
  generalize W3.heap.size = g at *
  have d0 := x0.ext 0 rfl; have d1' := x0.ext 1 rfl; have d2 := x0.ext 2 rfl
  have f0 := x7.ext 0 rfl; have f1 := x7.ext 1 rfl; have f2 := x7.ext 2 rfl
  have hN1 := hN0.below hb (Nat.le_refl _); have hC1 := hC0.below hb (Nat.le_refl _)
  refine wp_region_ext_lit (by kernel_rfl) (by kernel_rfl) ?_
  repeat (quiet_step (first | (go_at_call 19; exact quiet_ext (ck _ _ _ _ _ (hN.below (Ext.below _) (Nat.le_refl _)) (hC.below (Ext.below _) (Nat.le_refl _)))) | (go_at_call 20; exact quiet_ext (cr _ _ _ _ _ (hN1.below (Ext.below _) (Nat.le_refl _)) (hC1.below (Ext.below _) (Nat.le_refl _))))))
  refine wpQuiet_nil ?_
  intro _ hw'
  obtain ⟨t, rfl⟩ := hw'
  have hbt := t.below
  clear d0 d1' d2 f0 f1 f2 ck cr hN1 hC1
  generalize t.w = W5 at *
  replace hN := hN.below hbt (Nat.le_refl _); replace hC := hC.below hbt (Nat.le_refl _); replace hX := hX.below hbt (Nat.le_refl _); replace x0 := x0.below hbt; (try clear f0 f1 f2); replace x7 := x7.below hbt; have f0 := x7.cell 0 rfl; have f1 := x7.cell 1 rfl; have f2 := x7.cell 2 rfl; (try clear d0 d1); replace x1 := x1.below hbt; have d0 := x1.cell 0 rfl; have d1 := x1.cell 1 rfl; replace hb := hb.trans (hbt.mono hb.size); clear hbt
  go_wp2_with fail
  refine (ru _ _ _ _ _ _ _ hN hC hX).mono ?_
  rintro e W6 ⟨rfl, hb1⟩
  replace hN := hN.below hb1 (Nat.le_refl _); replace hC := hC.below hb1 (Nat.le_refl _); replace hX := hX.below hb1 (Nat.le_refl _); replace x7 := x7.below hb1; (try clear c0 c1 c2); replace x0 := x0.below hb1; have c0 := x0.cell 0 rfl; have c1 := x0.cell 1 rfl; have c2 := x0.cell 2 rfl; (try clear d0 d1); replace x1 := x1.below hb1; have d0 := x1.cell 0 rfl; have d1 := x1.cell 1 rfl; replace hb := hb.trans (hb1.mono hb.size); clear hb1
  clear f0 f1 f2
  obtain ⟨W7, hW7, hb1, hs7, x9⟩ := boxes1 W6 #[.int .i64 rp, .int .i64 rc] 26
  replace hN := hN.below hb1 (Nat.le_refl _); replace hC := hC.below hb1 (Nat.le_refl _); replace hX := hX.below hb1 (Nat.le_refl _); replace x7 := x7.below hb1; (try clear c0 c1 c2); replace x0 := x0.below hb1; have c0 := x0.cell 0 rfl; have c1 := x0.cell 1 rfl; have c2 := x0.cell 2 rfl; (try clear d0 d1); replace x1 := x1.below hb1; have d0 := x1.cell 0 rfl; have d1 := x1.cell 1 rfl; replace hb := hb.trans (hb1.mono hb.size); clear hb1
  go_wp2_with fail
  clear hW7 hs7
  refine (rr _ (hN0.below hb (Nat.le_refl _)) (hC0.below hb (Nat.le_refl _)) (hX0.below hb (Nat.le_refl _))).mono ?_
  rintro e W8 ⟨rfl, hb1⟩
  replace hN := hN.below hb1 (Nat.le_refl _); replace hC := hC.below hb1 (Nat.le_refl _); replace hX := hX.below hb1 (Nat.le_refl _); replace x0 := x0.below hb1; replace x9 := x9.below hb1; (try clear f0 f1 f2); replace x7 := x7.below hb1; have f0 := x7.cell 0 rfl; have f1 := x7.cell 1 rfl; have f2 := x7.cell 2 rfl; (try clear d0 d1); replace x1 := x1.below hb1; have d0 := x1.cell 0 rfl; have d1 := x1.cell 1 rfl; replace hb := hb.trans (hb1.mono hb.size); clear hb1
  clear c0 c1 c2
  obtain ⟨W9, hW9, hb1, hs9, x12⟩ := boxes1 W8 #[.int .i64 rp, .int .i64 rc] 26
  replace hN := hN.below hb1 (Nat.le_refl _); replace hC := hC.below hb1 (Nat.le_refl _); replace hX := hX.below hb1 (Nat.le_refl _); replace x0 := x0.below hb1; replace x9 := x9.below hb1; (try clear f0 f1 f2); replace x7 := x7.below hb1; have f0 := x7.cell 0 rfl; have f1 := x7.cell 1 rfl; have f2 := x7.cell 2 rfl; (try clear d0 d1); replace x1 := x1.below hb1; have d0 := x1.cell 0 rfl; have d1 := x1.cell 1 rfl; replace hb := hb.trans (hb1.mono hb.size); clear hb1
  go_wp2_with fail
  clear hW9 hs9
  refine (pu _ _ _ _ _ _ _ hN hC hX).mono ?_
  rintro e W10 ⟨rfl, hb1⟩
  replace hN := hN.below hb1 (Nat.le_refl _); replace hC := hC.below hb1 (Nat.le_refl _); replace hX := hX.below hb1 (Nat.le_refl _); replace x7 := x7.below hb1; replace x9 := x9.below hb1; replace x12 := x12.below hb1; (try clear c0 c1 c2); replace x0 := x0.below hb1; have c0 := x0.cell 0 rfl; have c1 := x0.cell 1 rfl; have c2 := x0.cell 2 rfl; (try clear d0 d1); replace x1 := x1.below hb1; have d0 := x1.cell 0 rfl; have d1 := x1.cell 1 rfl; replace hb := hb.trans (hb1.mono hb.size); clear hb1
  clear f0 f1 f2
  go_wp2_with fail
  refine (pr _ (hN0.below hb (Nat.le_refl _)) (hC0.below hb (Nat.le_refl _)) (hX0.below hb (Nat.le_refl _))).mono ?_
  rintro e W11 ⟨rfl, hb1⟩
  replace hN := hN.below hb1 (Nat.le_refl _); replace hC := hC.below hb1 (Nat.le_refl _); replace hX := hX.below hb1 (Nat.le_refl _); replace x1 := x1.below hb1; (try clear c0 c1 c2); replace x0 := x0.below hb1; have c0 := x0.cell 0 rfl; have c1 := x0.cell 1 rfl; have c2 := x0.cell 2 rfl; (try clear f0 f1 f2); replace x7 := x7.below hb1; have f0 := x7.cell 0 rfl; have f1 := x7.cell 1 rfl; have f2 := x7.cell 2 rfl; (try clear u0 u1); replace x9 := x9.below hb1; have u0 := x9.cell 0 rfl; have u1 := x9.cell 1 rfl; (try clear v0 v1); replace x12 := x12.below hb1; have v0 := x12.cell 0 rfl; have v1 := x12.cell 1 rfl; replace hb := hb.trans (hb1.mono hb.size); clear hb1
  clear d0 d1
  go_wp2_with fail
  refine (same_any _ _ _ _ _ _ _ _ _ _ _ _ _ _ _ hN hC (hN0.below hb (Nat.le_refl _)) (hC0.below hb (Nat.le_refl _))).mono ?_
  rintro e W12 ⟨rfl, hb1⟩
  rw [(eq_iff3 r r N C N C).2 ⟨rfl, rfl, rfl⟩]
  replace hX := hX.below hb1 (Nat.le_refl _); replace hb := hb.trans (hb1.mono hb.size); clear hb1
  clear hN hC x0 x7 x9 x12 c0 c1 c2 f0 f1 f2 u0 u1 v0 v1 x1
  go_wp2_with fail
  refine (sameInts_any _ _ _ _ _ _ _ hX (hX0.below hb (Nat.le_refl _))).mono ?_
  rintro e W13 ⟨rfl, hq⟩
  rw [decide_eq_true (rfl : xs = xs)]
  replace hb := hb.trans ((hq.below _).mono hb.size)
  clear hX hq
  go_wp2_with fail
  refine (works_any _).mono ?_
  rintro e V3 ⟨rfl, hb1⟩
  replace hb := hb.trans (hb1.mono hb.size)
  clear hb1
  go_wp2
  go_ret
  exact ⟨rfl, hb⟩

set_option maxRecDepth 100000 in
set_option maxHeartbeats 1000000 in
theorem crun_arg (r : Int) (an ac : Option Addr) (cn cc : Nat) (N C : List Int) (p c : Int) (a : Option Addr) (ca : Nat) (xs : List Int) (w : World) (hN : Ints w an N) (hC : Ints w ac C) (hX : Ints w a xs) (ho : (!farB N C && decide (xs.length ≤ 40)) = false) :
    Calls Try.prog 3 #[.agg #[.int .i64 r, .slice an N.length cn, .slice ac C.length cc], .agg #[.int .i64 p, .int .i64 c], .slice a xs.length ca] w (WorksP w) := by
  have lx := hX.len
  obtain ⟨W, hW, hb, hs, x0, x1⟩ := boxes2 w #[.int .i64 r, .slice an N.length cn, .slice ac C.length cc] 24 #[.int .i64 p, .int .i64 c] 26
  clear hs
  replace hN := hN.below hb (Nat.le_refl _); replace hC := hC.below hb (Nat.le_refl _)
  have c0 := x0.cell 0 rfl; have c1 := x0.cell 1 rfl; have c2 := x0.cell 2 rfl
  cases hf : farB N C
  · have d1 : decide ((40 : Int) < (xs.length : Int)) = true := by
      rw [hf] at ho; simp at ho; simp; omega
    clear ho
    go_enter Try.func3, Try.ntmps3
    go_wp2_with fail
    refine (far_any _ _ _ _ _ _ _ _ hN hC).mono ?_
    rintro e W1 ⟨rfl, hb1⟩
    rw [hf]
    replace hb := hb.trans (hb1.mono hb.size)
    clear hW x0 x1 c0 c1 c2 hb1 hN hC
    go_wp2_with fail
    refine (works_any _).mono ?_
    rintro e V3 ⟨rfl, hb1⟩
    replace hb := hb.trans (hb1.mono hb.size)
    clear hb1
    go_wp2
    go_ret
    exact ⟨rfl, hb⟩
  · clear ho
    go_enter Try.func3, Try.ntmps3
    go_wp2_with fail
    refine (far_any _ _ _ _ _ _ _ _ hN hC).mono ?_
    rintro e W1 ⟨rfl, hb1⟩
    rw [hf]
    replace hb := hb.trans (hb1.mono hb.size)
    clear hW x0 x1 c0 c1 c2 hb1 hN hC
    go_wp2_with fail
    refine (works_any _).mono ?_
    rintro e V3 ⟨rfl, hb1⟩
    replace hb := hb.trans (hb1.mono hb.size)
    clear hb1
    go_wp2
    go_ret
    exact ⟨rfl, hb⟩
theorem crun_any (r : Int) (an ac : Option Addr) (cn cc : Nat) (N C : List Int) (p c : Int) (a : Option Addr) (ca : Nat) (xs : List Int) (w : World) (hN : Ints w an N) (hC : Ints w ac C) (hX : Ints w a xs) :
    Calls Try.prog 3 #[.agg #[.int .i64 r, .slice an N.length cn, .slice ac C.length cc], .agg #[.int .i64 p, .int .i64 c], .slice a xs.length ca] w (WorksP w) := by
  cases ho : (!farB N C && decide (xs.length ≤ 40))
  · exact crun_arg _ _ _ _ _ _ _ p c a ca xs w hN hC hX ho
  · simp only [Bool.and_eq_true, Bool.not_eq_true', decide_eq_true_eq] at ho
    exact crun_ok _ _ _ _ _ _ _ p c a ca xs w hN hC hX ho.1 ho.2
end Go.Proofs.Ytmkmnedojgigoaa
