import Derived.Test.YtipdohpbilabiaaM6
import Derived.Test.YtipdohpbilabiaaVL
/-! Always; all changes of a plan. -/
namespace Go.Proofs.Ytipdohpbilabiaa
set_option linter.unusedSimpArgs false
set_option linter.unusedVariables false
open Go Go.RowKit

theorem always_X (ab ast ae ak : Option Addr) (cb cs ce ck : Nat) (X : Sw) (hok : XOk X) (p q : Pl) (hp : p = planM X.bs) (hq : q = stayF X.ks) (s : Pl) (hs : s = alwP X.vz) (w : World) (hX : Swp w ab ast ae ak X) : Calls Try.prog 63 #[.agg #[.slice ab X.bs.length cb, .slice ast X.st.length cs, .slice ae X.er.length ce, .slice ak X.ks.length ck, .int .i64 X.ch, .int .u8 (p.a : Int), .int .u8 (p.b : Int), .int .u8 (p.c : Int), .int .u8 (q.a : Int), .int .u8 (q.b : Int), .int .u8 (q.c : Int)]] w fun e w' => e = .returned (.agg #[.int .u8 (s.a : Int), .int .u8 (s.b : Int), .int .u8 (s.c : Int)]) ∧ Below w.heap.size w w' := by
  subst hp hq
  exact always_any ab ast ae ak cb cs ce X.ks.length ck X.vz (vz_ok hok) w ⟨hX.2.1, hX.2.2.1⟩ s hs

set_option maxRecDepth 100000 in
set_option maxHeartbeats 2000000 in
theorem Always_ok (ab ast ae ak : Option Addr) (cb cs ce ck : Nat) (X : Sw) (w : World) (hX : Swp w ab ast ae ak X) (hv : vB X = true) (L : List (Int × Int)) (hL : L = keepL (alwP X.vz)) : Calls Try.prog 29 #[.agg #[.slice ab X.bs.length cb, .slice ast X.st.length cs, .slice ae X.er.length ce, .slice ak X.ks.length ck, .int .i64 X.ch]] w fun e w' => Below w.heap.size w w' ∧ ∃ a c, e = .returned (.tuple #[.slice a L.length c, .int .i64 0]) ∧ Prs w' a L := by
  obtain ⟨p, hp⟩ : ∃ p, p = planM X.bs := ⟨_, rfl⟩
  obtain ⟨q, hq⟩ : ∃ q, q = stayF X.ks := ⟨_, rfl⟩
  obtain ⟨s, hs⟩ : ∃ s, s = alwP X.vz := ⟨_, rfl⟩
  have hok := vB_iff hv
  obtain ⟨W, hW, hbw, _, x0⟩ := boxes1 w #[.slice ab X.bs.length cb, .slice ast X.st.length cs, .slice ae X.er.length ce, .slice ak X.ks.length ck, .int .i64 X.ch] 26
  have hvo := visitOf_ok ab ast ae ak cb cs ce ck X W (hX.below hbw (Nat.le_refl _)) hv p q hp hq
  have hal := fun W' (h : Below w.heap.size w W') => always_X ab ast ae ak cb cs ce ck X hok p q hp hq s hs W' (hX.below h (Nat.le_refl _))
  have hke := fun W' => keeps_any s (by rw [hs]; exact alw_ok64 hok) W'
  rw [← hs] at hL
  rw [← hL] at hke
  clear hX hp hq hs hL hok hv
  have c0 := x0.cell 0 rfl; have c1 := x0.cell 1 rfl; have c2 := x0.cell 2 rfl; have c3 := x0.cell 3 rfl; have c4 := x0.cell 4 rfl
  go_enter Try.func29, Try.ntmps29
  go_wp2_with fail
  refine hvo.mono ?_
  rintro e W1 ⟨rfl, hb1⟩
  replace hbw := hbw.trans (hb1.mono hbw.size)
  obtain ⟨W2, hW2, hb2, _, x4⟩ := boxes1 W1 #[.slice ab X.bs.length cb, .slice ast X.st.length cs, .slice ae X.er.length ce, .slice ak X.ks.length ck, .int .i64 X.ch, .int .u8 (p.a : Int), .int .u8 (p.b : Int), .int .u8 (p.c : Int), .int .u8 (q.a : Int), .int .u8 (q.b : Int), .int .u8 (q.c : Int)] 72
  replace hbw := hbw.trans (hb2.mono hbw.size)
  replace x0 := (x0.below hb1).below hb2
  clear hW c0 c1 c2 c3 c4 hvo
  have d0 := x4.cell 0 rfl; have d1 := x4.cell 1 rfl; have d2 := x4.cell 2 rfl; have d3 := x4.cell 3 rfl; have d4 := x4.cell 4 rfl; have d5 := x4.cell 5 rfl; have d6 := x4.cell 6 rfl; have d7 := x4.cell 7 rfl; have d8 := x4.cell 8 rfl; have d9 := x4.cell 9 rfl; have d10 := x4.cell 10 rfl
  have c0 := x0.cell 0 rfl; have c1 := x0.cell 1 rfl; have c2 := x0.cell 2 rfl; have c3 := x0.cell 3 rfl; have c4 := x0.cell 4 rfl
  go_wp2_with fail
  refine (hal _ hbw).mono ?_
  rintro e W3 ⟨rfl, hb3⟩
  replace hbw := hbw.trans (hb3.mono hbw.size)
  clear c0 c1 c2 c3 c4 d0 d1 d2 d3 d4 d5 d6 d7 d8 d9 d10 hW2 hal x0 x4
  go_wp2_with fail
  refine (hke _).mono ?_
  rintro e W4 ⟨hb4, a, c, rfl, hP⟩
  replace hbw := hbw.trans (hb4.mono hbw.size)
  clear hke hb4
  go_wp2
  go_ret2
  exact ⟨hbw, a, c, rfl, hP⟩

set_option maxRecDepth 100000 in
set_option maxHeartbeats 2000000 in
theorem Always_bad (ab ast ae ak : Option Addr) (cb cs ce ck : Nat) (X : Sw) (w : World) (hX : Swp w ab ast ae ak X) (hv : vB X = false) : Calls Try.prog 29 #[.agg #[.slice ab X.bs.length cb, .slice ast X.st.length cs, .slice ae X.er.length ce, .slice ak X.ks.length ck, .int .i64 X.ch]] w fun e w' => e = .returned (.tuple #[.slice none 0 0, .int .i64 70]) ∧ Below w.heap.size w w' := by
  obtain ⟨W, hW, hbw, _, x0⟩ := boxes1 w #[.slice ab X.bs.length cb, .slice ast X.st.length cs, .slice ae X.er.length ce, .slice ak X.ks.length ck, .int .i64 X.ch] 26
  have hvo := visitOf_bad ab ast ae ak cb cs ce ck X true W (hX.below hbw (Nat.le_refl _)) 70 (by rw [hv]; rfl) (fun h => by rw [hv] at h; cases h)
  clear hX
  have c0 := x0.cell 0 rfl; have c1 := x0.cell 1 rfl; have c2 := x0.cell 2 rfl; have c3 := x0.cell 3 rfl; have c4 := x0.cell 4 rfl
  go_enter Try.func29, Try.ntmps29
  go_wp2_with fail
  refine hvo.mono ?_
  rintro e W1 ⟨rfl, hb1⟩
  replace hbw := hbw.trans (hb1.mono hbw.size)
  have hb2 := hbw.trans ((below_one (w := W1) (.cells #[.slice none 0 0, .slice none 0 0, .slice none 0 0, .slice none 0 0, .int .i64 0, .int .u8 0, .int .u8 0, .int .u8 0, .int .u8 0, .int .u8 0, .int .u8 0] 72)).mono hbw.size)
  clear hW c0 c1 c2 c3 c4 hb1 hvo x0
  go_wp2
  go_ret2
  exact ⟨rfl, hb2⟩


set_option maxRecDepth 100000 in
set_option maxHeartbeats 3000000 in
theorem AllChanges_any (ab ast ae ak : Option Addr) (cb cs ce ck : Nat) (X : Sw) (ap : Option Addr) (cp : Nat) (P : List (List Int)) (hPl : P.length = X.bs.length) (hPn : P.length ≤ 3) (hP : ∀ l ∈ P, l.length ≤ 6) (w : World) (hX : Swp w ab ast ae ak X) (hL : Lss w ap P) : Calls Try.prog 45 #[.agg #[.slice ab X.bs.length cb, .slice ast X.st.length cs, .slice ae X.er.length ce, .slice ak X.ks.length ck, .int .i64 X.ch], .slice ap P.length cp] w fun e w' => e = .returned (.int .i64 (acF X P P.length)) ∧ Below w.heap.size w w' := by
  obtain ⟨W, hW, hb, _, x0⟩ := boxes1 w #[.slice ab X.bs.length cb, .slice ast X.st.length cs, .slice ae X.er.length ce, .slice ak X.ks.length ck, .int .i64 X.ch] 26
  have hbd : ∀ j, j ≤ P.length → 0 ≤ acF X P j ∧ acF X P j ≤ 6 * (j : Int) := fun j => by
    induction j with
    | zero => intro _; exact ⟨Int.le_refl _, Int.le_refl _⟩
    | succ j ih =>
      intro hj
      have h := ih (by omega)
      have h2 := coF_le (P.getD j []) (X.bs.getD j [])
      have h3 := hP _ (getD_mem' P [] (show j < P.length by omega))
      rw [acF_succ]
      omega
  have HBD := hid hbd
  have hgX := fun V (h : Below w.heap.size w V) => hX.below h (Nat.le_refl _)
  clear hX hbd hP
  obtain ⟨m, hm⟩ : ∃ m, m = X.bs.length := ⟨_, rfl⟩
  rw [← hm] at hPl x0 hW ⊢
  have HM := hid hm
  obtain ⟨n, hn⟩ : ∃ n, n = P.length := ⟨_, rfl⟩
  rw [← hn] at hPl hPn ⊢
  have HN := hid hn
  clear hn hm
  subst hPl
  have c0 := x0.cell 0 rfl; have c1 := x0.cell 1 rfl; have c2 := x0.cell 2 rfl; have c3 := x0.cell 3 rfl; have c4 := x0.cell 4 rfl
  go_enter Try.func45, Try.ntmps45
  go_wp2
  clear hW c0 c1 c2 c3 c4
  go_loopw [5, 6] (fun v5 v6 wr => ∃ j : Nat, j ≤ n ∧ v6 = .int .i64 (j : Int) ∧ v5 = .int .i64 (acF X P j) ∧ Below W.heap.size W wr) (fun _ v6 _ => n - (intOf v6).toNat)
  case atStart => exact ⟨0, Nat.zero_le _, rfl, rfl, Below.refl _ _⟩
  case round =>
    obtain ⟨j, hj, rfl, rfl, hb1⟩ := hrel
    by_cases hlt : j < n
    · have hbr := hb.trans (hb1.mono hb.size)
      have hL1 := hL.below hbr (Nat.le_refl _)
      replace x0 := x0.below hb1
      obtain ⟨b, off, a', c', hap, hbl, hc, hI⟩ := hL1.at (k := j) (by rw [← HN.out]; exact hlt)
      subst hap
      obtain ⟨b2, off2, a2, c2, hap2, hbl2, hc2, hI2⟩ := (hgX _ hbr).1.at (k := j) (by rw [← HM.out]; exact hlt)
      have hjI : (j : Int) < n := by omega
      have hj0 : (0 : Int) ≤ (j : Int) := by omega
      have hco := fun (t : Ext wr) => ChangesOf_any a2 a' c2 c' (X.bs.getD j []) (P.getD j []) t.w (hI2.below t.below (Nat.le_refl _)) (hI.below t.below (Nat.le_refl _))
      have hsn := acF_succ X P j
      have hs1 := HBD.out (j + 1) (by rw [← HN.out]; omega)
      have hs0 := HBD.out j (by rw [← HN.out]; omega)
      rw [hsn] at hs1
      have HS := hid hsn
      generalize acF X P j = sj at *
      generalize coF (P.getD j []) (X.bs.getD j []) = y at *
      generalize (P.getD j []).length = m1 at *
      generalize (X.bs.getD j []).length = m2 at *
      have hwr : IntKind.i64.wrap (sj + (y : Int)) = sj + (y : Int) := IntWalk.i64_in _ (by omega)
      subst hap2
      have d0 := x0.ext 0 rfl; have d1 := x0.ext 1 rfl; have d2 := x0.ext 2 rfl; have d3 := x0.ext 3 rfl; have d4 := x0.ext 4 rfl; 
      have f1 := fun t => Ext.cell hc t
      have f2 := fun t => Ext.cell hc2 t
      clear hsn hs1 hs0 hL1 hI hL hbl hbl2 hI2
      go_upto_region 5 with fail
      refine wp_region_ext_lit (by kernel_rfl) (by kernel_rfl) ?_
      repeat (quiet_step (first | (go_at_call 68; exact quiet_ext ((hco _).mono (fun e w' h => ⟨h.1, Below.of_eq h.2⟩)))))
      refine wpQuiet_nil ?_
      intro _ hw'
      obtain ⟨t, rfl⟩ := hw'
      have hb14 := hb1.trans (t.below.mono hb1.size)
      go_wp2
      go_roundw
      case rel => exact ⟨j + 1, by omega, by simp, by rw [HS.out], hb14⟩
      case measure => simp [intOf]; omega
    · obtain rfl : j = n := by omega
      go_wp2
      go_ret
      exact ⟨rfl, hb.trans (hb1.mono hb.size)⟩
end Go.Proofs.Ytipdohpbilabiaa
