import Derived.Test.YtakodllejndfeaaG2
import Derived.Test.YtakodllejndfeaaProg
import Derived.Test.YtakodllejndfeaaChecked
import Derived.StillTailTactics
/-! Small functions: whether a side is valid. -/
namespace Go.Proofs.Ytakodllejndfeaa
set_option linter.unusedSimpArgs false
set_option linter.unusedVariables false
open Go Go.RowKit

set_option maxRecDepth 100000 in
set_option maxHeartbeats 1000000 in
theorem isFrom_any (lo x hi : Int) (w : World) : Calls Try.prog 66 #[.int .i64 lo, .int .i64 x, .int .i64 hi] w fun e w' => e = .returned (.bool (inI lo x hi)) ∧ w = w' := by
  by_cases h1 : lo ≤ x
  · by_cases h2 : x ≤ hi
    · go_enter Try.func66, Try.ntmps66
      go_wp2
      go_ret
      exact ⟨by simp [inI, h1, h2], rfl⟩
    · have h2' : hi < x := by omega
      go_enter Try.func66, Try.ntmps66
      go_wp2
      go_ret
      exact ⟨by (simp [inI, h2]) <;> omega, rfl⟩
  · have h1' : x < lo := by omega
    go_enter Try.func66, Try.ntmps66
    go_wp2
    go_ret
    exact ⟨by (simp [inI, h1]) <;> omega, rfl⟩
set_option maxRecDepth 100000 in
set_option maxHeartbeats 1000000 in
theorem isPool_any (x : Int) (w : World) : Calls Try.prog 54 #[.int .i64 x] w fun e w' => e = .returned (.bool (inI 0 x 9999)) ∧ w = w' := by
  have hf := isFrom_any 0 x 9999 w
  generalize inI 0 x 9999 = r at *
  go_enter Try.func54, Try.ntmps54
  go_wp2_with fail
  refine hf.mono ?_
  rintro e W1 ⟨rfl, rfl⟩
  go_wp2
  go_ret
  exact ⟨rfl, rfl⟩
set_option maxRecDepth 100000 in
set_option maxHeartbeats 1000000 in
theorem within67_any (x lo hi : Int) (w : World) : Calls Try.prog 67 #[.int .i64 x, .int .i64 lo, .int .i64 hi] w fun e w' => e = .returned (.bool (inI lo x hi)) ∧ w = w' := by
  by_cases h1 : lo ≤ x
  · by_cases h2 : x ≤ hi
    · go_enter Try.func67, Try.ntmps67
      go_wp2
      go_ret
      exact ⟨by simp [inI, h1, h2], rfl⟩
    · have h2' : hi < x := by omega
      go_enter Try.func67, Try.ntmps67
      go_wp2
      go_ret
      exact ⟨by (simp [inI, h2]) <;> omega, rfl⟩
  · have h1' : x < lo := by omega
    go_enter Try.func67, Try.ntmps67
    go_wp2
    go_ret
    exact ⟨by (simp [inI, h1]) <;> omega, rfl⟩
set_option maxRecDepth 100000 in
set_option maxHeartbeats 1000000 in
theorem within_any (x lo hi : Int) (w : World) : Calls Try.prog 50 #[.int .i64 x, .int .i64 lo, .int .i64 hi] w fun e w' => e = .returned (.bool (inI lo x hi)) ∧ w = w' := by
  have hf := within67_any x lo hi w
  generalize inI lo x hi = r at *
  go_enter Try.func50, Try.ntmps50
  go_wp2_with fail
  refine hf.mono ?_
  rintro e W1 ⟨rfl, rfl⟩
  go_wp2
  go_ret
  exact ⟨rfl, rfl⟩
/-- Whether a number is that of a writer. -/
def hasB (O : List Int) (n : Int) : Bool := inI 0 n ((O.length : Int) - 1)
set_option maxRecDepth 100000 in
set_option maxHeartbeats 1000000 in
theorem isWriter_any (p : Int) (aS aO : Option Addr) (cS cO : Nat) (S : List Sd) (O : List Int) (n : Int) (w : World) (hl : O.length ≤ 9223372036854775807) : Calls Try.prog 48 #[.agg #[.int .i64 p, .slice aS S.length cS, .slice aO O.length cO], .int .i64 n] w fun e w' => e = .returned (.bool (hasB O n)) ∧ Below w.heap.size w w' := by
  obtain ⟨W, hW, hb, _, x0⟩ := boxes1 w #[.int .i64 p, .slice aS S.length cS, .slice aO O.length cO] 25
  have hf := isFrom_any 0 n ((O.length : Int) - 1) W
  unfold hasB
  have ew : IntKind.i64.wrap ((O.length : Int) - 1) = (O.length : Int) - 1 := IntWalk.i64_in _ (by omega)
  generalize inI 0 n ((O.length : Int) - 1) = r at *
  have c0 := x0.cell 0 rfl; have c1 := x0.cell 1 rfl; have c2 := x0.cell 2 rfl
  go_enter Try.func48, Try.ntmps48
  go_wp2_with fail
  refine hf.mono ?_
  rintro e W1 ⟨rfl, rfl⟩
  clear hW x0 c0 c1 c2
  go_wp2
  go_ret
  exact ⟨rfl, hb⟩
set_option maxRecDepth 100000 in
set_option maxHeartbeats 1000000 in
theorem IsWriter_any (p : Int) (aS aO : Option Addr) (cS cO : Nat) (S : List Sd) (O : List Int) (n : Int) (w : World) (hl : O.length ≤ 9223372036854775807) : Calls Try.prog 23 #[.agg #[.int .i64 p, .slice aS S.length cS, .slice aO O.length cO], .int .i64 n] w fun e w' => e = .returned (.bool (hasB O n)) ∧ Below w.heap.size w w' := by
  obtain ⟨W, hW, hb, _, x0⟩ := boxes1 w #[.int .i64 p, .slice aS S.length cS, .slice aO O.length cO] 25
  have hf := within_any n 0 ((O.length : Int) - 1) W
  unfold hasB
  have ew : IntKind.i64.wrap ((O.length : Int) - 1) = (O.length : Int) - 1 := IntWalk.i64_in _ (by omega)
  generalize inI 0 n ((O.length : Int) - 1) = r at *
  have c0 := x0.cell 0 rfl; have c1 := x0.cell 1 rfl; have c2 := x0.cell 2 rfl
  go_enter Try.func23, Try.ntmps23
  go_wp2_with fail
  refine hf.mono ?_
  rintro e W1 ⟨rfl, rfl⟩
  clear hW x0 c0 c1 c2
  go_wp2
  go_ret
  exact ⟨rfl, hb⟩

def lastA (ps : List (Int × Int)) (k : Nat) : Int := if k = 0 then -1 else whoA ps (k - 1)
theorem partB_eq {n : Int} {ps : List (Int × Int)} {k : Nat} {x y : Int} (hg : ps[k]? = some (x, y)) : partB n ps k = (decide (lastA ps k < x) && inI 0 x (n - 1) && inI 1 y 100) := by
  have e : ps.getD k (0, 0) = (x, y) := getD_of hg
  have ex : whoA ps k = x := by unfold whoA; rw [e]
  have ey : pctA ps k = y := by unfold pctA; rw [e]
  unfold partB lastA
  rw [ex, ey]
  rcases Nat.eq_zero_or_pos k with rfl | h
  · rw [if_pos rfl]
    simp only [inI, decide_true, Bool.true_or, Bool.and_true]
    by_cases h0 : 0 ≤ x
    · rw [decide_eq_true h0, decide_eq_true (show (-1 : Int) < x by omega)]; simp
    · rw [decide_eq_false h0]; simp
  · rw [if_neg (by omega), decide_eq_false (show ¬ k = 0 by omega), Bool.false_or]
    cases inI 0 x (n - 1) <;> simp
theorem lastA_succ {ps : List (Int × Int)} {k : Nat} {x y : Int} (hg : ps[k]? = some (x, y)) : lastA ps (k + 1) = x := by
  unfold lastA whoA
  rw [if_neg (by omega), Nat.add_sub_cancel, getD_of hg]
theorem sumP_le {n : Int} {ps : List (Int × Int)} {k : Nat} (h : (List.range k).all (partB n ps) = true) (hk : k ≤ ps.length) : 0 ≤ sumP (ps.take k) ∧ sumP (ps.take k) ≤ 100 * k := by
  have hr := sumP_rng (ps := ps.take k) (fun q hq => by
    obtain ⟨i, hi, rfl⟩ := List.mem_iff_getElem.1 hq
    rw [List.length_take] at hi
    rw [List.getElem_take]
    have h1 := List.all_eq_true.1 h i (List.mem_range.2 (by omega))
    unfold partB pctA at h1
    simp only [Bool.and_eq_true, inI_iff] at h1
    have e : ps.getD i (0, 0) = ps[i] := getD_of (List.getElem?_eq_getElem (by omega))
    rw [e] at h1
    exact h1.2)
  rw [List.length_take] at hr
  omega
theorem sideB_no {n : Int} {pl : Int} {ps : List (Int × Int)} {k : Nat} (hk : k < ps.length) (h : partB n ps k = false) : sideB n ⟨pl, ps⟩ = false := by
  unfold sideB partsB
  rw [all_range_no _ hk h]; rfl
theorem sideB_all {n : Int} {pl : Int} {ps : List (Int × Int)} (h : (List.range ps.length).all (partB n ps) = true) : sideB n ⟨pl, ps⟩ = (decide (sumP ps = 100) && inI 0 pl 9999) := by
  unfold sideB partsB
  rw [h]; rfl

set_option maxRecDepth 100000 in
set_option maxHeartbeats 4000000 in
theorem isSide_any (p : Int) (aS aO : Option Addr) (cS cO : Nat) (S : List Sd) (O : List Int) (pl : Int) (a' : Option Addr) (c' : Nat) (ps : List (Int × Int)) (w : World) (hl : O.length ≤ 1000) (hps : ps.length ≤ 1000) (hP : Prs w a' ps) :
    Calls Try.prog 68 #[.agg #[.int .i64 p, .slice aS S.length cS, .slice aO O.length cO], .agg #[.int .i64 pl, .slice a' ps.length c']] w fun e w' => e = .returned (.bool (sideB O.length ⟨pl, ps⟩)) ∧ Below w.heap.size w w' := by
  obtain ⟨W, hW, hb, hs, x0, x1⟩ := boxes2 w #[.int .i64 p, .slice aS S.length cS, .slice aO O.length cO] 25 #[.int .i64 pl, .slice a' ps.length c'] 39
  have hw := fun q v => isWriter_any p aS aO cS cO S O q v (by omega)
  have HN := fun k hk h => sideB_no (n := O.length) (pl := pl) (ps := ps) (k := k) hk h
  have HA := fun h => sideB_all (n := O.length) (pl := pl) (ps := ps) h
  obtain ⟨r, hr⟩ : ∃ r, r = sideB O.length ⟨pl, ps⟩ := ⟨_, rfl⟩
  rw [← hr] at HN HA ⊢
  clear hr
  obtain ⟨m, hm⟩ : ∃ m, m = ps.length := ⟨_, rfl⟩
  rw [← hm] at hps x1 hW HN HA ⊢
  have HM := hid hm
  have hmI : (m : Int) ≤ 1000 := by omega
  clear hm
  have hPW := hP.below hb (Nat.le_refl _)
  have c0 := x0.cell 0 rfl; have c1 := x0.cell 1 rfl; have c2 := x0.cell 2 rfl
  have d0 := x1.cell 0 rfl; have d1 := x1.cell 1 rfl
  go_enter Try.func68, Try.ntmps68
  go_wp2
  clear hW c0 c1 c2 d0 d1
  go_loopw [5, 6, 12] (fun v5 v6 v12 wr => ∃ k : Nat, k ≤ m ∧ v12 = .int .i64 (k : Int) ∧ v5 = .int .i64 (lastA ps k) ∧ v6 = .int .i64 (sumP (ps.take k)) ∧ Hid ((List.range k).all (partB O.length ps) = true) ∧ Below W.heap.size W wr) (fun _ _ v12 _ => m - (intOf v12).toNat)
  case atStart => exact ⟨0, Nat.zero_le _, rfl, rfl, rfl, hid rfl, Below.refl _ _⟩
  case round =>
    obtain ⟨k, hk, rfl, rfl, rfl, HK, hb1⟩ := hrel
    have hsum := sumP_le HK.out (by rw [← HM.out]; omega)
    by_cases hlt : k < m
    · obtain ⟨b, off, x, y, rfl, hbl, q0, q1, hx1, hy1, hg, _⟩ := (hPW.below hb1 (Nat.le_refl _)).at (k := k) (by rw [← HM.out]; exact hlt)
      have hkI : (k : Int) < m := by omega
      have hk0 : (0 : Int) ≤ (k : Int) := by omega
      have hpe := partB_eq (n := O.length) hg.out
      have hsn := lastA_succ hg.out
      have hst : sumP (ps.take (k + 1)) = sumP (ps.take k) + y := by rw [take_snoc hg.out, sumP_snoc]
      have hno := fun h => HN k hlt h
      have hsu := all_range_succ (partB O.length ps) k
      rw [HK.out, Bool.true_and] at hsu
      have hwx := fun v => hw x v
      have hfy := fun v => isFrom_any 1 y 100 v
      have hba := below_one (w := wr) (.cells #[.int .i64 x, .int .i64 y] 53)
      have hb2 := hb1.trans (hba.mono hb1.size)
      have HXa := hid (And.intro ((x0.below hb1).below hba) (And.intro (Bx.new wr #[.int .i64 x, .int .i64 y] 53) (And.intro (hb.trans (hb2.mono hb.size)) hb2)))
      unfold hasB at hwx
      clear x0 HN HA hw hP hPW hg HM hba hb2 x1
      go_upto_region 5 with fail
      obtain ⟨x0, y0, hbr, hb2⟩ := HXa.out
      clear HXa q0 q1 hb1
      generalize wr.heap.size = sa at *
      generalize World.alloc _ _ = wa at *
      have c0 := x0.cell 0 rfl; have c1 := x0.cell 1 rfl; have c2 := x0.cell 2 rfl
      have d0 := y0.cell 0 rfl; have d1 := y0.cell 1 rfl
      clear x0
      obtain ⟨la, hla⟩ : ∃ la, la = lastA ps k := ⟨_, rfl⟩
      rw [← hla] at hpe ⊢
      obtain ⟨su, hsu2⟩ : ∃ su, su = sumP (ps.take k) := ⟨_, rfl⟩
      rw [← hsu2] at hst hsum ⊢
      clear hla hsu2
      by_cases hlx : la < x
      · have hlx' : ¬ x ≤ la := by omega
        rw [decide_eq_true hlx, Bool.true_and] at hpe
        generalize inI 0 x ((O.length : Int) - 1) = r1 at *
        cases r1
        · rw [Bool.false_and] at hpe
          have HR := hid (hno hpe)
          clear hno hpe hsu hsn hst
          go_wp2_with fail
          refine (hwx _).mono ?_
          rintro e V1 ⟨rfl, hb3⟩
          replace hbr := hbr.trans (hb3.mono hbr.size)
          go_wp2
          go_ret
          exact ⟨ret_bool (by rw [HR.out]), hbr⟩
        · rw [Bool.true_and] at hpe
          cases hr2 : inI 1 y 100
          · rw [hr2] at hpe hfy
            have HR := hid (hno hpe)
            clear hno hpe hsu hsn hst hr2
            go_wp2_with fail
            refine (hwx _).mono ?_
            rintro e V1 ⟨rfl, hb3⟩
            replace y0 := y0.below hb3
            replace hbr := hbr.trans (hb3.mono hbr.size)
            clear hwx c0 c1 c2 d0 d1
            have d0 := y0.cell 0 rfl; have d1 := y0.cell 1 rfl
            go_wp2_with fail
            refine (hfy _).mono ?_
            rintro e V2 ⟨rfl, rfl⟩
            go_wp2
            go_ret
            exact ⟨ret_bool (by rw [HR.out]), hbr⟩
          · rw [hr2] at hpe hfy
            rw [hpe] at hsu
            have HS := hid hsu
            have hy := inI_iff.1 hr2
            have ew : IntKind.i64.wrap (su + y) = su + y := IntWalk.i64_in _ (by omega)
            clear hno hpe hsu hr2
            go_wp2_with fail
            refine (hwx _).mono ?_
            rintro e V1 ⟨rfl, hb3⟩
            replace y0 := y0.below hb3
            replace hb2 := hb2.trans (hb3.mono hb2.size)
            clear hwx c0 c1 c2 hbr d0 d1
            have d0 := y0.cell 0 rfl; have d1 := y0.cell 1 rfl
            go_wp2_with fail
            refine (hfy _).mono ?_
            rintro e V2 ⟨rfl, rfl⟩
            go_wp2
            go_roundw
            case rel => exact ⟨k + 1, by omega, by simp, by rw [hsn], by rw [hst], HS, hb2⟩
            case measure => simp [intOf]; omega
      · have hlx' : x ≤ la := by omega
        rw [decide_eq_false hlx, Bool.false_and, Bool.false_and] at hpe
        have HR := hid (hno hpe)
        clear hno hpe hsu hsn hst hwx
        go_wp2
        go_ret
        exact ⟨ret_bool (by rw [HR.out]), hbr⟩
    · have hkm : k = m := by omega
      have hall := HK.out
      rw [hkm] at hall
      have HR := HA hall
      have ht : ps.take k = ps := by rw [hkm, HM.out, List.take_length]
      rw [ht] at hsum ⊢
      have hkI : ¬ (k : Int) < m := by omega
      have hpl := fun v => isFrom_any 0 pl 9999 v
      replace x1 := x1.below hb1
      have hbr := hb.trans (hb1.mono hb.size)
      have d0 := x1.cell 0 rfl; have d1 := x1.cell 1 rfl
      obtain ⟨su, hsu2⟩ : ∃ su, su = sumP ps := ⟨_, rfl⟩
      rw [← hsu2] at hsum HR ⊢
      clear hall hkm HA HN HK hPW hP x1 ht hsu2 hw
      by_cases h100 : su = 100
      · rw [decide_eq_true h100, Bool.true_and] at HR
        have hB : (su == 100) = true := by simp [h100]
        generalize inI 0 pl 9999 = r1 at *
        replace HR := hid HR
        clear h100
        go_wp2_with fail
        refine (hpl _).mono ?_
        rintro e V1 ⟨rfl, rfl⟩
        go_wp2
        go_ret
        exact ⟨ret_bool HR.out.symm, hbr⟩
      · rw [decide_eq_false h100, Bool.false_and] at HR
        have hB : (su == 100) = false := by simp [h100]
        replace HR := hid HR
        go_wp2
        go_ret
        exact ⟨ret_bool HR.out.symm, hbr⟩
end Go.Proofs.Ytakodllejndfeaa
