import Derived.Test.YtmpihcencnkpbaaU8
/-! The reference's Next. -/
namespace Go.Proofs.Ytmpihcencnkpbaa
set_option linter.unusedSimpArgs false
set_option linter.unusedVariables false
open Go Go.RowKit

set_option maxRecDepth 100000 in
set_option maxHeartbeats 6000000 in
theorem rNext_any (L N : Int) (aP : Option Addr) (cP : Nat) (P : List F3) (F : Int) (w : World) (hP : Pz w aP P) : Calls Try.prog 40 #[.agg #[.int .i64 L, .int .i64 N, .slice aP P.length cP, .int .i64 F]] w fun e w' => e = .returned (.tuple #[.int .i64 (nxA L N P F), .int .i64 (nxB L N P F), .int .i64 (nxE L N P F)]) ∧ Below w.heap.size w w' := by
  obtain ⟨W, hW, hb, _, x0⟩ := boxes1 w #[.int .i64 L, .int .i64 N, .slice aP P.length cP, .int .i64 F] 24
  replace hP := hP.below hb (Nat.le_refl _)
  have hak := fun v (hv : Pz v aP P) => rtruths_any L N aP cP P F true v hv
  unfold RkP at hak
  have hk := fun (h : akE L N P F true = 0) => (akE_ok h).1
  have hrk := fun h => rk_eq (L := L) (N := N) (F := F) (P := P) (o := true) h
  have e1 : Hid (akE L N P F true ≠ 0 → nxE L N P F = akE L N P F true ∧ nxA L N P F = 0 ∧ nxB L N P F = 0) := hid fun h => by
    have h1 : nxE L N P F = akE L N P F true := by unfold nxE; rw [if_neg h]
    exact ⟨h1, by unfold nxA; rw [if_neg (by rw [h1]; exact h)], by unfold nxB; rw [if_neg (by rw [h1]; exact h)]⟩
  have e2 : Hid (akE L N P F true = 0 → (nxO N (truL L N P F) L.toNat).2.2 = (truL L N P F).length → nxE L N P F = 3 ∧ nxA L N P F = 0 ∧ nxB L N P F = 0) := hid fun h h2 => by
    have h1 : nxE L N P F = 3 := by unfold nxE; rw [if_pos h, if_pos h2]
    exact ⟨h1, by unfold nxA; rw [if_neg (by omega)], by unfold nxB; rw [if_neg (by omega)]⟩
  have e3 : Hid (akE L N P F true = 0 → (nxO N (truL L N P F) L.toNat).2.2 ≠ (truL L N P F).length → nxE L N P F = 0 ∧ nxA L N P F = (nxO N (truL L N P F) L.toNat).1 ∧ nxB L N P F = (nxO N (truL L N P F) L.toNat).2.1) := hid fun h h2 => by
    have h1 : nxE L N P F = 0 := by unfold nxE; rw [if_pos h, if_neg h2]
    exact ⟨h1, by unfold nxA; rw [if_pos h1], by unfold nxB; rw [if_pos h1]⟩
  generalize nxE L N P F = rE at *
  generalize nxA L N P F = rA at *
  generalize nxB L N P F = rB at *
  have HK := hid hk
  have HRK := hid hrk
  obtain ⟨E, hE0⟩ : ∃ E, E = akE L N P F true := ⟨_, rfl⟩
  rw [← hE0] at hak e1 e2 e3 HK HRK
  clear hE0 hk hrk
  by_cases hE : E = 0
  · have hv := HK.out hE
    obtain ⟨hL, hN, _, hF, _⟩ := vB_siz hv
    rw [HRK.out hE] at hak
    replace e2 := e2.out hE
    replace e3 := e3.out hE
    have hp := exR_perm hL hN P (F := F)
    rw [← nxO_perm hp, ← hp.length_eq] at e2 e3
    have hTl := xp_len hL hN P (m := F.toNat) (by omega)
    have hst := xp_set hL hN (P := P) (m := F.toNat)
    replace e2 := hid e2
    replace e3 := hid e3
    clear hp
    generalize xpR L N P F.toNat = T at *
    have hin := fun (i j : Int) (hi : 0 ≤ i ∧ i < L) (hj : 0 ≤ j ∧ j < N) => mxI_tl (K := (L * N).toNat) (pl_in hL hN hi hj hst rfl)
    have hty := fun v a c (hv : Rat v a T) (i j : Int) (hi : 0 ≤ i ∧ i < L) (hj : 0 ≤ j ∧ j < N) => tally_any L N aP cP P F a c T i j v hv hL hN hi hj hst hTl
    unfold TyP at hty
    have hQl := fun (i j : Int) => show (plL N T i j).length ≤ 900000 by rw [plL, List.length_map]; exact hTl
    have hK25 : (L * N).toNat ≤ 25 := by have := LN_25 hL hN; omega
    generalize (L * N).toNat = K at *
    have hti := fun w' g (i j : Int) (h : Bx w' g (vrow (tlV K (plL N T i j))) 3) => tl_ints h hK25 (hQl i j)
    have hmo := fun a c xs v h => most_any a c xs v h
    obtain ⟨l, hl⟩ : ∃ l : Nat, L = (l : Int) := ⟨L.toNat, by omega⟩
    obtain ⟨n, hn⟩ : ∃ n : Nat, N = (n : Int) := ⟨N.toNat, by omega⟩
    subst hl hn hE
    rw [Int.toNat_natCast] at e2 e3
    obtain ⟨m, hm⟩ : ∃ m, m = T.length := ⟨_, rfl⟩
    rw [← hm] at hak hTl e2 e3 hty
    have HTY := hid hty
    have HIN := hid hin
    have HTI := hid hti
    have HM := hid hm
    have HLE := hid (fun i => show (nxO (n : Int) T i).2.2 ≤ m by rw [hm]; exact nxO_le (n : Int) T i)
    clear HK HRK hm hv e1 hst hin hty hQl hti hF
    have c0 := x0.cell 0 rfl; have c1 := x0.cell 1 rfl; have c2 := x0.cell 2 rfl; have c3 := x0.cell 3 rfl
    go_enter Try.func40, Try.ntmps40
    go_wp2_with fail
    refine (hak _ hP).mono ?_
    rintro e W1 ⟨hb1, aT, cT, rfl, hrat⟩
    replace hb := hb.trans (hb1.mono hb.size)
    replace x0 := x0.below hb1
    clear hW hb1 c0 c1 c2 c3 hak hP
    have c0 := x0.cell 0 rfl; have c1 := x0.cell 1 rfl; have c2 := x0.cell 2 rfl; have c3 := x0.cell 3 rfl
    go_wp2
    clear c0 c1 c2 c3
    go_loopw [2, 3, 6, 7, 8, 9] (fun v2 v3 v6 v7 v8 v9 wr => ∃ (i q : Nat) (ra rb : Int), i ≤ l ∧ v7 = .int .i64 (i : Int) ∧ v2 = .int .i64 ra ∧ v3 = .int .i64 rb ∧ v6 = .int .i64 (q : Int) ∧ Hid (nxO (n : Int) T i = (ra, rb, q)) ∧ q ≤ m ∧ Below W1.heap.size W1 wr) (fun _ _ _ v7 _ _ _ => l - (intOf v7).toNat)
    case atStart => exact ⟨0, m, 0, 0, Nat.zero_le _, rfl, rfl, rfl, rfl, hid (by rw [HM.out]; rfl), Nat.le_refl _, Below.refl _ _⟩
    case round =>
      obtain ⟨i, q, ra, rb, hi, rfl, rfl, rfl, rfl, hst, hqm, hbr⟩ := hrel
      by_cases hlt : i < l
      · have hiI : (i : Int) < l := by omega
        have xr := x0.below hbr
        have hst2 := hid (show nxIn (n : Int) T i 0 (nxO (n : Int) T i) = (ra, rb, q) from hst.out)
        have c0 := xr.cell 0 rfl; have c1 := xr.cell 1 rfl; have c2 := xr.cell 2 rfl; have c3 := xr.cell 3 rfl
        clear hst
        go_wp2
        clear c0 c1 c2 c3 xr
        go_loopw [2, 3, 6, 8, 9] (fun v2 v3 v6 v8 v9 wr => ∃ (j q : Nat) (ra rb : Int), j ≤ n ∧ v8 = .int .i64 (j : Int) ∧ v2 = .int .i64 ra ∧ v3 = .int .i64 rb ∧ v6 = .int .i64 (q : Int) ∧ Hid (nxIn (n : Int) T i j (nxO (n : Int) T i) = (ra, rb, q)) ∧ q ≤ m ∧ Below W1.heap.size W1 wr) (fun _ _ _ v8 _ _ => n - (intOf v8).toNat)
        case atStart => exact ⟨0, q, ra, rb, Nat.zero_le _, rfl, rfl, rfl, rfl, hst2, hqm, hbr⟩
        case round =>
          clear hst2 hqm hbr
          obtain ⟨j, q, ra, rb, hj, rfl, rfl, rfl, rfl, hst, hqm, hbr⟩ := hrel
          have xr := x0.below hbr
          have c0 := xr.cell 0 rfl; have c1 := xr.cell 1 rfl; have c2 := xr.cell 2 rfl; have c3 := xr.cell 3 rfl
          by_cases hjl : j < n
          · have hjI : (j : Int) < n := by omega
            have hty := HTY.out wr aT cT (hrat.below hbr (Nat.le_refl _)) i j ⟨by omega, by omega⟩ ⟨by omega, by omega⟩
            have hin := HIN.out i j ⟨by omega, by omega⟩ ⟨by omega, by omega⟩
            have hti := fun w' g => HTI.out w' g i j
            have hnx : Hid (nxIn (n : Int) T i (j + 1) (nxO (n : Int) T i) = if mxL (plL (n : Int) T i j) < q then ((i : Int), (j : Int), mxL (plL (n : Int) T i j)) else (ra, rb, q)) := hid (by rw [nxIn, hst.out]; rfl)
            have hmx : mxL (plL (n : Int) T i j) ≤ m := by
              refine Nat.le_trans (mxL_le _) ?_
              rw [plL, List.length_map, ← HM.out]; exact Nat.le_refl _
            generalize mxL (plL (n : Int) T i j) = p at *
            generalize tlV K (plL (n : Int) T i j) = TL at *
            replace hmo := fun a c v h => hmo a c TL v h
            rw [hin] at hmo
            obtain ⟨tq, htq⟩ : ∃ tq, tq = TL.length := ⟨_, rfl⟩
            rw [← htq] at hmo hty
            clear xr hst hin htq
            go_wp2_with fail
            refine hty.mono ?_
            rintro e V1 ⟨hb3, gT, rfl, hy⟩
            have hin := hti _ _ hy
            replace hbr := hbr.trans (hb3.mono hbr.size)
            clear hb3 hty hy hti c0 c1 c2 c3
            go_wp2_with fail
            refine (hmo _ _ _ hin).mono ?_
            rintro e V2 ⟨rfl, hb3⟩
            replace hbr := hbr.trans (hb3.mono hbr.size)
            clear hb3 hmo hin
            by_cases hp : p < q
            · have hpI : (p : Int) < (q : Int) := by omega
              have HN := hid (hnx.out.trans (if_pos hp))
              clear hnx hp
              go_wp2
              go_roundw
              case rel => exact ⟨j + 1, p, (i : Int), (j : Int), by omega, by go_num, rfl, rfl, rfl, HN, hmx, hbr⟩
              case measure => simp [intOf]; omega
            · have hpI : ¬ (p : Int) < (q : Int) := by omega
              have HN := hid (hnx.out.trans (if_neg hp))
              clear hnx hp
              go_wp2
              go_roundw
              case rel => exact ⟨j + 1, q, ra, rb, by omega, by go_num, rfl, rfl, rfl, HN, hqm, hbr⟩
              case measure => simp [intOf]; omega
          · obtain rfl : j = n := by omega
            have HN := hid (show nxO (j : Int) T (i + 1) = (ra, rb, q) by rw [nxO, Int.toNat_natCast]; exact hst.out)
            have hjI : ¬ (j : Int) < (j : Int) := by omega
            clear hst xr hmo
            go_wp2
            go_roundw
            case rel => exact ⟨i + 1, q, ra, rb, by omega, by go_num, rfl, rfl, rfl, HN, hqm, hbr⟩
            case measure => simp [intOf]; omega
      · obtain rfl : i = l := by omega
        have hiI : ¬ (i : Int) < (i : Int) := by omega
        have e2' := e2.out
        have e3' := e3.out
        rw [hst.out] at e2' e3'
        have xr := x0.below hbr
        have c0 := xr.cell 0 rfl; have c1 := xr.cell 1 rfl; have c2 := xr.cell 2 rfl; have c3 := xr.cell 3 rfl
        replace hb := hb.trans (hbr.mono hb.size)
        clear xr hmo
        by_cases hqe : q = m
        · obtain ⟨r1, r2, r3⟩ := e2' hqe
          have hB : ((q : Int) == (m : Int)) = true := by simp [hqe]
          have HR := hid (And.intro r1 (And.intro r2 r3))
          clear r1 r2 r3 e2' e3' e2 e3 hst hqe
          go_wp2
          ((try simp only [Exit.inBlock, Exit.then]); refine bodyPost_ret (results_tmp3 rfl _ _ _) rfl ?_)
          exact ⟨by rw [HR.out.1, HR.out.2.1, HR.out.2.2]; rfl, hb⟩
        · obtain ⟨r1, r2, r3⟩ := e3' hqe
          have hB : ((q : Int) == (m : Int)) = false := by rw [beq_eq_false_iff_ne]; omega
          have HR := hid (And.intro r1 (And.intro r2 r3))
          clear r1 r2 r3 e2' e3' e2 e3 hst hqe
          go_wp2
          ((try simp only [Exit.inBlock, Exit.then]); refine bodyPost_ret (results_tmp3 rfl _ _ _) rfl ?_)
          exact ⟨by rw [HR.out.1, HR.out.2.1, HR.out.2.2]; rfl, hb⟩
  · have hB : (E != 0) = true := by simpa using hE
    obtain ⟨r1, r2, r3⟩ := e1.out hE
    have HR := hid (And.intro r1 (And.intro r2 r3))
    generalize rkT L N P F true = T at *
    have c0 := x0.cell 0 rfl; have c1 := x0.cell 1 rfl; have c2 := x0.cell 2 rfl; have c3 := x0.cell 3 rfl
    clear r1 r2 r3 e1 e2 e3 HK hE HRK
    go_enter Try.func40, Try.ntmps40
    go_wp2_with fail
    refine (hak _ hP).mono ?_
    rintro e W1 ⟨hb1, aT, cT, rfl, hrat⟩
    replace hb := hb.trans (hb1.mono hb.size)
    clear hW hb1 c0 c1 c2 c3 hak hP x0 hrat
    go_wp2
    ((try simp only [Exit.inBlock, Exit.then]); refine bodyPost_ret (results_tmp3 rfl _ _ _) rfl ?_)
    exact ⟨by rw [HR.out.1, HR.out.2.1, HR.out.2.2]; rfl, hb⟩
end Go.Proofs.Ytmpihcencnkpbaa
