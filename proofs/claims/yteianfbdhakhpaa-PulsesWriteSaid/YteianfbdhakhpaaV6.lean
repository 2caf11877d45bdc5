import Derived.Test.YteianfbdhakhpaaV5
/-! The specification's Many, Fewest. -/
namespace Go.Proofs.Yteianfbdhakhpaa
set_option linter.unusedSimpArgs false
set_option linter.unusedVariables false
open Go Go.RowKit
theorem fold_min (rs : List Rd) : ∀ a b : Nat, rs.foldl (fun m r => min m r.1.length) (min a b) = min a (rs.foldl (fun m r => min m r.1.length) b) := by
  induction rs with
  | nil => intro a b; rfl
  | cons r rs ih => intro a b; rw [List.foldl_cons, List.foldl_cons, Nat.min_assoc]; exact ih _ _
theorem few_from {rs : List Rd} {r0 : Rd} (h : rs[0]? = some r0) (h4 : r0.1.length ≤ 4) : rs.foldl (fun m r => min m r.1.length) r0.1.length = fewM rs := by
  have h1 := fold_min rs r0.1.length 4
  rw [Nat.min_eq_left h4] at h1
  have h2 : fewM rs ≤ r0.1.length := by
    cases rs with
    | nil => cases h
    | cons r t =>
      cases h
      show t.foldl (fun m r => min m r.1.length) (min 4 r0.1.length) ≤ _
      rw [Nat.min_comm, fold_min]; exact Nat.min_le_left _ _
  rw [h1]
  exact Nat.min_eq_right h2
set_option maxRecDepth 100000 in
set_option maxHeartbeats 3000000 in
theorem rMany_any (aT : Option Addr) (cT : Nat) (X : Pu) (w : World) (hX : Ints w aT X.ts) : Calls Try.prog 25 #[.agg #[.int .i64 X.l, .int .i64 X.n, .int .i64 X.pi, .int .i64 X.sl, .int .i64 X.ga, .int .i64 X.pa, .int .i64 X.sp, .slice aT X.ts.length cT]] w fun e w' => e = .returned (.tuple #[.int .i64 (manN X), .int .i64 (erX X true)]) ∧ Below w.heap.size w w' := by
  obtain ⟨W, hW, hb, _, x0⟩ := boxes1 w #[.int .i64 X.l, .int .i64 X.n, .int .i64 X.pi, .int .i64 X.sl, .int .i64 X.ga, .int .i64 X.pa, .int .i64 X.sp, .slice aT X.ts.length cT] 24
  replace hX := hX.below hb (Nat.le_refl _)
  have hkn := fun V h => known_any aT cT X true V h
  unfold KnP at hkn
  have hM : (if erX X true = 0 then RS X else []).length = manN X := by unfold manN; split <;> rfl
  rw [hM] at hkn
  generalize manN X = M at *
  generalize erX X true = E at *
  generalize X.ts.length = n at *
  clear hM
  have c0 := x0.cell 0 rfl; have c1 := x0.cell 1 rfl; have c2 := x0.cell 2 rfl; have c3 := x0.cell 3 rfl; have c4 := x0.cell 4 rfl; have c5 := x0.cell 5 rfl; have c6 := x0.cell 6 rfl; have c7 := x0.cell 7 rfl
  go_enter Try.func25, Try.ntmps25
  go_wp2_with fail
  refine (hkn _ hX).mono ?_
  rintro e V ⟨hb1, a, c, rfl, _⟩
  replace hb := hb.trans (hb1.mono hb.size)
  clear hb1 x0 c0 c1 c2 c3 c4 c5 c6 c7 hkn hW
  go_wp2
  go_ret2
  exact ⟨rfl, hb⟩
set_option maxRecDepth 100000 in
set_option maxHeartbeats 5000000 in
theorem rFewest_any (aT : Option Addr) (cT : Nat) (X : Pu) (w : World) (hX : Ints w aT X.ts) : Calls Try.prog 23 #[.agg #[.int .i64 X.l, .int .i64 X.n, .int .i64 X.pi, .int .i64 X.sl, .int .i64 X.ga, .int .i64 X.pa, .int .i64 X.sp, .slice aT X.ts.length cT]] w fun e w' => e = .returned (.tuple #[.int .i64 (fewN X), .int .i64 (fewE X)]) ∧ Below w.heap.size w w' := by
  obtain ⟨W, hW, hb, _, x0⟩ := boxes1 w #[.int .i64 X.l, .int .i64 X.n, .int .i64 X.pi, .int .i64 X.sl, .int .i64 X.ga, .int .i64 X.pa, .int .i64 X.sp, .slice aT X.ts.length cT] 24
  replace hX := hX.below hb (Nat.le_refl _)
  have hck := fun V h => rCheck_any aT cT X V h
  have hrd := fun hv V h => rreadings_any aT cT X hv 3 (by omega) V h
  rw [show ((3 : Nat) : Int) = 3 from rfl] at hrd
  have HVE := hid (show vE X = if vB X = true then 0 else 130 from rfl)
  have HFE := hid (show fewE X = if vB X = true then (if 3 < fewM (rdL X 3) then 3 else 0) else 130 from rfl)
  have HFN := hid (show fewN X = if fewE X = 0 then fewM (rdL X 3) else 0 from rfl)
  have HR3 := hid (show ∀ r ∈ rdL X 3, r.1.length ≤ 3 from fun r h => (rdL_mem h).1)
  have HNN := hid (show vB X = true → (rdL X 3).length ≤ 15625 from fun hv => rdL_len X _ (timesB_rng (vB_ok hv).2.2).1 (by omega))
  unfold RgP at hrd
  generalize rdL X 3 = rs at *
  generalize fewE X = FE at *
  generalize fewN X = FN at *
  generalize vE X = VE at *
  generalize vB X = vb at *
  generalize X.ts.length = n at *
  have c0 := x0.cell 0 rfl; have c1 := x0.cell 1 rfl; have c2 := x0.cell 2 rfl; have c3 := x0.cell 3 rfl; have c4 := x0.cell 4 rfl; have c5 := x0.cell 5 rfl; have c6 := x0.cell 6 rfl; have c7 := x0.cell 7 rfl
  go_enter Try.func23, Try.ntmps23
  go_wp2_with fail
  refine (hck _ hX).mono ?_
  rintro e V1 ⟨rfl, hb1⟩
  replace hX := hX.below hb1 (Nat.le_refl _)
  clear c0 c1 c2 c3 c4 c5 c6 c7 hck hW
  replace x0 := x0.below hb1
  replace hb := hb.trans (hb1.mono hb.size)
  clear hb1
  cases vb with
  | false =>
    obtain rfl : VE = 130 := HVE.out
    obtain rfl : FE = 130 := HFE.out
    obtain rfl : FN = 0 := HFN.out
    go_wp2
    go_ret2
    exact ⟨rfl, hb⟩
  | true =>
    obtain rfl : VE = 0 := HVE.out
    have hrd1 := hrd (by trivial)
    have hn15 := HNN.out (by trivial)
    clear hrd HNN HVE
    have c0 := x0.cell 0 rfl; have c1 := x0.cell 1 rfl; have c2 := x0.cell 2 rfl; have c3 := x0.cell 3 rfl; have c4 := x0.cell 4 rfl; have c5 := x0.cell 5 rfl; have c6 := x0.cell 6 rfl; have c7 := x0.cell 7 rfl
    go_wp2_with fail
    refine (hrd1 _ hX).mono ?_
    rintro e V2 ⟨hb1, a, c, rfl, hr⟩
    replace hb := hb.trans (hb1.mono hb.size)
    clear c0 c1 c2 c3 c4 c5 c6 c7 hrd1 hX x0
    by_cases hnil : rs = []
    · subst hnil
      obtain rfl : FE = 3 := HFE.out
      obtain rfl : FN = 0 := HFN.out
      simp only [List.length_nil]
      go_wp2
      go_ret2
      exact ⟨rfl, hb⟩
    · obtain ⟨r0, hr0⟩ : ∃ r0, rs[0]? = some r0 := ⟨_, List.getElem?_eq_getElem (List.length_pos_iff.2 hnil)⟩
      have h03 := HR3.out r0 (List.mem_of_getElem? hr0)
      have HFM := hid (few_from hr0 (by omega))
      have HFX := hid (show fewM rs ≤ 3 from (fewM_iff (by omega) rs).2 ⟨r0, List.mem_of_getElem? hr0, h03⟩)
      obtain rfl : FE = 0 := by have := HFX.out; rw [HFE.out]; simp; omega
      obtain rfl : FN = fewM rs := HFN.out
      obtain ⟨N, hN⟩ : ∃ N, N = rs.length := ⟨_, rfl⟩
      have hn0 : N ≠ 0 := by rw [hN]; exact fun h => hnil (List.length_eq_zero_iff.1 h)
      have HN := hid hN
      rw [← hN] at hn15 ⊢
      clear hN hnil HFE HFN
      have hq : ((N : Int) == 0) = false := by rw [beq_eq_false_iff_ne]; omega
      have h0N : (0 : Int) < (N : Int) := by omega
      have hR := hid hr
      obtain ⟨b, off, a1, c1, a2, c2, rfl, hbl, q1, q2, i1, i2⟩ := hr 0 r0 hr0
      have q1' : V2.cell? ⟨b, off, none⟩ = some (.slice a1 r0.1.length c1) := by simpa using q1
      obtain ⟨n0, hn0e⟩ : ∃ n0, n0 = r0.1.length := ⟨_, rfl⟩
      rw [← hn0e] at q1' h03
      have HN0 := hid hn0e
      have HB := hid hb
      clear q1 q2 i1 i2 hr hr0 hn0e hb
      go_wp2
      clear q1'
      go_loopw [6, 7] (fun v6 v7 wr => ∃ k q : Nat, k ≤ N ∧ v7 = .int .i64 (k : Int) ∧ v6 = .int .i64 (q : Int) ∧ q ≤ 3 ∧ Hid (q = (rs.take k).foldl (fun m r => min m r.1.length) r0.1.length) ∧ Below V2.heap.size V2 wr) (fun _ v7 _ => N - (intOf v7).toNat)
      case atStart => exact ⟨0, n0, Nat.zero_le _, rfl, rfl, h03, hid HN0.out, Below.refl _ _⟩
      case round =>
        obtain ⟨k, q, hk, rfl, rfl, hq3, HQ, hb⟩ := hrel
        by_cases hlt : k < N
        · obtain ⟨r, hrk⟩ : ∃ r, rs[k]? = some r := ⟨_, List.getElem?_eq_getElem (by rw [← HN.out]; exact hlt)⟩
          obtain ⟨b', off', a1', c1', a2', c2', eb, hbl', q1', q2', _, _⟩ := hR.out k r hrk
          simp only [Option.some.injEq, Addr.mk.injEq, and_true] at eb
          obtain ⟨rfl, rfl⟩ := eb
          have hcw := ((show ClB V2 b (off + k * 2) (.slice a1' r.1.length c1') from ⟨q1', hbl'⟩).below hb).1
          have hkI : (k : Int) < N := by omega
          have hk0 : (0 : Int) ≤ (k : Int) := by omega
          have hst : (rs.take (k + 1)).foldl (fun m r => min m r.1.length) r0.1.length = min q r.1.length := by
            rw [List.take_add_one, hrk, List.foldl_append, ← HQ.out]; rfl
          have HST := hid hst
          clear q1' q2' hbl' hrk hst
          generalize r.1.length = n1 at *
          by_cases hle : q ≤ n1
          · have HQ2 := hid (show q = (rs.take (k + 1)).foldl (fun m r => min m r.1.length) r0.1.length by rw [HST.out]; omega)
            have hleI : (q : Int) ≤ n1 := by omega
            have hleJ : ¬ (n1 : Int) < q := by omega
            have hmm : min (q : Int) (n1 : Int) = (q : Int) := by omega
            clear hle
            go_wp2
            go_roundw
            case rel => exact ⟨k + 1, q, by omega, by go_num, rfl, hq3, HQ2, hb⟩
            case measure => simp [intOf]; omega
          · have HQ2 := hid (show n1 = (rs.take (k + 1)).foldl (fun m r => min m r.1.length) r0.1.length by rw [HST.out]; omega)
            have hleI : ¬ (q : Int) ≤ n1 := by omega
            have hleJ : (n1 : Int) < q := by omega
            have hmm : min (q : Int) (n1 : Int) = (n1 : Int) := by omega
            clear hle
            go_wp2
            go_roundw
            case rel => exact ⟨k + 1, n1, by omega, by go_num, rfl, by omega, HQ2, hb⟩
            case measure => simp [intOf]; omega
        · obtain rfl : k = N := by omega
          have HE := hid (show fewM rs = q by rw [HQ.out, HN.out, List.take_length, HFM.out])
          have hbz := HB.out.trans (hb.mono HB.out.size)
          clear HQ
          go_wp2
          go_ret2
          exact ⟨by rw [HE.out]; rfl, hbz⟩
end Go.Proofs.Yteianfbdhakhpaa
