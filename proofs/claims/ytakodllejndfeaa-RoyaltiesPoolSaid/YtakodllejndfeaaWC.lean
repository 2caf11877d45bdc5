import Derived.Test.YtakodllejndfeaaT20
/-! RoyaltiesPool. -/
namespace Go.Proofs.Ytakodllejndfeaa
set_option linter.unusedSimpArgs false
set_option linter.unusedVariables false
open Go Go.RowKit

theorem askE_v1 {p : Int} {S : List Sd} {O : List Int} (h : vB p S O = true) : askE p S O true = errO S := by
  unfold askE errO; rw [if_pos h, if_pos rfl]
theorem leF_some {S : List Sd} {n : Nat} {who cents j : Int} (h : leF S n who cents = some j) : 0 ≤ j ∧ j ≤ 9999 ∧ cents ≤ shV j (clL S n) (100 * alS S) n who ∧ ∀ m, 0 ≤ m → m < j → shV m (clL S n) (100 * alS S) n who < cents := by
  unfold leF at h
  obtain ⟨h1, h2, h3, h4⟩ := firstF_some h
  refine ⟨h1, by omega, by unfold leQ at h3; simpa using h3, fun m h5 h6 => ?_⟩
  have := h4 m h5 h6
  unfold leQ at this
  simp only [decide_eq_false_iff_not] at this
  omega
theorem leF_none {S : List Sd} {n : Nat} {who cents : Int} (h : leF S n who cents = none) : ∀ m, 0 ≤ m → m ≤ 9999 → shV m (clL S n) (100 * alS S) n who < cents := by
  unfold leF at h
  intro m h5 h6
  have := firstF_none h m h5 (by omega)
  unfold leQ at this
  simp only [decide_eq_false_iff_not] at this
  omega
theorem odF_some {p : Int} {S : List Sd} {n : Nat} {who j : Int} (hp : 0 ≤ p) (h : odF p S n who = some j) : 1 ≤ j ∧ j ≤ p ∧ shV j (clL S n) (100 * alS S) n who < shV (j - 1) (clL S n) (100 * alS S) n who := by
  unfold odF at h
  obtain ⟨h1, h2, h3, _⟩ := firstF_some h
  refine ⟨h1, by omega, by unfold odQ at h3; simpa using h3⟩
/-- The answers of Least and Odd of a writer, in a royal with plays. -/
theorem leA_0 {p : Int} {S : List Sd} {O : List Int} {who cents : Int} (hE : askE p S O true = 0) (h1 : hasB O who = true) (h2 : inI 0 cents 9999 = true) : leV p S O who cents = fpV (leF S O.length who cents) ∧ leE p S O who cents = fpE (leF S O.length who cents) ∧ odV p S O who = fpV (odF p S O.length who) ∧ odE p S O who = fpE (odF p S O.length who) := by
  unfold leV leE odV odE leA
  rw [h1, h2, Bool.and_self, hE]
  simp
theorem leA_n {p : Int} {S : List Sd} {O : List Int} {who cents : Int} (hE : askE p S O true ≠ 0) (h1 : hasB O who = true) (h2 : inI 0 cents 9999 = true) : leE p S O who cents = askE p S O true ∧ odE p S O who = askE p S O true := by
  unfold leE odE leA
  rw [h1, h2, Bool.and_self, if_neg hE, if_neg hE]
  exact ⟨rfl, rfl⟩

set_option maxRecDepth 100000 in
set_option maxHeartbeats 8000000 in
theorem royaltiesPool_any (p : Int) (aS aO : Option Addr) (cS cO : Nat) (S : List Sd) (O : List Int) (who cents pool : Int) (w : World) (hX : RyIn w aS aO p S O) : Calls Try.prog 8 #[.agg #[.int .i64 p, .slice aS S.length cS, .slice aO O.length cO], .agg #[.int .i64 who, .int .i64 cents, .int .i64 pool]] w fun e w' => e = .returned (.bool true) ∧ Below w.heap.size w w' := by
  obtain ⟨W, hW, hb, _, x0, x1⟩ := boxes2 w #[.int .i64 p, .slice aS S.length cS, .slice aO O.length cO] 25 #[.int .i64 who, .int .i64 cents, .int .i64 pool] 56
  have hXW := hX.below hb (Nat.le_refl _)
  have hol := hX.ow.len
  have hrd := ready_any p aS aO cS cO S O W hXW
  have hwk := fun V => works_any V
  have hiw := fun V => IsWriter_any p aS aO cS cO S O who V hol
  cases hr : rdB p S O
  · rw [hr] at hrd
    clear hr hXW
    have c0 := x0.cell 0 rfl; have c1 := x0.cell 1 rfl; have c2 := x0.cell 2 rfl
    have d0 := x1.cell 0 rfl; have d1 := x1.cell 1 rfl; have d2 := x1.cell 2 rfl
    go_enter Try.func8, Try.ntmps8
    go_wp2_with fail
    refine hrd.mono ?_
    rintro e W1 ⟨rfl, hb1⟩
    clear c0 c1 c2
    clear d0 d1 d2
    replace x0 := x0.below hb1
    replace x1 := x1.below hb1
    replace hb := hb.trans (hb1.mono hb.size)
    clear hb1 hrd hX hW
    have c0 := x0.cell 0 rfl; have c1 := x0.cell 1 rfl; have c2 := x0.cell 2 rfl
    have d0 := x1.cell 0 rfl; have d1 := x1.cell 1 rfl; have d2 := x1.cell 2 rfl
    go_wp2_with fail
    refine (hwk _).mono ?_
    rintro e Vw ⟨rfl, hbw9⟩
    clear c0 c1 c2
    clear d0 d1 d2
    replace hb := hb.trans (hbw9.mono hb.size)
    go_wp2
    go_ret
    exact ⟨rfl, hb⟩
  rw [hr] at hrd
  by_cases hp1 : 1000 < p
  · skip
    clear hr hXW
    have c0 := x0.cell 0 rfl; have c1 := x0.cell 1 rfl; have c2 := x0.cell 2 rfl
    have d0 := x1.cell 0 rfl; have d1 := x1.cell 1 rfl; have d2 := x1.cell 2 rfl
    go_enter Try.func8, Try.ntmps8
    go_wp2_with fail
    refine hrd.mono ?_
    rintro e W1 ⟨rfl, hb1⟩
    clear c0 c1 c2
    clear d0 d1 d2
    replace x0 := x0.below hb1
    replace x1 := x1.below hb1
    replace hb := hb.trans (hb1.mono hb.size)
    clear hb1 hrd hX hW
    have c0 := x0.cell 0 rfl; have c1 := x0.cell 1 rfl; have c2 := x0.cell 2 rfl
    have d0 := x1.cell 0 rfl; have d1 := x1.cell 1 rfl; have d2 := x1.cell 2 rfl
    go_wp2_with fail
    refine (hwk _).mono ?_
    rintro e Vw ⟨rfl, hbw9⟩
    clear c0 c1 c2
    clear d0 d1 d2
    replace hb := hb.trans (hbw9.mono hb.size)
    go_wp2
    go_ret
    exact ⟨rfl, hb⟩
  cases hw : hasB O who
  · rw [hw] at hiw
    clear hr hXW
    have c0 := x0.cell 0 rfl; have c1 := x0.cell 1 rfl; have c2 := x0.cell 2 rfl
    have d0 := x1.cell 0 rfl; have d1 := x1.cell 1 rfl; have d2 := x1.cell 2 rfl
    go_enter Try.func8, Try.ntmps8
    go_wp2_with fail
    refine hrd.mono ?_
    rintro e W1 ⟨rfl, hb1⟩
    clear c0 c1 c2
    clear d0 d1 d2
    replace x0 := x0.below hb1
    replace x1 := x1.below hb1
    replace hb := hb.trans (hb1.mono hb.size)
    clear hb1 hrd hX hW
    have c0 := x0.cell 0 rfl; have c1 := x0.cell 1 rfl; have c2 := x0.cell 2 rfl
    have d0 := x1.cell 0 rfl; have d1 := x1.cell 1 rfl; have d2 := x1.cell 2 rfl
    go_wp2_with fail
    refine (hiw _).mono ?_
    rintro e Vc3 ⟨rfl, hb1⟩
    clear c0 c1 c2
    clear d0 d1 d2
    replace x0 := x0.below hb1
    replace x1 := x1.below hb1
    replace hb := hb.trans (hb1.mono hb.size)
    clear hb1
    have c0 := x0.cell 0 rfl; have c1 := x0.cell 1 rfl; have c2 := x0.cell 2 rfl
    have d0 := x1.cell 0 rfl; have d1 := x1.cell 1 rfl; have d2 := x1.cell 2 rfl
    go_wp2_with fail
    refine (hwk _).mono ?_
    rintro e Vw ⟨rfl, hbw9⟩
    clear c0 c1 c2
    clear d0 d1 d2
    replace hb := hb.trans (hbw9.mono hb.size)
    go_wp2
    go_ret
    exact ⟨rfl, hb⟩
  rw [hw] at hiw
  by_cases hc0 : cents < 0
  · skip
    clear hr hXW
    have c0 := x0.cell 0 rfl; have c1 := x0.cell 1 rfl; have c2 := x0.cell 2 rfl
    have d0 := x1.cell 0 rfl; have d1 := x1.cell 1 rfl; have d2 := x1.cell 2 rfl
    go_enter Try.func8, Try.ntmps8
    go_wp2_with fail
    refine hrd.mono ?_
    rintro e W1 ⟨rfl, hb1⟩
    clear c0 c1 c2
    clear d0 d1 d2
    replace x0 := x0.below hb1
    replace x1 := x1.below hb1
    replace hb := hb.trans (hb1.mono hb.size)
    clear hb1 hrd hX hW
    have c0 := x0.cell 0 rfl; have c1 := x0.cell 1 rfl; have c2 := x0.cell 2 rfl
    have d0 := x1.cell 0 rfl; have d1 := x1.cell 1 rfl; have d2 := x1.cell 2 rfl
    go_wp2_with fail
    refine (hiw _).mono ?_
    rintro e Vc5 ⟨rfl, hb1⟩
    clear c0 c1 c2
    clear d0 d1 d2
    replace x0 := x0.below hb1
    replace x1 := x1.below hb1
    replace hb := hb.trans (hb1.mono hb.size)
    clear hb1
    have c0 := x0.cell 0 rfl; have c1 := x0.cell 1 rfl; have c2 := x0.cell 2 rfl
    have d0 := x1.cell 0 rfl; have d1 := x1.cell 1 rfl; have d2 := x1.cell 2 rfl
    go_wp2_with fail
    refine (hwk _).mono ?_
    rintro e Vw ⟨rfl, hbw9⟩
    clear c0 c1 c2
    clear d0 d1 d2
    replace hb := hb.trans (hbw9.mono hb.size)
    go_wp2
    go_ret
    exact ⟨rfl, hb⟩
  by_cases hc9 : 9999 < cents
  · skip
    clear hr hXW
    have c0 := x0.cell 0 rfl; have c1 := x0.cell 1 rfl; have c2 := x0.cell 2 rfl
    have d0 := x1.cell 0 rfl; have d1 := x1.cell 1 rfl; have d2 := x1.cell 2 rfl
    go_enter Try.func8, Try.ntmps8
    go_wp2_with fail
    refine hrd.mono ?_
    rintro e W1 ⟨rfl, hb1⟩
    clear c0 c1 c2
    clear d0 d1 d2
    replace x0 := x0.below hb1
    replace x1 := x1.below hb1
    replace hb := hb.trans (hb1.mono hb.size)
    clear hb1 hrd hX hW
    have c0 := x0.cell 0 rfl; have c1 := x0.cell 1 rfl; have c2 := x0.cell 2 rfl
    have d0 := x1.cell 0 rfl; have d1 := x1.cell 1 rfl; have d2 := x1.cell 2 rfl
    go_wp2_with fail
    refine (hiw _).mono ?_
    rintro e Vc7 ⟨rfl, hb1⟩
    clear c0 c1 c2
    clear d0 d1 d2
    replace x0 := x0.below hb1
    replace x1 := x1.below hb1
    replace hb := hb.trans (hb1.mono hb.size)
    clear hb1
    have c0 := x0.cell 0 rfl; have c1 := x0.cell 1 rfl; have c2 := x0.cell 2 rfl
    have d0 := x1.cell 0 rfl; have d1 := x1.cell 1 rfl; have d2 := x1.cell 2 rfl
    go_wp2_with fail
    refine (hwk _).mono ?_
    rintro e Vw ⟨rfl, hbw9⟩
    clear c0 c1 c2
    clear d0 d1 d2
    replace hb := hb.trans (hbw9.mono hb.size)
    go_wp2
    go_ret
    exact ⟨rfl, hb⟩
  by_cases hq0 : pool < 0
  · skip
    clear hr hXW
    have c0 := x0.cell 0 rfl; have c1 := x0.cell 1 rfl; have c2 := x0.cell 2 rfl
    have d0 := x1.cell 0 rfl; have d1 := x1.cell 1 rfl; have d2 := x1.cell 2 rfl
    go_enter Try.func8, Try.ntmps8
    go_wp2_with fail
    refine hrd.mono ?_
    rintro e W1 ⟨rfl, hb1⟩
    clear c0 c1 c2
    clear d0 d1 d2
    replace x0 := x0.below hb1
    replace x1 := x1.below hb1
    replace hb := hb.trans (hb1.mono hb.size)
    clear hb1 hrd hX hW
    have c0 := x0.cell 0 rfl; have c1 := x0.cell 1 rfl; have c2 := x0.cell 2 rfl
    have d0 := x1.cell 0 rfl; have d1 := x1.cell 1 rfl; have d2 := x1.cell 2 rfl
    go_wp2_with fail
    refine (hiw _).mono ?_
    rintro e Vc9 ⟨rfl, hb1⟩
    clear c0 c1 c2
    clear d0 d1 d2
    replace x0 := x0.below hb1
    replace x1 := x1.below hb1
    replace hb := hb.trans (hb1.mono hb.size)
    clear hb1
    have c0 := x0.cell 0 rfl; have c1 := x0.cell 1 rfl; have c2 := x0.cell 2 rfl
    have d0 := x1.cell 0 rfl; have d1 := x1.cell 1 rfl; have d2 := x1.cell 2 rfl
    go_wp2_with fail
    refine (hwk _).mono ?_
    rintro e Vw ⟨rfl, hbw9⟩
    clear c0 c1 c2
    clear d0 d1 d2
    replace hb := hb.trans (hbw9.mono hb.size)
    go_wp2
    go_ret
    exact ⟨rfl, hb⟩
  by_cases hq9 : 9999 < pool
  · skip
    clear hr hXW
    have c0 := x0.cell 0 rfl; have c1 := x0.cell 1 rfl; have c2 := x0.cell 2 rfl
    have d0 := x1.cell 0 rfl; have d1 := x1.cell 1 rfl; have d2 := x1.cell 2 rfl
    go_enter Try.func8, Try.ntmps8
    go_wp2_with fail
    refine hrd.mono ?_
    rintro e W1 ⟨rfl, hb1⟩
    clear c0 c1 c2
    clear d0 d1 d2
    replace x0 := x0.below hb1
    replace x1 := x1.below hb1
    replace hb := hb.trans (hb1.mono hb.size)
    clear hb1 hrd hX hW
    have c0 := x0.cell 0 rfl; have c1 := x0.cell 1 rfl; have c2 := x0.cell 2 rfl
    have d0 := x1.cell 0 rfl; have d1 := x1.cell 1 rfl; have d2 := x1.cell 2 rfl
    go_wp2_with fail
    refine (hiw _).mono ?_
    rintro e Vc11 ⟨rfl, hb1⟩
    clear c0 c1 c2
    clear d0 d1 d2
    replace x0 := x0.below hb1
    replace x1 := x1.below hb1
    replace hb := hb.trans (hb1.mono hb.size)
    clear hb1
    have c0 := x0.cell 0 rfl; have c1 := x0.cell 1 rfl; have c2 := x0.cell 2 rfl
    have d0 := x1.cell 0 rfl; have d1 := x1.cell 1 rfl; have d2 := x1.cell 2 rfl
    go_wp2_with fail
    refine (hwk _).mono ?_
    rintro e Vw ⟨rfl, hbw9⟩
    clear c0 c1 c2
    clear d0 d1 d2
    replace hb := hb.trans (hbw9.mono hb.size)
    go_wp2
    go_ret
    exact ⟨rfl, hb⟩
  obtain ⟨hf, hv⟩ := rdB_ok hr
  have hV := vB_ok hv
  have hR := hXW.ry hf
  have hin : inI 0 cents 9999 = true := inI_iff.2 ⟨by omega, by omega⟩
  have h1 := fun V h => Least_any p aS aO cS cO S O who cents V h
  have h2 := fun V h => Odd_any p aS aO cS cO S O who V h
  have h3 := fun V h => Plays_any p aS aO cS cO S O V h hV
  have hp0 := hV.p0
  clear hr hf hXW
  by_cases hE : askE p S O true = 0
  · obtain ⟨e1, e2, e3, e4⟩ := leA_0 hE hw hin
    rw [e1, e2] at h1
    rw [e3, e4] at h2
    have hal := (askE_0 hE).2.2
    have hBal : (alS S == 0) = false := by simp [hal]
    have hw2 := hw
    unfold hasB at hw2
    obtain ⟨hw0, hw1⟩ := inI_iff.1 hw2
    obtain ⟨i, rfl⟩ := Int.eq_ofNat_of_zero_le hw0
    have hi : i < O.length := by omega
    have hso := fun P a b V h => shareOf_any p aS aO cS cO S O i P V h hE hi a b
    have HLs := hid (fun j (h : leF S O.length i cents = some j) => leF_some h)
    have HLn := hid (fun (h : leF S O.length i cents = none) => leF_none h)
    have HOs := hid (fun j (h : odF p S O.length i = some j) => odF_some hp0 h)
    generalize alS S = A at *
    generalize leF S O.length i cents = F at *
    generalize odF p S O.length i = G at *
    have hp1' : p ≤ 1000 := by omega
    obtain ⟨sh, hsh⟩ : ∃ sh : Int → Int, ∀ P, sh P = shV P (clL S O.length) (100 * A) O.length (i : Nat) := ⟨_, fun _ => rfl⟩
    simp only [← hsh] at hso HLs HLn HOs
    clear hsh hE hV hv hw hw2 hin e1 e2 e3 e4 hal hw0 hw1 hi
    rcases F with _ | j
    · skip
      have jall := HLn.out rfl
      clear HLs HLn
      simp only [fpV, fpE] at h1
      rcases G with _ | m
      · skip
        clear HOs
        simp only [fpV, fpE] at h2
        have c0 := x0.cell 0 rfl; have c1 := x0.cell 1 rfl; have c2 := x0.cell 2 rfl
        have d0 := x1.cell 0 rfl; have d1 := x1.cell 1 rfl; have d2 := x1.cell 2 rfl
        go_enter Try.func8, Try.ntmps8
        go_wp2_with fail
        refine hrd.mono ?_
        rintro e W1 ⟨rfl, hb1⟩
        clear c0 c1 c2
        clear d0 d1 d2
        replace x0 := x0.below hb1
        replace x1 := x1.below hb1
        replace hR := hR.below hb1 (Nat.le_refl _)
        replace hb := hb.trans (hb1.mono hb.size)
        clear hb1 hrd hX hW
        have c0 := x0.cell 0 rfl; have c1 := x0.cell 1 rfl; have c2 := x0.cell 2 rfl
        have d0 := x1.cell 0 rfl; have d1 := x1.cell 1 rfl; have d2 := x1.cell 2 rfl
        go_wp2_with fail
        refine (hiw _).mono ?_
        rintro e Vc13 ⟨rfl, hb1⟩
        clear c0 c1 c2
        clear d0 d1 d2
        replace x0 := x0.below hb1
        replace x1 := x1.below hb1
        replace hR := hR.below hb1 (Nat.le_refl _)
        replace hb := hb.trans (hb1.mono hb.size)
        clear hb1
        have c0 := x0.cell 0 rfl; have c1 := x0.cell 1 rfl; have c2 := x0.cell 2 rfl
        have d0 := x1.cell 0 rfl; have d1 := x1.cell 1 rfl; have d2 := x1.cell 2 rfl
        go_wp2_with fail
        refine (h1 _ hR).mono ?_
        rintro e Vc14 ⟨rfl, hb1⟩
        clear c0 c1 c2
        clear d0 d1 d2
        replace x0 := x0.below hb1
        replace x1 := x1.below hb1
        replace hR := hR.below hb1 (Nat.le_refl _)
        replace hb := hb.trans (hb1.mono hb.size)
        clear hb1
        have c0 := x0.cell 0 rfl; have c1 := x0.cell 1 rfl; have c2 := x0.cell 2 rfl
        have d0 := x1.cell 0 rfl; have d1 := x1.cell 1 rfl; have d2 := x1.cell 2 rfl
        clear h1
        go_wp2_with fail
        refine (h2 _ hR).mono ?_
        rintro e Vc15 ⟨rfl, hb1⟩
        clear c0 c1 c2
        clear d0 d1 d2
        replace x0 := x0.below hb1
        replace x1 := x1.below hb1
        replace hR := hR.below hb1 (Nat.le_refl _)
        replace hb := hb.trans (hb1.mono hb.size)
        clear hb1
        have c0 := x0.cell 0 rfl; have c1 := x0.cell 1 rfl; have c2 := x0.cell 2 rfl
        have d0 := x1.cell 0 rfl; have d1 := x1.cell 1 rfl; have d2 := x1.cell 2 rfl
        clear h2
        go_wp2_with fail
        refine (h3 _ hR).mono ?_
        rintro e Vc16 ⟨rfl, hb1⟩
        clear c0 c1 c2
        clear d0 d1 d2
        replace x0 := x0.below hb1
        replace x1 := x1.below hb1
        replace hR := hR.below hb1 (Nat.le_refl _)
        replace hb := hb.trans (hb1.mono hb.size)
        clear hb1
        have c0 := x0.cell 0 rfl; have c1 := x0.cell 1 rfl; have c2 := x0.cell 2 rfl
        have d0 := x1.cell 0 rfl; have d1 := x1.cell 1 rfl; have d2 := x1.cell 2 rfl
        clear h3
        have hsl := jall pool (by omega) (by omega)
        go_wp2_with fail
        refine (hso pool (by omega) (by omega) _ hR).mono ?_
        rintro e Vc17 ⟨rfl, hb1⟩
        clear c0 c1 c2
        clear d0 d1 d2
        replace x0 := x0.below hb1
        replace x1 := x1.below hb1
        replace hR := hR.below hb1 (Nat.le_refl _)
        replace hb := hb.trans (hb1.mono hb.size)
        clear hb1
        have c0 := x0.cell 0 rfl; have c1 := x0.cell 1 rfl; have c2 := x0.cell 2 rfl
        have d0 := x1.cell 0 rfl; have d1 := x1.cell 1 rfl; have d2 := x1.cell 2 rfl
        go_wp2_with fail
        refine (hwk _).mono ?_
        rintro e Vw ⟨rfl, hbw9⟩
        clear c0 c1 c2
        clear d0 d1 d2
        replace hb := hb.trans (hbw9.mono hb.size)
        go_wp2
        go_ret
        exact ⟨rfl, hb⟩
      · skip
        obtain ⟨m1, mp, mlt⟩ := HOs.out m rfl
        clear HOs
        simp only [fpV, fpE] at h2
        have ewm : IntKind.i64.wrap (m - 1) = m - 1 := IntWalk.i64_in _ (by omega)
        have c0 := x0.cell 0 rfl; have c1 := x0.cell 1 rfl; have c2 := x0.cell 2 rfl
        have d0 := x1.cell 0 rfl; have d1 := x1.cell 1 rfl; have d2 := x1.cell 2 rfl
        go_enter Try.func8, Try.ntmps8
        go_wp2_with fail
        refine hrd.mono ?_
        rintro e W1 ⟨rfl, hb1⟩
        clear c0 c1 c2
        clear d0 d1 d2
        replace x0 := x0.below hb1
        replace x1 := x1.below hb1
        replace hR := hR.below hb1 (Nat.le_refl _)
        replace hb := hb.trans (hb1.mono hb.size)
        clear hb1 hrd hX hW
        have c0 := x0.cell 0 rfl; have c1 := x0.cell 1 rfl; have c2 := x0.cell 2 rfl
        have d0 := x1.cell 0 rfl; have d1 := x1.cell 1 rfl; have d2 := x1.cell 2 rfl
        go_wp2_with fail
        refine (hiw _).mono ?_
        rintro e Vc19 ⟨rfl, hb1⟩
        clear c0 c1 c2
        clear d0 d1 d2
        replace x0 := x0.below hb1
        replace x1 := x1.below hb1
        replace hR := hR.below hb1 (Nat.le_refl _)
        replace hb := hb.trans (hb1.mono hb.size)
        clear hb1
        have c0 := x0.cell 0 rfl; have c1 := x0.cell 1 rfl; have c2 := x0.cell 2 rfl
        have d0 := x1.cell 0 rfl; have d1 := x1.cell 1 rfl; have d2 := x1.cell 2 rfl
        go_wp2_with fail
        refine (h1 _ hR).mono ?_
        rintro e Vc20 ⟨rfl, hb1⟩
        clear c0 c1 c2
        clear d0 d1 d2
        replace x0 := x0.below hb1
        replace x1 := x1.below hb1
        replace hR := hR.below hb1 (Nat.le_refl _)
        replace hb := hb.trans (hb1.mono hb.size)
        clear hb1
        have c0 := x0.cell 0 rfl; have c1 := x0.cell 1 rfl; have c2 := x0.cell 2 rfl
        have d0 := x1.cell 0 rfl; have d1 := x1.cell 1 rfl; have d2 := x1.cell 2 rfl
        clear h1
        go_wp2_with fail
        refine (h2 _ hR).mono ?_
        rintro e Vc21 ⟨rfl, hb1⟩
        clear c0 c1 c2
        clear d0 d1 d2
        replace x0 := x0.below hb1
        replace x1 := x1.below hb1
        replace hR := hR.below hb1 (Nat.le_refl _)
        replace hb := hb.trans (hb1.mono hb.size)
        clear hb1
        have c0 := x0.cell 0 rfl; have c1 := x0.cell 1 rfl; have c2 := x0.cell 2 rfl
        have d0 := x1.cell 0 rfl; have d1 := x1.cell 1 rfl; have d2 := x1.cell 2 rfl
        clear h2
        go_wp2_with fail
        refine (h3 _ hR).mono ?_
        rintro e Vc22 ⟨rfl, hb1⟩
        clear c0 c1 c2
        clear d0 d1 d2
        replace x0 := x0.below hb1
        replace x1 := x1.below hb1
        replace hR := hR.below hb1 (Nat.le_refl _)
        replace hb := hb.trans (hb1.mono hb.size)
        clear hb1
        have c0 := x0.cell 0 rfl; have c1 := x0.cell 1 rfl; have c2 := x0.cell 2 rfl
        have d0 := x1.cell 0 rfl; have d1 := x1.cell 1 rfl; have d2 := x1.cell 2 rfl
        clear h3
        have hsl := jall pool (by omega) (by omega)
        go_wp2_with fail
        refine (hso pool (by omega) (by omega) _ hR).mono ?_
        rintro e Vc23 ⟨rfl, hb1⟩
        clear c0 c1 c2
        clear d0 d1 d2
        replace x0 := x0.below hb1
        replace x1 := x1.below hb1
        replace hR := hR.below hb1 (Nat.le_refl _)
        replace hb := hb.trans (hb1.mono hb.size)
        clear hb1
        have c0 := x0.cell 0 rfl; have c1 := x0.cell 1 rfl; have c2 := x0.cell 2 rfl
        have d0 := x1.cell 0 rfl; have d1 := x1.cell 1 rfl; have d2 := x1.cell 2 rfl
        go_wp2_with fail
        refine (hso m (by omega) (by omega) _ hR).mono ?_
        rintro e Vc24 ⟨rfl, hb1⟩
        clear c0 c1 c2
        clear d0 d1 d2
        replace x0 := x0.below hb1
        replace x1 := x1.below hb1
        replace hR := hR.below hb1 (Nat.le_refl _)
        replace hb := hb.trans (hb1.mono hb.size)
        clear hb1
        have c0 := x0.cell 0 rfl; have c1 := x0.cell 1 rfl; have c2 := x0.cell 2 rfl
        have d0 := x1.cell 0 rfl; have d1 := x1.cell 1 rfl; have d2 := x1.cell 2 rfl
        go_wp2_with fail
        refine (hso (m - 1) (by omega) (by omega) _ hR).mono ?_
        rintro e Vc25 ⟨rfl, hb1⟩
        clear c0 c1 c2
        clear d0 d1 d2
        replace x0 := x0.below hb1
        replace x1 := x1.below hb1
        replace hR := hR.below hb1 (Nat.le_refl _)
        replace hb := hb.trans (hb1.mono hb.size)
        clear hb1
        have c0 := x0.cell 0 rfl; have c1 := x0.cell 1 rfl; have c2 := x0.cell 2 rfl
        have d0 := x1.cell 0 rfl; have d1 := x1.cell 1 rfl; have d2 := x1.cell 2 rfl
        go_wp2_with fail
        refine (hwk _).mono ?_
        rintro e Vw ⟨rfl, hbw9⟩
        clear c0 c1 c2
        clear d0 d1 d2
        replace hb := hb.trans (hbw9.mono hb.size)
        go_wp2
        go_ret
        exact ⟨rfl, hb⟩
    · skip
      obtain ⟨j0, j9, jle, jlt⟩ := HLs.out j rfl
      clear HLs HLn
      simp only [fpV, fpE] at h1
      rcases G with _ | m
      · skip
        clear HOs
        simp only [fpV, fpE] at h2
        have c0 := x0.cell 0 rfl; have c1 := x0.cell 1 rfl; have c2 := x0.cell 2 rfl
        have d0 := x1.cell 0 rfl; have d1 := x1.cell 1 rfl; have d2 := x1.cell 2 rfl
        go_enter Try.func8, Try.ntmps8
        go_wp2_with fail
        refine hrd.mono ?_
        rintro e W1 ⟨rfl, hb1⟩
        clear c0 c1 c2
        clear d0 d1 d2
        replace x0 := x0.below hb1
        replace x1 := x1.below hb1
        replace hR := hR.below hb1 (Nat.le_refl _)
        replace hb := hb.trans (hb1.mono hb.size)
        clear hb1 hrd hX hW
        have c0 := x0.cell 0 rfl; have c1 := x0.cell 1 rfl; have c2 := x0.cell 2 rfl
        have d0 := x1.cell 0 rfl; have d1 := x1.cell 1 rfl; have d2 := x1.cell 2 rfl
        go_wp2_with fail
        refine (hiw _).mono ?_
        rintro e Vc27 ⟨rfl, hb1⟩
        clear c0 c1 c2
        clear d0 d1 d2
        replace x0 := x0.below hb1
        replace x1 := x1.below hb1
        replace hR := hR.below hb1 (Nat.le_refl _)
        replace hb := hb.trans (hb1.mono hb.size)
        clear hb1
        have c0 := x0.cell 0 rfl; have c1 := x0.cell 1 rfl; have c2 := x0.cell 2 rfl
        have d0 := x1.cell 0 rfl; have d1 := x1.cell 1 rfl; have d2 := x1.cell 2 rfl
        go_wp2_with fail
        refine (h1 _ hR).mono ?_
        rintro e Vc28 ⟨rfl, hb1⟩
        clear c0 c1 c2
        clear d0 d1 d2
        replace x0 := x0.below hb1
        replace x1 := x1.below hb1
        replace hR := hR.below hb1 (Nat.le_refl _)
        replace hb := hb.trans (hb1.mono hb.size)
        clear hb1
        have c0 := x0.cell 0 rfl; have c1 := x0.cell 1 rfl; have c2 := x0.cell 2 rfl
        have d0 := x1.cell 0 rfl; have d1 := x1.cell 1 rfl; have d2 := x1.cell 2 rfl
        clear h1
        go_wp2_with fail
        refine (h2 _ hR).mono ?_
        rintro e Vc29 ⟨rfl, hb1⟩
        clear c0 c1 c2
        clear d0 d1 d2
        replace x0 := x0.below hb1
        replace x1 := x1.below hb1
        replace hR := hR.below hb1 (Nat.le_refl _)
        replace hb := hb.trans (hb1.mono hb.size)
        clear hb1
        have c0 := x0.cell 0 rfl; have c1 := x0.cell 1 rfl; have c2 := x0.cell 2 rfl
        have d0 := x1.cell 0 rfl; have d1 := x1.cell 1 rfl; have d2 := x1.cell 2 rfl
        clear h2
        go_wp2_with fail
        refine (h3 _ hR).mono ?_
        rintro e Vc30 ⟨rfl, hb1⟩
        clear c0 c1 c2
        clear d0 d1 d2
        replace x0 := x0.below hb1
        replace x1 := x1.below hb1
        replace hR := hR.below hb1 (Nat.le_refl _)
        replace hb := hb.trans (hb1.mono hb.size)
        clear hb1
        have c0 := x0.cell 0 rfl; have c1 := x0.cell 1 rfl; have c2 := x0.cell 2 rfl
        have d0 := x1.cell 0 rfl; have d1 := x1.cell 1 rfl; have d2 := x1.cell 2 rfl
        clear h3
        go_wp2_with fail
        refine (hso j j0 j9 _ hR).mono ?_
        rintro e Vc31 ⟨rfl, hb1⟩
        clear c0 c1 c2
        clear d0 d1 d2
        replace x0 := x0.below hb1
        replace x1 := x1.below hb1
        replace hR := hR.below hb1 (Nat.le_refl _)
        replace hb := hb.trans (hb1.mono hb.size)
        clear hb1
        have c0 := x0.cell 0 rfl; have c1 := x0.cell 1 rfl; have c2 := x0.cell 2 rfl
        have d0 := x1.cell 0 rfl; have d1 := x1.cell 1 rfl; have d2 := x1.cell 2 rfl
        by_cases hlt : pool < j
        · have hsl := jlt pool (by omega) hlt
          go_wp2_with fail
          refine (hso pool (by omega) (by omega) _ hR).mono ?_
          rintro e Vc32 ⟨rfl, hb1⟩
          clear c0 c1 c2
          clear d0 d1 d2
          replace x0 := x0.below hb1
          replace x1 := x1.below hb1
          replace hR := hR.below hb1 (Nat.le_refl _)
          replace hb := hb.trans (hb1.mono hb.size)
          clear hb1
          have c0 := x0.cell 0 rfl; have c1 := x0.cell 1 rfl; have c2 := x0.cell 2 rfl
          have d0 := x1.cell 0 rfl; have d1 := x1.cell 1 rfl; have d2 := x1.cell 2 rfl
          go_wp2_with fail
          refine (hwk _).mono ?_
          rintro e Vw ⟨rfl, hbw9⟩
          clear c0 c1 c2
          clear d0 d1 d2
          replace hb := hb.trans (hbw9.mono hb.size)
          go_wp2
          go_ret
          exact ⟨rfl, hb⟩
        · skip
          go_wp2_with fail
          refine (hwk _).mono ?_
          rintro e Vw ⟨rfl, hbw9⟩
          clear c0 c1 c2
          clear d0 d1 d2
          replace hb := hb.trans (hbw9.mono hb.size)
          go_wp2
          go_ret
          exact ⟨rfl, hb⟩
      · skip
        obtain ⟨m1, mp, mlt⟩ := HOs.out m rfl
        clear HOs
        simp only [fpV, fpE] at h2
        have ewm : IntKind.i64.wrap (m - 1) = m - 1 := IntWalk.i64_in _ (by omega)
        have c0 := x0.cell 0 rfl; have c1 := x0.cell 1 rfl; have c2 := x0.cell 2 rfl
        have d0 := x1.cell 0 rfl; have d1 := x1.cell 1 rfl; have d2 := x1.cell 2 rfl
        go_enter Try.func8, Try.ntmps8
        go_wp2_with fail
        refine hrd.mono ?_
        rintro e W1 ⟨rfl, hb1⟩
        clear c0 c1 c2
        clear d0 d1 d2
        replace x0 := x0.below hb1
        replace x1 := x1.below hb1
        replace hR := hR.below hb1 (Nat.le_refl _)
        replace hb := hb.trans (hb1.mono hb.size)
        clear hb1 hrd hX hW
        have c0 := x0.cell 0 rfl; have c1 := x0.cell 1 rfl; have c2 := x0.cell 2 rfl
        have d0 := x1.cell 0 rfl; have d1 := x1.cell 1 rfl; have d2 := x1.cell 2 rfl
        go_wp2_with fail
        refine (hiw _).mono ?_
        rintro e Vc35 ⟨rfl, hb1⟩
        clear c0 c1 c2
        clear d0 d1 d2
        replace x0 := x0.below hb1
        replace x1 := x1.below hb1
        replace hR := hR.below hb1 (Nat.le_refl _)
        replace hb := hb.trans (hb1.mono hb.size)
        clear hb1
        have c0 := x0.cell 0 rfl; have c1 := x0.cell 1 rfl; have c2 := x0.cell 2 rfl
        have d0 := x1.cell 0 rfl; have d1 := x1.cell 1 rfl; have d2 := x1.cell 2 rfl
        go_wp2_with fail
        refine (h1 _ hR).mono ?_
        rintro e Vc36 ⟨rfl, hb1⟩
        clear c0 c1 c2
        clear d0 d1 d2
        replace x0 := x0.below hb1
        replace x1 := x1.below hb1
        replace hR := hR.below hb1 (Nat.le_refl _)
        replace hb := hb.trans (hb1.mono hb.size)
        clear hb1
        have c0 := x0.cell 0 rfl; have c1 := x0.cell 1 rfl; have c2 := x0.cell 2 rfl
        have d0 := x1.cell 0 rfl; have d1 := x1.cell 1 rfl; have d2 := x1.cell 2 rfl
        clear h1
        go_wp2_with fail
        refine (h2 _ hR).mono ?_
        rintro e Vc37 ⟨rfl, hb1⟩
        clear c0 c1 c2
        clear d0 d1 d2
        replace x0 := x0.below hb1
        replace x1 := x1.below hb1
        replace hR := hR.below hb1 (Nat.le_refl _)
        replace hb := hb.trans (hb1.mono hb.size)
        clear hb1
        have c0 := x0.cell 0 rfl; have c1 := x0.cell 1 rfl; have c2 := x0.cell 2 rfl
        have d0 := x1.cell 0 rfl; have d1 := x1.cell 1 rfl; have d2 := x1.cell 2 rfl
        clear h2
        go_wp2_with fail
        refine (h3 _ hR).mono ?_
        rintro e Vc38 ⟨rfl, hb1⟩
        clear c0 c1 c2
        clear d0 d1 d2
        replace x0 := x0.below hb1
        replace x1 := x1.below hb1
        replace hR := hR.below hb1 (Nat.le_refl _)
        replace hb := hb.trans (hb1.mono hb.size)
        clear hb1
        have c0 := x0.cell 0 rfl; have c1 := x0.cell 1 rfl; have c2 := x0.cell 2 rfl
        have d0 := x1.cell 0 rfl; have d1 := x1.cell 1 rfl; have d2 := x1.cell 2 rfl
        clear h3
        go_wp2_with fail
        refine (hso j j0 j9 _ hR).mono ?_
        rintro e Vc39 ⟨rfl, hb1⟩
        clear c0 c1 c2
        clear d0 d1 d2
        replace x0 := x0.below hb1
        replace x1 := x1.below hb1
        replace hR := hR.below hb1 (Nat.le_refl _)
        replace hb := hb.trans (hb1.mono hb.size)
        clear hb1
        have c0 := x0.cell 0 rfl; have c1 := x0.cell 1 rfl; have c2 := x0.cell 2 rfl
        have d0 := x1.cell 0 rfl; have d1 := x1.cell 1 rfl; have d2 := x1.cell 2 rfl
        by_cases hlt : pool < j
        · have hsl := jlt pool (by omega) hlt
          go_wp2_with fail
          refine (hso pool (by omega) (by omega) _ hR).mono ?_
          rintro e Vc40 ⟨rfl, hb1⟩
          clear c0 c1 c2
          clear d0 d1 d2
          replace x0 := x0.below hb1
          replace x1 := x1.below hb1
          replace hR := hR.below hb1 (Nat.le_refl _)
          replace hb := hb.trans (hb1.mono hb.size)
          clear hb1
          have c0 := x0.cell 0 rfl; have c1 := x0.cell 1 rfl; have c2 := x0.cell 2 rfl
          have d0 := x1.cell 0 rfl; have d1 := x1.cell 1 rfl; have d2 := x1.cell 2 rfl
          go_wp2_with fail
          refine (hso m (by omega) (by omega) _ hR).mono ?_
          rintro e Vc41 ⟨rfl, hb1⟩
          clear c0 c1 c2
          clear d0 d1 d2
          replace x0 := x0.below hb1
          replace x1 := x1.below hb1
          replace hR := hR.below hb1 (Nat.le_refl _)
          replace hb := hb.trans (hb1.mono hb.size)
          clear hb1
          have c0 := x0.cell 0 rfl; have c1 := x0.cell 1 rfl; have c2 := x0.cell 2 rfl
          have d0 := x1.cell 0 rfl; have d1 := x1.cell 1 rfl; have d2 := x1.cell 2 rfl
          go_wp2_with fail
          refine (hso (m - 1) (by omega) (by omega) _ hR).mono ?_
          rintro e Vc42 ⟨rfl, hb1⟩
          clear c0 c1 c2
          clear d0 d1 d2
          replace x0 := x0.below hb1
          replace x1 := x1.below hb1
          replace hR := hR.below hb1 (Nat.le_refl _)
          replace hb := hb.trans (hb1.mono hb.size)
          clear hb1
          have c0 := x0.cell 0 rfl; have c1 := x0.cell 1 rfl; have c2 := x0.cell 2 rfl
          have d0 := x1.cell 0 rfl; have d1 := x1.cell 1 rfl; have d2 := x1.cell 2 rfl
          go_wp2_with fail
          refine (hwk _).mono ?_
          rintro e Vw ⟨rfl, hbw9⟩
          clear c0 c1 c2
          clear d0 d1 d2
          replace hb := hb.trans (hbw9.mono hb.size)
          go_wp2
          go_ret
          exact ⟨rfl, hb⟩
        · skip
          go_wp2_with fail
          refine (hso m (by omega) (by omega) _ hR).mono ?_
          rintro e Vc44 ⟨rfl, hb1⟩
          clear c0 c1 c2
          clear d0 d1 d2
          replace x0 := x0.below hb1
          replace x1 := x1.below hb1
          replace hR := hR.below hb1 (Nat.le_refl _)
          replace hb := hb.trans (hb1.mono hb.size)
          clear hb1
          have c0 := x0.cell 0 rfl; have c1 := x0.cell 1 rfl; have c2 := x0.cell 2 rfl
          have d0 := x1.cell 0 rfl; have d1 := x1.cell 1 rfl; have d2 := x1.cell 2 rfl
          go_wp2_with fail
          refine (hso (m - 1) (by omega) (by omega) _ hR).mono ?_
          rintro e Vc45 ⟨rfl, hb1⟩
          clear c0 c1 c2
          clear d0 d1 d2
          replace x0 := x0.below hb1
          replace x1 := x1.below hb1
          replace hR := hR.below hb1 (Nat.le_refl _)
          replace hb := hb.trans (hb1.mono hb.size)
          clear hb1
          have c0 := x0.cell 0 rfl; have c1 := x0.cell 1 rfl; have c2 := x0.cell 2 rfl
          have d0 := x1.cell 0 rfl; have d1 := x1.cell 1 rfl; have d2 := x1.cell 2 rfl
          go_wp2_with fail
          refine (hwk _).mono ?_
          rintro e Vw ⟨rfl, hbw9⟩
          clear c0 c1 c2
          clear d0 d1 d2
          replace hb := hb.trans (hbw9.mono hb.size)
          go_wp2
          go_ret
          exact ⟨rfl, hb⟩
  · obtain ⟨e2, e4⟩ := leA_n hE hw hin
    have hEO := askE_v1 hv
    have hal : alS S = 0 := by
      unfold errO at hEO
      by_cases h : alS S = 0
      · exact h
      · rw [if_neg h] at hEO; exact absurd hEO hE
    have hE3 : askE p S O true = 3 := by rw [hEO]; unfold errO; rw [if_pos hal]
    rw [e2, hE3] at h1
    rw [e4, hE3] at h2
    rw [hal] at h3
    clear hE hE3 hEO hal e2 e4 hV hv hin hw
    have c0 := x0.cell 0 rfl; have c1 := x0.cell 1 rfl; have c2 := x0.cell 2 rfl
    have d0 := x1.cell 0 rfl; have d1 := x1.cell 1 rfl; have d2 := x1.cell 2 rfl
    go_enter Try.func8, Try.ntmps8
    go_wp2_with fail
    refine hrd.mono ?_
    rintro e W1 ⟨rfl, hb1⟩
    clear c0 c1 c2
    clear d0 d1 d2
    replace x0 := x0.below hb1
    replace x1 := x1.below hb1
    replace hR := hR.below hb1 (Nat.le_refl _)
    replace hb := hb.trans (hb1.mono hb.size)
    clear hb1 hrd hX hW
    have c0 := x0.cell 0 rfl; have c1 := x0.cell 1 rfl; have c2 := x0.cell 2 rfl
    have d0 := x1.cell 0 rfl; have d1 := x1.cell 1 rfl; have d2 := x1.cell 2 rfl
    go_wp2_with fail
    refine (hiw _).mono ?_
    rintro e Vc47 ⟨rfl, hb1⟩
    clear c0 c1 c2
    clear d0 d1 d2
    replace x0 := x0.below hb1
    replace x1 := x1.below hb1
    replace hR := hR.below hb1 (Nat.le_refl _)
    replace hb := hb.trans (hb1.mono hb.size)
    clear hb1
    have c0 := x0.cell 0 rfl; have c1 := x0.cell 1 rfl; have c2 := x0.cell 2 rfl
    have d0 := x1.cell 0 rfl; have d1 := x1.cell 1 rfl; have d2 := x1.cell 2 rfl
    go_wp2_with fail
    refine (h1 _ hR).mono ?_
    rintro e Vc48 ⟨rfl, hb1⟩
    clear c0 c1 c2
    clear d0 d1 d2
    replace x0 := x0.below hb1
    replace x1 := x1.below hb1
    replace hR := hR.below hb1 (Nat.le_refl _)
    replace hb := hb.trans (hb1.mono hb.size)
    clear hb1
    have c0 := x0.cell 0 rfl; have c1 := x0.cell 1 rfl; have c2 := x0.cell 2 rfl
    have d0 := x1.cell 0 rfl; have d1 := x1.cell 1 rfl; have d2 := x1.cell 2 rfl
    clear h1
    go_wp2_with fail
    refine (h2 _ hR).mono ?_
    rintro e Vc49 ⟨rfl, hb1⟩
    clear c0 c1 c2
    clear d0 d1 d2
    replace x0 := x0.below hb1
    replace x1 := x1.below hb1
    replace hR := hR.below hb1 (Nat.le_refl _)
    replace hb := hb.trans (hb1.mono hb.size)
    clear hb1
    have c0 := x0.cell 0 rfl; have c1 := x0.cell 1 rfl; have c2 := x0.cell 2 rfl
    have d0 := x1.cell 0 rfl; have d1 := x1.cell 1 rfl; have d2 := x1.cell 2 rfl
    clear h2
    go_wp2_with fail
    refine (h3 _ hR).mono ?_
    rintro e Vc50 ⟨rfl, hb1⟩
    clear c0 c1 c2
    clear d0 d1 d2
    replace x0 := x0.below hb1
    replace x1 := x1.below hb1
    replace hR := hR.below hb1 (Nat.le_refl _)
    replace hb := hb.trans (hb1.mono hb.size)
    clear hb1
    have c0 := x0.cell 0 rfl; have c1 := x0.cell 1 rfl; have c2 := x0.cell 2 rfl
    have d0 := x1.cell 0 rfl; have d1 := x1.cell 1 rfl; have d2 := x1.cell 2 rfl
    clear h3
    go_wp2_with fail
    refine (hwk _).mono ?_
    rintro e Vw ⟨rfl, hbw9⟩
    clear c0 c1 c2
    clear d0 d1 d2
    replace hb := hb.trans (hbw9.mono hb.size)
    go_wp2
    go_ret
    exact ⟨rfl, hb⟩
end Go.Proofs.Ytakodllejndfeaa
