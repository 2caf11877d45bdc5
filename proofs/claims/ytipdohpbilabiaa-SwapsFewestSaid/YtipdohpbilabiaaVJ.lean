import Derived.Test.YtipdohpbilabiaaVI
/-! Far and ready. -/
namespace Go.Proofs.Ytipdohpbilabiaa
set_option linter.unusedSimpArgs false
set_option linter.unusedVariables false
open Go Go.RowKit

def farB (X : Sw) : Bool := (farL X.bs || farL X.er || decide (40 < X.st.length) || decide (40 < X.ks.length)) || (vB X && (decide (2 < X.bs.length) || decide (5 < X.st.length)))
def rdB (X : Sw) : Bool := !farB X && vB X
theorem rdB_iff {X : Sw} (h : rdB X = true) : vB X = true ∧ X.bs.length ≤ 2 ∧ X.st.length ≤ 5 := by
  unfold rdB farB at h
  simp only [Bool.and_eq_true, Bool.not_eq_true', Bool.or_eq_false_iff, Bool.and_eq_false_iff, decide_eq_false_iff_not] at h
  obtain ⟨⟨_, h1⟩, h2⟩ := h
  rcases h1 with h1 | h1
  · rw [h2] at h1; cases h1
  · exact ⟨h2, by omega, by omega⟩
theorem cod_t {v : Bool} (h : v = true) : cod v = 0 := by rw [h]; rfl
theorem cod_f {v : Bool} (h : v = false) : cod v = 70 := by rw [h]; rfl
set_option maxRecDepth 100000 in
set_option maxHeartbeats 2000000 in
theorem Far_any (ab ast ae ak : Option Addr) (cb cs ce ck : Nat) (X : Sw) (w : World) (hX : Swp w ab ast ae ak X) : Calls Try.prog 26 #[.agg #[.slice ab X.bs.length cb, .slice ast X.st.length cs, .slice ae X.er.length ce, .slice ak X.ks.length ck, .int .i64 X.ch]] w fun e w' => e = .returned (.bool (farB X)) ∧ Below w.heap.size w w' := by
  obtain ⟨W, hW, hb, _, x0⟩ := boxes1 w #[.slice ab X.bs.length cb, .slice ast X.st.length cs, .slice ae X.er.length ce, .slice ak X.ks.length ck, .int .i64 X.ch] 26
  have hX1 := hX.below hb (Nat.le_refl _)
  have hf1 := farLists_any ab cb X.bs W hX1.1
  have hf2 := farLists_any ae ce X.er W hX1.2.2.1
  have hck := Check_any ab ast ae ak cb cs ce ck X W hX1
  have hl1 := hX.2.1.len
  have hl2 := hX.1.1
  have hl3 : X.ks.length ≤ 9223372036854775807 := by have := hX.2.2.2.1; omega
  unfold farB
  have c0 := x0.cell 0 rfl; have c1 := x0.cell 1 rfl; have c2 := x0.cell 2 rfl; have c3 := x0.cell 3 rfl; have c4 := x0.cell 4 rfl
  cases h1 : farL X.bs
  · rw [h1] at hf1
    cases h2 : farL X.er
    · rw [h2] at hf2
      by_cases h3 : 40 < X.st.length
      · have h3I : (40 : Int) < (X.st.length : Int) := by omega
        clear h1 h2 hX hX1 hck hl1 hl2 hl3
        go_enter Try.func26, Try.ntmps26
        go_wp2_with fail
        refine (hf1).mono ?_
        rintro e Vn ⟨rfl, rfl⟩
        go_wp2_with fail
        refine (hf2).mono ?_
        rintro e Vn ⟨rfl, rfl⟩
        go_wp2
        go_ret
        exact ⟨ret_bool (by simp [h3]), hb⟩
      · have h3I : (X.st.length : Int) ≤ 40 := by omega
        by_cases h4 : 40 < X.ks.length
        · have h4I : (40 : Int) < (X.ks.length : Int) := by omega
          clear h1 h2 hX hX1 hck hl1 hl2 hl3
          go_enter Try.func26, Try.ntmps26
          go_wp2_with fail
          refine (hf1).mono ?_
          rintro e Vn ⟨rfl, rfl⟩
          go_wp2_with fail
          refine (hf2).mono ?_
          rintro e Vn ⟨rfl, rfl⟩
          go_wp2
          go_ret
          exact ⟨ret_bool (by simp [h4]), hb⟩
        · have h4I : (X.ks.length : Int) ≤ 40 := by omega
          cases h5 : vB X
          · rw [cod_f h5] at hck
            clear h1 h2 hX hX1 hl1 hl2 hl3 h5
            go_enter Try.func26, Try.ntmps26
            go_wp2_with fail
            refine (hf1).mono ?_
            rintro e Vn ⟨rfl, rfl⟩
            go_wp2_with fail
            refine (hf2).mono ?_
            rintro e Vn ⟨rfl, rfl⟩
            go_wp2_with fail
            refine (hck).mono ?_
            rintro e Vn ⟨rfl, hb1⟩
            replace hb := hb.trans (hb1.mono hb.size)
            clear c0 c1 c2 c3 c4
            go_wp2
            go_ret
            exact ⟨ret_bool (by simp [h3, h4]), hb⟩
          · rw [cod_t h5] at hck
            by_cases h6 : 2 < X.bs.length
            · have h6I : (2 : Int) < (X.bs.length : Int) := by omega
              clear h1 h2 hX hX1 hl1 hl2 hl3 h5
              go_enter Try.func26, Try.ntmps26
              go_wp2_with fail
              refine (hf1).mono ?_
              rintro e Vn ⟨rfl, rfl⟩
              go_wp2_with fail
              refine (hf2).mono ?_
              rintro e Vn ⟨rfl, rfl⟩
              go_wp2_with fail
              refine (hck).mono ?_
              rintro e Vn ⟨rfl, hb1⟩
              replace hb := hb.trans (hb1.mono hb.size)
              replace x0 := x0.below hb1
              clear c0 c1 c2 c3 c4
              have c0 := x0.cell 0 rfl; have c1 := x0.cell 1 rfl; have c2 := x0.cell 2 rfl; have c3 := x0.cell 3 rfl; have c4 := x0.cell 4 rfl
              go_wp2
              go_ret
              exact ⟨ret_bool (by simp [h6]), hb⟩
            · have h6I : (X.bs.length : Int) ≤ 2 := by omega
              by_cases h7 : 5 < X.st.length
              · have h7I : (5 : Int) < (X.st.length : Int) := by omega
                clear h1 h2 hX hX1 hl1 hl2 hl3 h5
                go_enter Try.func26, Try.ntmps26
                go_wp2_with fail
                refine (hf1).mono ?_
                rintro e Vn ⟨rfl, rfl⟩
                go_wp2_with fail
                refine (hf2).mono ?_
                rintro e Vn ⟨rfl, rfl⟩
                go_wp2_with fail
                refine (hck).mono ?_
                rintro e Vn ⟨rfl, hb1⟩
                replace hb := hb.trans (hb1.mono hb.size)
                replace x0 := x0.below hb1
                clear c0 c1 c2 c3 c4
                have c0 := x0.cell 0 rfl; have c1 := x0.cell 1 rfl; have c2 := x0.cell 2 rfl; have c3 := x0.cell 3 rfl; have c4 := x0.cell 4 rfl
                go_wp2
                go_ret
                exact ⟨ret_bool (by simp [h7]), hb⟩
              · have h7I : (X.st.length : Int) ≤ 5 := by omega
                clear h1 h2 hX hX1 hl1 hl2 hl3 h5
                go_enter Try.func26, Try.ntmps26
                go_wp2_with fail
                refine (hf1).mono ?_
                rintro e Vn ⟨rfl, rfl⟩
                go_wp2_with fail
                refine (hf2).mono ?_
                rintro e Vn ⟨rfl, rfl⟩
                go_wp2_with fail
                refine (hck).mono ?_
                rintro e Vn ⟨rfl, hb1⟩
                replace hb := hb.trans (hb1.mono hb.size)
                replace x0 := x0.below hb1
                clear c0 c1 c2 c3 c4
                have c0 := x0.cell 0 rfl; have c1 := x0.cell 1 rfl; have c2 := x0.cell 2 rfl; have c3 := x0.cell 3 rfl; have c4 := x0.cell 4 rfl
                go_wp2
                go_ret
                exact ⟨ret_bool (by simp [h3, h4, h6, h7]; exact ⟨h6I, h7I⟩), hb⟩
    · rw [h2] at hf2
      clear h1 h2 hX hX1 hck hl1 hl2 hl3
      go_enter Try.func26, Try.ntmps26
      go_wp2_with fail
      refine (hf1).mono ?_
      rintro e Vn ⟨rfl, rfl⟩
      go_wp2_with fail
      refine (hf2).mono ?_
      rintro e Vn ⟨rfl, rfl⟩
      go_wp2
      go_ret
      exact ⟨ret_bool (by simp), hb⟩
  · rw [h1] at hf1
    clear h1 hX hX1 hck hl1 hl2 hl3 hf2
    go_enter Try.func26, Try.ntmps26
    go_wp2_with fail
    refine (hf1).mono ?_
    rintro e Vn ⟨rfl, rfl⟩
    go_wp2
    go_ret
    exact ⟨ret_bool (by simp), hb⟩

set_option maxRecDepth 100000 in
set_option maxHeartbeats 2000000 in
theorem ready_any (ab ast ae ak : Option Addr) (cb cs ce ck : Nat) (X : Sw) (w : World) (hX : Swp w ab ast ae ak X) : Calls Try.prog 44 #[.agg #[.slice ab X.bs.length cb, .slice ast X.st.length cs, .slice ae X.er.length ce, .slice ak X.ks.length ck, .int .i64 X.ch]] w fun e w' => e = .returned (.bool (rdB X)) ∧ Below w.heap.size w w' := by
  obtain ⟨W, hW, hb, _, x0⟩ := boxes1 w #[.slice ab X.bs.length cb, .slice ast X.st.length cs, .slice ae X.er.length ce, .slice ak X.ks.length ck, .int .i64 X.ch] 26
  have hgX := fun V (h : Below w.heap.size w V) => hX.below h (Nat.le_refl _)
  have hfa := Far_any ab ast ae ak cb cs ce ck X W (hgX _ hb)
  have hck := fun V h => Check_any ab ast ae ak cb cs ce ck X V (hgX V h)
  unfold rdB
  have c0 := x0.cell 0 rfl; have c1 := x0.cell 1 rfl; have c2 := x0.cell 2 rfl; have c3 := x0.cell 3 rfl; have c4 := x0.cell 4 rfl
  clear hX hgX
  cases h1 : farB X
  · rw [h1] at hfa
    cases h2 : vB X
    · rw [cod_f h2] at hck
      clear h1 h2
      go_enter Try.func44, Try.ntmps44
      go_wp2_with fail
      refine hfa.mono ?_
      rintro e V1 ⟨rfl, hb1⟩
      replace hb := hb.trans (hb1.mono hb.size)
      replace x0 := x0.below hb1
      clear c0 c1 c2 c3 c4
      have c0 := x0.cell 0 rfl; have c1 := x0.cell 1 rfl; have c2 := x0.cell 2 rfl; have c3 := x0.cell 3 rfl; have c4 := x0.cell 4 rfl
      go_wp2_with fail
      refine (hck _ hb).mono ?_
      rintro e V2 ⟨rfl, hb2⟩
      replace hb := hb.trans (hb2.mono hb.size)
      clear c0 c1 c2 c3 c4
      go_wp2
      go_ret
      exact ⟨rfl, hb⟩
    · rw [cod_t h2] at hck
      clear h1 h2
      go_enter Try.func44, Try.ntmps44
      go_wp2_with fail
      refine hfa.mono ?_
      rintro e V1 ⟨rfl, hb1⟩
      replace hb := hb.trans (hb1.mono hb.size)
      replace x0 := x0.below hb1
      clear c0 c1 c2 c3 c4
      have c0 := x0.cell 0 rfl; have c1 := x0.cell 1 rfl; have c2 := x0.cell 2 rfl; have c3 := x0.cell 3 rfl; have c4 := x0.cell 4 rfl
      go_wp2_with fail
      refine (hck _ hb).mono ?_
      rintro e V2 ⟨rfl, hb2⟩
      replace hb := hb.trans (hb2.mono hb.size)
      clear c0 c1 c2 c3 c4
      go_wp2
      go_ret
      exact ⟨rfl, hb⟩
  · rw [h1] at hfa
    clear h1 hck
    go_enter Try.func44, Try.ntmps44
    go_wp2_with fail
    refine hfa.mono ?_
    rintro e V1 ⟨rfl, hb1⟩
    replace hb := hb.trans (hb1.mono hb.size)
    clear c0 c1 c2 c3 c4
    go_wp2
    go_ret
    exact ⟨rfl, hb⟩
end Go.Proofs.Ytipdohpbilabiaa
