import Derived.Test.YtakodllejndfeaaM6
/-! RoyaltiesTwo. -/
namespace Go.Proofs.Ytakodllejndfeaa
set_option linter.unusedSimpArgs false
set_option linter.unusedVariables false
open Go Go.RowKit

set_option maxRecDepth 100000 in
set_option maxHeartbeats 8000000 in
theorem royaltiesTwo_any (p : Int) (aS aO : Option Addr) (cS cO : Nat) (S : List Sd) (O : List Int) (one other : Int) (w : World) (hX : RyIn w aS aO p S O) : Calls Try.prog 5 #[.agg #[.int .i64 p, .slice aS S.length cS, .slice aO O.length cO], .int .i64 one, .int .i64 other] w fun e w' => e = .returned (.bool true) ∧ Below w.heap.size w w' := by
  obtain ⟨W, hW, hb, _, x0⟩ := boxes1 w #[.int .i64 p, .slice aS S.length cS, .slice aO O.length cO] 25
  have hXS := fun (V : World) (h : Below w.heap.size w V) => hX.below h (Nat.le_refl _)
  have hwk := fun V => works_any V
  have hrd := fun V h => ready_any p aS aO cS cO S O V h
  have hiw := fun x V (hl : O.length ≤ 9223372036854775807) => IsWriter_any p aS aO cS cO S O x V hl
  clear hX
  cases hr : rdB p S O
  · rw [hr] at hrd
    clear hr hiw
    have c0 := x0.cell 0 rfl; have c1 := x0.cell 1 rfl; have c2 := x0.cell 2 rfl
    go_enter Try.func5, Try.ntmps5
    go_wp2_with fail
    refine (hrd _ (hXS _ hb)).mono ?_
    rintro e Vc1 ⟨rfl, hb1⟩
    clear c0 c1 c2
    replace x0 := x0.below hb1
    replace hb := hb.trans (hb1.mono hb.size)
    clear hb1 hW hrd
    have c0 := x0.cell 0 rfl; have c1 := x0.cell 1 rfl; have c2 := x0.cell 2 rfl
    go_wp2_with fail
    refine (hwk _).mono ?_
    rintro e Vw ⟨rfl, hbw9⟩
    clear c0 c1 c2
    replace hb := hb.trans (hbw9.mono hb.size)
    go_wp2
    go_ret
    exact ⟨rfl, hb⟩
  rw [hr] at hrd
  obtain ⟨hf, hv⟩ := rdB_ok hr
  have hV := vB_ok hv
  have hn6 := hV.n6
  have hl9 : O.length ≤ 9223372036854775807 := by omega
  by_cases heq : one = other
  · skip
    have hB0 : (one == other) = true := by simp [heq]
    clear hr hiw hf hv hV
    have c0 := x0.cell 0 rfl; have c1 := x0.cell 1 rfl; have c2 := x0.cell 2 rfl
    go_enter Try.func5, Try.ntmps5
    go_wp2_with fail
    refine (hrd _ (hXS _ hb)).mono ?_
    rintro e Vc3 ⟨rfl, hb1⟩
    clear c0 c1 c2
    replace x0 := x0.below hb1
    replace hb := hb.trans (hb1.mono hb.size)
    clear hb1 hW hrd
    have c0 := x0.cell 0 rfl; have c1 := x0.cell 1 rfl; have c2 := x0.cell 2 rfl
    go_wp2_with fail
    refine (hwk _).mono ?_
    rintro e Vw ⟨rfl, hbw9⟩
    clear c0 c1 c2
    replace hb := hb.trans (hbw9.mono hb.size)
    go_wp2
    go_ret
    exact ⟨rfl, hb⟩
  have hB0 : (one == other) = false := by rw [beq_eq_false_iff_ne]; exact heq
  cases ho : hasB O one
  · skip
    have h1 := fun V => hiw one V hl9
    rw [ho] at h1
    clear hr hiw hf hv hV ho
    have c0 := x0.cell 0 rfl; have c1 := x0.cell 1 rfl; have c2 := x0.cell 2 rfl
    go_enter Try.func5, Try.ntmps5
    go_wp2_with fail
    refine (hrd _ (hXS _ hb)).mono ?_
    rintro e Vc5 ⟨rfl, hb1⟩
    clear c0 c1 c2
    replace x0 := x0.below hb1
    replace hb := hb.trans (hb1.mono hb.size)
    clear hb1 hW hrd
    have c0 := x0.cell 0 rfl; have c1 := x0.cell 1 rfl; have c2 := x0.cell 2 rfl
    go_wp2_with fail
    refine (h1 _).mono ?_
    rintro e Vc6 ⟨rfl, hb1⟩
    clear c0 c1 c2
    replace x0 := x0.below hb1
    replace hb := hb.trans (hb1.mono hb.size)
    clear hb1 h1
    have c0 := x0.cell 0 rfl; have c1 := x0.cell 1 rfl; have c2 := x0.cell 2 rfl
    go_wp2_with fail
    refine (hwk _).mono ?_
    rintro e Vw ⟨rfl, hbw9⟩
    clear c0 c1 c2
    replace hb := hb.trans (hbw9.mono hb.size)
    go_wp2
    go_ret
    exact ⟨rfl, hb⟩
  cases hh : hasB O other
  · skip
    have h1 := fun V => hiw one V hl9
    have h2 := fun V => hiw other V hl9
    rw [ho] at h1
    rw [hh] at h2
    clear hr hiw hf hv hV ho hh
    have c0 := x0.cell 0 rfl; have c1 := x0.cell 1 rfl; have c2 := x0.cell 2 rfl
    go_enter Try.func5, Try.ntmps5
    go_wp2_with fail
    refine (hrd _ (hXS _ hb)).mono ?_
    rintro e Vc8 ⟨rfl, hb1⟩
    clear c0 c1 c2
    replace x0 := x0.below hb1
    replace hb := hb.trans (hb1.mono hb.size)
    clear hb1 hW hrd
    have c0 := x0.cell 0 rfl; have c1 := x0.cell 1 rfl; have c2 := x0.cell 2 rfl
    go_wp2_with fail
    refine (h1 _).mono ?_
    rintro e Vc9 ⟨rfl, hb1⟩
    clear c0 c1 c2
    replace x0 := x0.below hb1
    replace hb := hb.trans (hb1.mono hb.size)
    clear hb1 h1
    have c0 := x0.cell 0 rfl; have c1 := x0.cell 1 rfl; have c2 := x0.cell 2 rfl
    go_wp2_with fail
    refine (h2 _).mono ?_
    rintro e Vc10 ⟨rfl, hb1⟩
    clear c0 c1 c2
    replace x0 := x0.below hb1
    replace hb := hb.trans (hb1.mono hb.size)
    clear hb1 h2
    have c0 := x0.cell 0 rfl; have c1 := x0.cell 1 rfl; have c2 := x0.cell 2 rfl
    go_wp2_with fail
    refine (hwk _).mono ?_
    rintro e Vw ⟨rfl, hbw9⟩
    clear c0 c1 c2
    replace hb := hb.trans (hbw9.mono hb.size)
    go_wp2
    go_ret
    exact ⟨rfl, hb⟩
  have h1 := fun V => hiw one V hl9
  have h2 := fun V => hiw other V hl9
  rw [ho] at h1
  rw [hh] at h2
  have ho' := ho
  have hh' := hh
  unfold hasB at ho' hh'
  rw [inI_iff] at ho' hh'
  obtain ⟨u, rfl⟩ := Int.eq_ofNat_of_zero_le ho'.1
  obtain ⟨v, rfl⟩ := Int.eq_ofNat_of_zero_le hh'.1
  have hu : u < O.length := by omega
  have hvn : v < O.length := by omega
  have huv : u ≠ v := fun e => heq (by rw [e])
  have hRS := fun (V : World) (h : Below w.heap.size w V) => (hXS V h).ry hf
  obtain ⟨hvT, hET, heT⟩ := two_vb hv hu hvn huv
  have hjo := fun V h => joined_any p aS aO cS cO S O u v V h hV hu hvn huv
  unfold JoP at hjo
  rw [joS_len] at hjo
  have hpy := fun V h => Plays_any p aS aO cS cO S O V h hV
  have hpl := fun V h => plain_any p aS aO cS cO S O (errO S) V h hV
  rw [decide_eq_true rfl] at hpl
  have hex := fun a b c d (i : Nat) (hi : i < O.length) V h => Exact_any p a b c d (joS O.length u v S) O (i : Int) V h
  have hsh := fun a b c d V h => Shares_any p a b c d (joS O.length u v S) O V h
  have hsa := fun a c (l : List Int) V hl (ho : O.length ≤ 1000) => sane_any p aS aO cS cO S O a c l 9999 V hl ho
  rw [hET, joS_len] at hsh
  have hHL := fun (i : Nat) (hi : i < O.length) => has_lt (O := O) hi
  have hex2 : ∀ a b c d (i : Nat), i < O.length → ∀ V, Ry V a b p (joS O.length u v S) O → Calls Try.prog 22 #[.agg #[.int .i64 p, .slice a S.length c, .slice b O.length d], .int .i64 (i : Int)] V fun e w' => e = .returned (.tuple #[.int .i64 (exU p (joS O.length u v S) O i), .int .i64 (exL p (joS O.length u v S) O i), .int .i64 (errO S)]) ∧ Below V.heap.size V w' := fun a b c d i hi V h => by
    have := hex a b c d i hi V h
    rw [hHL i hi, hET, joS_len] at this
    exact this
  have hES : askE p S O true = errO S := askE_v1 hv
  have hxr : ∀ (i : Nat), i < O.length → ∀ V, Ry V aS aO p S O → Calls Try.prog 22 #[.agg #[.int .i64 p, .slice aS S.length cS, .slice aO O.length cO], .int .i64 (i : Int)] V fun e w' => e = .returned (.tuple #[.int .i64 (exU p S O i), .int .i64 (exL p S O i), .int .i64 (errO S)]) ∧ Below V.heap.size V w' := fun i hi V h => by
    have := Exact_any p aS aO cS cO S O (i : Int) V h
    rw [hHL i hi, hES] at this
    exact this
  have hlaw := fun ha => two_law hv hu hvn huv ha
  have hss := shR_rng p (joS O.length u v S) O
  have hlb : shR p (joS O.length u v S) O = [] ∨ alS S ≠ 0 := by
    by_cases ha : alS S = 0
    · left; exact shR_bad (by rw [hET]; unfold errO; rw [if_pos ha]; decide)
    · exact .inr ha
  have hal := alS_rng hV.sd
  have hm6 := hV.m6
  have hal9 : 0 ≤ alS S ∧ alS S ≤ 59994 := by omega
  clear hr hf hv hV hvT hET heT hex hHL hES ho hh ho' hh' hiw hal heq
  generalize joS O.length (u : Int) v S = T at *
  generalize hL : shR p T O = L at *
  obtain ⟨n, hn⟩ : ∃ n, n = O.length := ⟨_, rfl⟩
  have hO9 : O.length ≤ 1000 := by omega
  have HN := hid hn
  obtain ⟨q, hq⟩ : ∃ q, q = L.length := ⟨_, rfl⟩
  have HQ := hid hq
  have hsa2 := fun a c V hl => hsa a c L V hl hO9
  have hsu := sum_rng hss
  rw [← hn] at h1 h2 hn6 hu hvn hjo hpy hpl hsh hsa2 hex2 hxr hlaw x0 hW hrd hO9 ⊢
  rw [← hq] at hsh hsa2 hsu
  have HSS := hid hss
  clear hn hq hsa hss hl9
  have c0 := x0.cell 0 rfl; have c1 := x0.cell 1 rfl; have c2 := x0.cell 2 rfl
  go_enter Try.func5, Try.ntmps5
  go_wp2_with fail
  refine (hrd _ (hXS _ hb)).mono ?_
  rintro e Vc12 ⟨rfl, hb1⟩
  clear c0 c1 c2
  replace x0 := x0.below hb1
  replace hb := hb.trans (hb1.mono hb.size)
  clear hb1 hW hrd
  have c0 := x0.cell 0 rfl; have c1 := x0.cell 1 rfl; have c2 := x0.cell 2 rfl
  go_wp2_with fail
  refine (h1 _).mono ?_
  rintro e Vc13 ⟨rfl, hb1⟩
  clear c0 c1 c2
  replace x0 := x0.below hb1
  replace hb := hb.trans (hb1.mono hb.size)
  clear hb1 h1
  have c0 := x0.cell 0 rfl; have c1 := x0.cell 1 rfl; have c2 := x0.cell 2 rfl
  go_wp2_with fail
  refine (h2 _).mono ?_
  rintro e Vc14 ⟨rfl, hb1⟩
  clear c0 c1 c2
  replace x0 := x0.below hb1
  replace hb := hb.trans (hb1.mono hb.size)
  clear hb1 h2
  have c0 := x0.cell 0 rfl; have c1 := x0.cell 1 rfl; have c2 := x0.cell 2 rfl
  have hR := hRS _ hb
  clear hXS hRS
  go_wp2_with fail
  refine (hjo _ hR).mono ?_
  rintro e V ⟨hb1, a, b, k1, k2, rfl, hRo⟩
  clear c0 c1 c2 hjo
  replace x0 := x0.below hb1
  replace hR := hR.below hb1 (Nat.le_refl _)
  replace hb := hb.trans (hb1.mono hb.size)
  clear hb1
  have hba := below_one (w := V) (.cells #[.int .i64 p, .slice a S.length k1, .slice b n k2] 25)
  have HXa := hid (And.intro (x0.below hba) (And.intro (hR.below hba (Nat.le_refl _)) (And.intro (hRo.below hba (Nat.le_refl _)) (And.intro (hb.trans (hba.mono hb.size)) (Bx.new V #[.int .i64 p, .slice a S.length k1, .slice b n k2] 25)))))
  clear hba hb x0 hR hRo
  go_upto_region 4 with fail
  obtain ⟨x0, hR, hRo, hb, x7⟩ := HXa.out
  clear HXa
  generalize V.heap.size = sa_x7 at *
  generalize World.alloc _ _ = Va_x7 at *
  have c0 := x0.cell 0 rfl; have c1 := x0.cell 1 rfl; have c2 := x0.cell 2 rfl
  have d0 := x7.cell 0 rfl; have d1 := x7.cell 1 rfl; have d2 := x7.cell 2 rfl
  go_wp2_with fail
  refine (hpy _ hR).mono ?_
  rintro e Vc16 ⟨rfl, hb1⟩
  clear c0 c1 c2
  clear d0 d1 d2
  replace x0 := x0.below hb1
  replace x7 := x7.below hb1
  replace hR := hR.below hb1 (Nat.le_refl _)
  replace hRo := hRo.below hb1 (Nat.le_refl _)
  replace hb := hb.trans (hb1.mono hb.size)
  clear hb1 hpy
  have c0 := x0.cell 0 rfl; have c1 := x0.cell 1 rfl; have c2 := x0.cell 2 rfl
  have d0 := x7.cell 0 rfl; have d1 := x7.cell 1 rfl; have d2 := x7.cell 2 rfl
  generalize Vc16 = VB at *
  have hbO := hid hb
  clear hb
  by_cases ha : alS S = 0
  · skip
    have hEE : errO S = 3 := by unfold errO; rw [if_pos ha]
    have hLE : L = [] := hlb.resolve_right (fun h => h ha)
    have HLEN := hid (show L.length ≤ 1000 by rw [hLE]; simp)
    clear hlaw hLE hlb hsa2
    have hwd : IntKind.i64.wrap (100 * alS S) = 100 * alS S := IntWalk.i64_in _ (by omega)
    go_wp2
    clear c0 c1 c2 d0 d1 d2
    go_loopw [9, 10, 11, 12, 13, 14, 15, 16, 17, 18, 19] (fun v9 v10 v11 v12 v13 v14 v15 v16 v17 v18 v19 wr => ∃ k : Nat, k ≤ n ∧ v9 = .int .i64 (k : Int) ∧ Below VB.heap.size VB wr) (fun v9 _ _ _ _ _ _ _ _ _ _ _ => n - (intOf v9).toNat)
    case atStart => exact ⟨0, Nat.zero_le _, rfl, Below.refl _ _⟩
    case round =>
      obtain ⟨k, hk, rfl, hb⟩ := hrel
      have y0 := x0.below hb
      have y7 := x7.below hb
      have hRk := hR.below hb (Nat.le_refl _)
      have hRok := hRo.below hb (Nat.le_refl _)
      by_cases hlt : k < n
      · have hkI : (k : Int) < (n : Int) := by omega
        have hxa := hex2 a b k1 k2 k hlt
        have hpk := hpl
        rw [hEE] at hxa hpk
        generalize exU p T O (k : Int) = UT at *
        generalize exL p T O (k : Int) = DT at *
        have c0 := y0.cell 0 rfl; have c1 := y0.cell 1 rfl; have c2 := y0.cell 2 rfl
        have d0 := y7.cell 0 rfl; have d1 := y7.cell 1 rfl; have d2 := y7.cell 2 rfl
        go_wp2_with fail
        refine (hxa _ hRok).mono ?_
        rintro e Vc17 ⟨rfl, hb1⟩
        clear c0 c1 c2
        clear d0 d1 d2
        replace y0 := y0.below hb1
        replace y7 := y7.below hb1
        replace hRk := hRk.below hb1 (Nat.le_refl _)
        replace hRok := hRok.below hb1 (Nat.le_refl _)
        replace hb := hb.trans (hb1.mono hb.size)
        clear hb1 hxa
        have c0 := y0.cell 0 rfl; have c1 := y0.cell 1 rfl; have c2 := y0.cell 2 rfl
        have d0 := y7.cell 0 rfl; have d1 := y7.cell 1 rfl; have d2 := y7.cell 2 rfl
        go_wp2_with fail
        refine (hpk _ hRk).mono ?_
        rintro e Vc18 ⟨rfl, hb1⟩
        clear d0 d1 d2
        clear c0 c1 c2
        replace y0 := y0.below hb1
        replace y7 := y7.below hb1
        replace hRk := hRk.below hb1 (Nat.le_refl _)
        replace hRok := hRok.below hb1 (Nat.le_refl _)
        replace hb := hb.trans (hb1.mono hb.size)
        clear hb1 hpk
        have c0 := y0.cell 0 rfl; have c1 := y0.cell 1 rfl; have c2 := y0.cell 2 rfl
        have d0 := y7.cell 0 rfl; have d1 := y7.cell 1 rfl; have d2 := y7.cell 2 rfl
        go_wp2
        go_roundw
        case rel => exact ⟨k + 1, by omega, by simp, hb⟩
        case measure => simp [intOf]; omega
      · obtain rfl : k = n := by omega
        have hkI : ¬ (k : Int) < (k : Int) := by omega
        have hbB := hbO.out.trans (hb.mono hbO.out.size)
        replace hb := hbB
        clear hbB hex2 hxr
        have c0 := y0.cell 0 rfl; have c1 := y0.cell 1 rfl; have c2 := y0.cell 2 rfl
        have d0 := y7.cell 0 rfl; have d1 := y7.cell 1 rfl; have d2 := y7.cell 2 rfl
        have hpk := hpl
        rw [hEE] at hpk hsh
        go_wp2_with fail
        refine (hsh _ _ _ _ _ hRok).mono ?_
        rintro e Vc19 ⟨aL, cL, rfl, hI, hb1⟩
        clear c0 c1 c2
        clear d0 d1 d2
        replace y0 := y0.below hb1
        replace y7 := y7.below hb1
        replace hRk := hRk.below hb1 (Nat.le_refl _)
        replace hRok := hRok.below hb1 (Nat.le_refl _)
        replace hb := hb.trans (hb1.mono hb.size)
        clear hb1 hsh
        have c0 := y0.cell 0 rfl; have c1 := y0.cell 1 rfl; have c2 := y0.cell 2 rfl
        have d0 := y7.cell 0 rfl; have d1 := y7.cell 1 rfl; have d2 := y7.cell 2 rfl
        go_wp2_with fail
        refine (hpk _ hRk).mono ?_
        rintro e Vc20 ⟨rfl, hb1⟩
        clear d0 d1 d2
        clear c0 c1 c2
        replace y0 := y0.below hb1
        replace y7 := y7.below hb1
        replace hRk := hRk.below hb1 (Nat.le_refl _)
        replace hRok := hRok.below hb1 (Nat.le_refl _)
        replace hI := hI.below hb1 (Nat.le_refl _)
        replace hb := hb.trans (hb1.mono hb.size)
        clear hb1 hpk
        have c0 := y0.cell 0 rfl; have c1 := y0.cell 1 rfl; have c2 := y0.cell 2 rfl
        have d0 := y7.cell 0 rfl; have d1 := y7.cell 1 rfl; have d2 := y7.cell 2 rfl
        generalize Vc20 = VZ at *
        have hbZ := hid hb
        clear hb
        go_wp2
        clear c0 c1 c2 d0 d1 d2
        go_loopw [22, 23] (fun v22 v23 wr => ∃ i : Nat, i ≤ q ∧ v23 = .int .i64 (i : Int) ∧ v22 = .int .i64 (L.take i).sum ∧ wr = VZ) (fun _ v23 _ => q - (intOf v23).toNat)
        case atStart => exact ⟨0, Nat.zero_le _, rfl, rfl, rfl⟩
        case round =>
          obtain ⟨i, hi, rfl, rfl, rfl⟩ := hrel
          by_cases hil : i < q
          · obtain ⟨bL, oL, x, rfl, _, hc1, _, _, hg1, _⟩ := hI.at (k := i) (by rw [← HQ.out]; exact hil)
            have hiI : (i : Int) < (q : Int) := by omega
            have hi0 : (0 : Int) ≤ (i : Int) := by omega
            have hq9 : q ≤ 1000 := by have h5 := HQ.out; have h6 := HLEN.out; omega
            have hsm := sum_take hg1.out
            have h3 := sum_rng (L := L.take (i + 1)) (fun y hy => HSS.out y (List.mem_of_mem_take hy))
            have h4 : (L.take (i + 1)).length ≤ 1000 := by
              have h5 := HQ.out
              have h6 := HLEN.out
              rw [List.length_take]; omega
            rw [hsm] at h3
            have hws : IntKind.i64.wrap ((L.take i).sum + x) = (L.take i).sum + x := IntWalk.i64_in _ (by omega)
            have HSM := hid hsm
            generalize (L.take i).sum = sm at *
            clear hsm h3 h4 hg1
            go_wp2
            go_roundw
            case rel => exact ⟨i + 1, by omega, by go_num, by rw [HSM.out], (by first | trivial | rfl)⟩
            case measure => simp [intOf]; omega
          · obtain rfl : i = q := by omega
            have hiI : ¬ (i : Int) < (i : Int) := by omega
            have hb := hbZ.out
            generalize (L.take i).sum = sm at *
            have c0 := y0.cell 0 rfl; have c1 := y0.cell 1 rfl; have c2 := y0.cell 2 rfl
            go_wp2_with fail
            refine (hwk _).mono ?_
            rintro e Vw ⟨rfl, hbw9⟩
            clear c0 c1 c2
            replace hb := hb.trans (hbw9.mono hb.size)
            go_wp2
            go_ret
            exact ⟨rfl, hb⟩
  · skip
    have hEE : errO S = 0 := by unfold errO; rw [if_neg ha]
    have hF := hlaw ha
    have HLEN := hid (show L.length ≤ 1000 by
      have h5 := hF.len
      rw [hL] at h5
      omega)
    have hF' := hF.san
    have hFs := hF.sum
    rw [hL] at hF' hFs
    have hwd0 : IntKind.i64.wrap (100 * alS S) = 100 * alS S := IntWalk.i64_in _ (by omega)
    clear hlaw hlb
    have hwd : IntKind.i64.wrap (100 * alS S) = 100 * alS S := IntWalk.i64_in _ (by omega)
    go_wp2
    clear c0 c1 c2 d0 d1 d2
    go_loopw [9, 10, 11, 12, 13, 14, 15, 16, 17, 18, 19] (fun v9 v10 v11 v12 v13 v14 v15 v16 v17 v18 v19 wr => ∃ k : Nat, k ≤ n ∧ v9 = .int .i64 (k : Int) ∧ Below VB.heap.size VB wr) (fun v9 _ _ _ _ _ _ _ _ _ _ _ => n - (intOf v9).toNat)
    case atStart => exact ⟨0, Nat.zero_le _, rfl, Below.refl _ _⟩
    case round =>
      obtain ⟨k, hk, rfl, hb⟩ := hrel
      have y0 := x0.below hb
      have y7 := x7.below hb
      have hRk := hR.below hb (Nat.le_refl _)
      have hRok := hRo.below hb (Nat.le_refl _)
      by_cases hlt : k < n
      · have hkI : (k : Int) < (n : Int) := by omega
        have hxa := hex2 a b k1 k2 k hlt
        have hpk := hpl
        rw [hEE] at hxa hpk
        have hxb := hxr k hlt
        have hxc := hxr v hvn
        rw [hEE] at hxb hxc
        have ft := hF.ft k hlt
        have fs := hF.fs k hlt
        have fo := hF.fs v hvn
        have eu := hF.eu; have ev := hF.ev; have eo := hF.eo k hlt
        have hci : (k = u ∧ (k : Int) ≠ v) ∨ (k = v ∧ (k : Int) ≠ u) ∨ ((k : Int) ≠ u ∧ (k : Int) ≠ v) := by omega
        have hval : (k = u → p * clS T (k : Int) = p * clS S (k : Int) + p * clS S (v : Int)) ∧ (k = v → p * clS T (k : Int) = 0) ∧ ((k : Int) ≠ u ∧ (k : Int) ≠ v → p * clS T (k : Int) = p * clS S (k : Int)) := ⟨fun e => by rw [e]; exact eu, fun e => by rw [e]; exact ev, fun e => eo (by omega) (by omega)⟩
        clear eu ev eo
        generalize exU p T O (k : Int) = UT at *
        generalize exL p T O (k : Int) = DT at *
        generalize exU p S O (k : Int) = US at *
        generalize exL p S O (k : Int) = DS at *
        generalize exU p S O (v : Int) = UO at *
        generalize exL p S O (v : Int) = DO at *
        generalize p * clS T (k : Int) = xT at *
        generalize p * clS S (k : Int) = xS at *
        generalize p * clS S (v : Int) = xO at *
        have hi1 := fun V => isFraction_ok UT DT ft.u0 ft.d0 ft.u9 ft.d9 V
        have hi2 := fun V => isFraction_ok US DS fs.u0 fs.d0 fs.u9 fs.d9 V
        have hi3 := fun V => isFraction_ok UO DO fo.u0 fo.d0 fo.u9 fo.d9 V
        obtain ⟨den, hden⟩ : ∃ den, den = 100 * alS S := ⟨_, rfl⟩
        rw [← hden] at ft fs fo hwd0 ⊢
        have t1 := ft.rem; have t2 := fs.rem; have t3 := fo.rem
        have n1 : ¬ DT = 0 := by have := ft.d0; omega
        have n2 : ¬ DS = 0 := by have := fs.d0; omega
        have n3 : ¬ DO = 0 := by have := fo.d0; omega
        have m1 := ft.mul; have m2 := fs.mul; have m3 := fo.mul
        have o1 := ft.q0; have o2 := fs.q0; have o3 := fo.q0
        have p1 := ft.q9; have p2 := fs.q9; have p3 := fo.q9
        have r1 := ft.x9; have r2 := fs.x9; have r3 := fo.x9
        generalize hq1 : den.tdiv DT = qT at *
        generalize hq2 : den.tdiv DS = qS at *
        generalize hq3 : den.tdiv DO = qO at *
        have w1 : IntKind.i64.wrap qT = qT := IntWalk.i64_in _ (by omega)
        have w2 : IntKind.i64.wrap qS = qS := IntWalk.i64_in _ (by omega)
        have w3 : IntKind.i64.wrap qO = qO := IntWalk.i64_in _ (by omega)
        have z1 : IntKind.i64.wrap (UT * qT) = xT := by rw [m1]; exact IntWalk.i64_in _ (by omega)
        have z2 : IntKind.i64.wrap (US * qS) = xS := by rw [m2]; exact IntWalk.i64_in _ (by omega)
        have z3 : IntKind.i64.wrap (UO * qO) = xO := by rw [m3]; exact IntWalk.i64_in _ (by omega)
        have z4 : IntKind.i64.wrap (xS + xO) = xS + xO := IntWalk.i64_in _ (by omega)
        clear ft fs fo m1 m2 m3 hden
        rcases hci with ⟨hc, hc2⟩ | ⟨hc, hc2⟩ | ⟨hc, hc2⟩
        · skip
          have hx := hval.1 hc
          have hb1' : ((k : Int) == (u : Int)) = true := by simp [hc]
          have hb2' : ((k : Int) == (v : Int)) = false := by rw [beq_eq_false_iff_ne]; exact hc2
          have hb3' : (xT != xS + xO) = false := by simp [hx]
          clear hx hval hc hc2
          have c0 := y0.cell 0 rfl; have c1 := y0.cell 1 rfl; have c2 := y0.cell 2 rfl
          have d0 := y7.cell 0 rfl; have d1 := y7.cell 1 rfl; have d2 := y7.cell 2 rfl
          go_wp2_with fail
          refine (hxa _ hRok).mono ?_
          rintro e Vc22 ⟨rfl, hb1⟩
          clear c0 c1 c2
          clear d0 d1 d2
          replace y0 := y0.below hb1
          replace y7 := y7.below hb1
          replace hRk := hRk.below hb1 (Nat.le_refl _)
          replace hRok := hRok.below hb1 (Nat.le_refl _)
          replace hb := hb.trans (hb1.mono hb.size)
          clear hb1 hxa
          have c0 := y0.cell 0 rfl; have c1 := y0.cell 1 rfl; have c2 := y0.cell 2 rfl
          have d0 := y7.cell 0 rfl; have d1 := y7.cell 1 rfl; have d2 := y7.cell 2 rfl
          go_wp2_with fail
          refine (hpk _ hRk).mono ?_
          rintro e Vc23 ⟨rfl, hb1⟩
          clear d0 d1 d2
          clear c0 c1 c2
          replace y0 := y0.below hb1
          replace y7 := y7.below hb1
          replace hRk := hRk.below hb1 (Nat.le_refl _)
          replace hRok := hRok.below hb1 (Nat.le_refl _)
          replace hb := hb.trans (hb1.mono hb.size)
          clear hb1 hpk
          have c0 := y0.cell 0 rfl; have c1 := y0.cell 1 rfl; have c2 := y0.cell 2 rfl
          have d0 := y7.cell 0 rfl; have d1 := y7.cell 1 rfl; have d2 := y7.cell 2 rfl
          go_wp2_with fail
          refine (hxb _ hRk).mono ?_
          rintro e Vc24 ⟨rfl, hb1⟩
          clear d0 d1 d2
          clear c0 c1 c2
          replace y0 := y0.below hb1
          replace y7 := y7.below hb1
          replace hRk := hRk.below hb1 (Nat.le_refl _)
          replace hRok := hRok.below hb1 (Nat.le_refl _)
          replace hb := hb.trans (hb1.mono hb.size)
          clear hb1 hxb
          have c0 := y0.cell 0 rfl; have c1 := y0.cell 1 rfl; have c2 := y0.cell 2 rfl
          have d0 := y7.cell 0 rfl; have d1 := y7.cell 1 rfl; have d2 := y7.cell 2 rfl
          go_wp2_with fail
          refine (hxc _ hRk).mono ?_
          rintro e Vc25 ⟨rfl, hb1⟩
          clear d0 d1 d2
          clear c0 c1 c2
          replace y0 := y0.below hb1
          replace y7 := y7.below hb1
          replace hRk := hRk.below hb1 (Nat.le_refl _)
          replace hRok := hRok.below hb1 (Nat.le_refl _)
          replace hb := hb.trans (hb1.mono hb.size)
          clear hb1 hxc
          have c0 := y0.cell 0 rfl; have c1 := y0.cell 1 rfl; have c2 := y0.cell 2 rfl
          have d0 := y7.cell 0 rfl; have d1 := y7.cell 1 rfl; have d2 := y7.cell 2 rfl
          go_wp2_with fail
          refine (hi1 _).mono ?_
          rintro e Vc26 ⟨rfl, rfl⟩
          clear hi1
          go_wp2_with fail
          refine (hi2 _).mono ?_
          rintro e Vc27 ⟨rfl, rfl⟩
          clear hi2
          go_wp2_with fail
          refine (hi3 _).mono ?_
          rintro e Vc28 ⟨rfl, rfl⟩
          clear hi3
          go_wp2
          go_roundw
          case rel => exact ⟨k + 1, by omega, by simp, hb⟩
          case measure => simp [intOf]; omega
        · skip
          have hx := hval.2.1 hc
          have hb1' : ((k : Int) == (u : Int)) = false := by rw [beq_eq_false_iff_ne]; exact hc2
          have hb2' : ((k : Int) == (v : Int)) = true := by simp [hc]
          have hb3' : (xT != 0) = false := by simp [hx]
          clear hx hval hc hc2
          have c0 := y0.cell 0 rfl; have c1 := y0.cell 1 rfl; have c2 := y0.cell 2 rfl
          have d0 := y7.cell 0 rfl; have d1 := y7.cell 1 rfl; have d2 := y7.cell 2 rfl
          go_wp2_with fail
          refine (hxa _ hRok).mono ?_
          rintro e Vc29 ⟨rfl, hb1⟩
          clear c0 c1 c2
          clear d0 d1 d2
          replace y0 := y0.below hb1
          replace y7 := y7.below hb1
          replace hRk := hRk.below hb1 (Nat.le_refl _)
          replace hRok := hRok.below hb1 (Nat.le_refl _)
          replace hb := hb.trans (hb1.mono hb.size)
          clear hb1 hxa
          have c0 := y0.cell 0 rfl; have c1 := y0.cell 1 rfl; have c2 := y0.cell 2 rfl
          have d0 := y7.cell 0 rfl; have d1 := y7.cell 1 rfl; have d2 := y7.cell 2 rfl
          go_wp2_with fail
          refine (hpk _ hRk).mono ?_
          rintro e Vc30 ⟨rfl, hb1⟩
          clear d0 d1 d2
          clear c0 c1 c2
          replace y0 := y0.below hb1
          replace y7 := y7.below hb1
          replace hRk := hRk.below hb1 (Nat.le_refl _)
          replace hRok := hRok.below hb1 (Nat.le_refl _)
          replace hb := hb.trans (hb1.mono hb.size)
          clear hb1 hpk
          have c0 := y0.cell 0 rfl; have c1 := y0.cell 1 rfl; have c2 := y0.cell 2 rfl
          have d0 := y7.cell 0 rfl; have d1 := y7.cell 1 rfl; have d2 := y7.cell 2 rfl
          go_wp2_with fail
          refine (hxb _ hRk).mono ?_
          rintro e Vc31 ⟨rfl, hb1⟩
          clear d0 d1 d2
          clear c0 c1 c2
          replace y0 := y0.below hb1
          replace y7 := y7.below hb1
          replace hRk := hRk.below hb1 (Nat.le_refl _)
          replace hRok := hRok.below hb1 (Nat.le_refl _)
          replace hb := hb.trans (hb1.mono hb.size)
          clear hb1 hxb
          have c0 := y0.cell 0 rfl; have c1 := y0.cell 1 rfl; have c2 := y0.cell 2 rfl
          have d0 := y7.cell 0 rfl; have d1 := y7.cell 1 rfl; have d2 := y7.cell 2 rfl
          go_wp2_with fail
          refine (hxc _ hRk).mono ?_
          rintro e Vc32 ⟨rfl, hb1⟩
          clear d0 d1 d2
          clear c0 c1 c2
          replace y0 := y0.below hb1
          replace y7 := y7.below hb1
          replace hRk := hRk.below hb1 (Nat.le_refl _)
          replace hRok := hRok.below hb1 (Nat.le_refl _)
          replace hb := hb.trans (hb1.mono hb.size)
          clear hb1 hxc
          have c0 := y0.cell 0 rfl; have c1 := y0.cell 1 rfl; have c2 := y0.cell 2 rfl
          have d0 := y7.cell 0 rfl; have d1 := y7.cell 1 rfl; have d2 := y7.cell 2 rfl
          go_wp2_with fail
          refine (hi1 _).mono ?_
          rintro e Vc33 ⟨rfl, rfl⟩
          clear hi1
          go_wp2_with fail
          refine (hi2 _).mono ?_
          rintro e Vc34 ⟨rfl, rfl⟩
          clear hi2
          go_wp2_with fail
          refine (hi3 _).mono ?_
          rintro e Vc35 ⟨rfl, rfl⟩
          clear hi3
          go_wp2
          go_roundw
          case rel => exact ⟨k + 1, by omega, by simp, hb⟩
          case measure => simp [intOf]; omega
        · skip
          have hx := hval.2.2 ⟨hc, hc2⟩
          have hb1' : ((k : Int) == (u : Int)) = false := by rw [beq_eq_false_iff_ne]; exact hc
          have hb2' : ((k : Int) == (v : Int)) = false := by rw [beq_eq_false_iff_ne]; exact hc2
          have hb3' : (xT != xS) = false := by simp [hx]
          clear hx hval hc hc2
          have c0 := y0.cell 0 rfl; have c1 := y0.cell 1 rfl; have c2 := y0.cell 2 rfl
          have d0 := y7.cell 0 rfl; have d1 := y7.cell 1 rfl; have d2 := y7.cell 2 rfl
          go_wp2_with fail
          refine (hxa _ hRok).mono ?_
          rintro e Vc36 ⟨rfl, hb1⟩
          clear c0 c1 c2
          clear d0 d1 d2
          replace y0 := y0.below hb1
          replace y7 := y7.below hb1
          replace hRk := hRk.below hb1 (Nat.le_refl _)
          replace hRok := hRok.below hb1 (Nat.le_refl _)
          replace hb := hb.trans (hb1.mono hb.size)
          clear hb1 hxa
          have c0 := y0.cell 0 rfl; have c1 := y0.cell 1 rfl; have c2 := y0.cell 2 rfl
          have d0 := y7.cell 0 rfl; have d1 := y7.cell 1 rfl; have d2 := y7.cell 2 rfl
          go_wp2_with fail
          refine (hpk _ hRk).mono ?_
          rintro e Vc37 ⟨rfl, hb1⟩
          clear d0 d1 d2
          clear c0 c1 c2
          replace y0 := y0.below hb1
          replace y7 := y7.below hb1
          replace hRk := hRk.below hb1 (Nat.le_refl _)
          replace hRok := hRok.below hb1 (Nat.le_refl _)
          replace hb := hb.trans (hb1.mono hb.size)
          clear hb1 hpk
          have c0 := y0.cell 0 rfl; have c1 := y0.cell 1 rfl; have c2 := y0.cell 2 rfl
          have d0 := y7.cell 0 rfl; have d1 := y7.cell 1 rfl; have d2 := y7.cell 2 rfl
          go_wp2_with fail
          refine (hxb _ hRk).mono ?_
          rintro e Vc38 ⟨rfl, hb1⟩
          clear d0 d1 d2
          clear c0 c1 c2
          replace y0 := y0.below hb1
          replace y7 := y7.below hb1
          replace hRk := hRk.below hb1 (Nat.le_refl _)
          replace hRok := hRok.below hb1 (Nat.le_refl _)
          replace hb := hb.trans (hb1.mono hb.size)
          clear hb1 hxb
          have c0 := y0.cell 0 rfl; have c1 := y0.cell 1 rfl; have c2 := y0.cell 2 rfl
          have d0 := y7.cell 0 rfl; have d1 := y7.cell 1 rfl; have d2 := y7.cell 2 rfl
          go_wp2_with fail
          refine (hxc _ hRk).mono ?_
          rintro e Vc39 ⟨rfl, hb1⟩
          clear d0 d1 d2
          clear c0 c1 c2
          replace y0 := y0.below hb1
          replace y7 := y7.below hb1
          replace hRk := hRk.below hb1 (Nat.le_refl _)
          replace hRok := hRok.below hb1 (Nat.le_refl _)
          replace hb := hb.trans (hb1.mono hb.size)
          clear hb1 hxc
          have c0 := y0.cell 0 rfl; have c1 := y0.cell 1 rfl; have c2 := y0.cell 2 rfl
          have d0 := y7.cell 0 rfl; have d1 := y7.cell 1 rfl; have d2 := y7.cell 2 rfl
          go_wp2_with fail
          refine (hi1 _).mono ?_
          rintro e Vc40 ⟨rfl, rfl⟩
          clear hi1
          go_wp2_with fail
          refine (hi2 _).mono ?_
          rintro e Vc41 ⟨rfl, rfl⟩
          clear hi2
          go_wp2_with fail
          refine (hi3 _).mono ?_
          rintro e Vc42 ⟨rfl, rfl⟩
          clear hi3
          go_wp2
          go_roundw
          case rel => exact ⟨k + 1, by omega, by simp, hb⟩
          case measure => simp [intOf]; omega
      · obtain rfl : k = n := by omega
        have hkI : ¬ (k : Int) < (k : Int) := by omega
        have hbB := hbO.out.trans (hb.mono hbO.out.size)
        replace hb := hbB
        clear hbB hex2 hxr
        have c0 := y0.cell 0 rfl; have c1 := y0.cell 1 rfl; have c2 := y0.cell 2 rfl
        have d0 := y7.cell 0 rfl; have d1 := y7.cell 1 rfl; have d2 := y7.cell 2 rfl
        have hpk := hpl
        rw [hEE] at hpk hsh
        go_wp2_with fail
        refine (hsh _ _ _ _ _ hRok).mono ?_
        rintro e Vc43 ⟨aL, cL, rfl, hI, hb1⟩
        clear c0 c1 c2
        clear d0 d1 d2
        replace y0 := y0.below hb1
        replace y7 := y7.below hb1
        replace hRk := hRk.below hb1 (Nat.le_refl _)
        replace hRok := hRok.below hb1 (Nat.le_refl _)
        replace hb := hb.trans (hb1.mono hb.size)
        clear hb1 hsh
        have c0 := y0.cell 0 rfl; have c1 := y0.cell 1 rfl; have c2 := y0.cell 2 rfl
        have d0 := y7.cell 0 rfl; have d1 := y7.cell 1 rfl; have d2 := y7.cell 2 rfl
        go_wp2_with fail
        refine (hpk _ hRk).mono ?_
        rintro e Vc44 ⟨rfl, hb1⟩
        clear d0 d1 d2
        clear c0 c1 c2
        replace y0 := y0.below hb1
        replace y7 := y7.below hb1
        replace hRk := hRk.below hb1 (Nat.le_refl _)
        replace hRok := hRok.below hb1 (Nat.le_refl _)
        replace hI := hI.below hb1 (Nat.le_refl _)
        replace hb := hb.trans (hb1.mono hb.size)
        clear hb1 hpk
        have c0 := y0.cell 0 rfl; have c1 := y0.cell 1 rfl; have c2 := y0.cell 2 rfl
        have d0 := y7.cell 0 rfl; have d1 := y7.cell 1 rfl; have d2 := y7.cell 2 rfl
        rw [hF'] at hsa2
        go_wp2_with fail
        refine (hsa2 _ _ _ hI).mono ?_
        rintro e Vc45 ⟨rfl, hb1⟩
        clear d0 d1 d2
        clear c0 c1 c2
        replace y0 := y0.below hb1
        replace y7 := y7.below hb1
        replace hRk := hRk.below hb1 (Nat.le_refl _)
        replace hRok := hRok.below hb1 (Nat.le_refl _)
        replace hI := hI.below hb1 (Nat.le_refl _)
        replace hb := hb.trans (hb1.mono hb.size)
        clear hb1 hsa2
        have c0 := y0.cell 0 rfl; have c1 := y0.cell 1 rfl; have c2 := y0.cell 2 rfl
        have d0 := y7.cell 0 rfl; have d1 := y7.cell 1 rfl; have d2 := y7.cell 2 rfl
        generalize Vc45 = VZ at *
        have hbZ := hid hb
        clear hb
        go_wp2
        clear c0 c1 c2 d0 d1 d2
        go_loopw [22, 23] (fun v22 v23 wr => ∃ i : Nat, i ≤ q ∧ v23 = .int .i64 (i : Int) ∧ v22 = .int .i64 (L.take i).sum ∧ wr = VZ) (fun _ v23 _ => q - (intOf v23).toNat)
        case atStart => exact ⟨0, Nat.zero_le _, rfl, rfl, rfl⟩
        case round =>
          obtain ⟨i, hi, rfl, rfl, rfl⟩ := hrel
          by_cases hil : i < q
          · obtain ⟨bL, oL, x, rfl, _, hc1, _, _, hg1, _⟩ := hI.at (k := i) (by rw [← HQ.out]; exact hil)
            have hiI : (i : Int) < (q : Int) := by omega
            have hi0 : (0 : Int) ≤ (i : Int) := by omega
            have hq9 : q ≤ 1000 := by have h5 := HQ.out; have h6 := HLEN.out; omega
            have hsm := sum_take hg1.out
            have h3 := sum_rng (L := L.take (i + 1)) (fun y hy => HSS.out y (List.mem_of_mem_take hy))
            have h4 : (L.take (i + 1)).length ≤ 1000 := by
              have h5 := HQ.out
              have h6 := HLEN.out
              rw [List.length_take]; omega
            rw [hsm] at h3
            have hws : IntKind.i64.wrap ((L.take i).sum + x) = (L.take i).sum + x := IntWalk.i64_in _ (by omega)
            have HSM := hid hsm
            generalize (L.take i).sum = sm at *
            clear hsm h3 h4 hg1
            go_wp2
            go_roundw
            case rel => exact ⟨i + 1, by omega, by go_num, by rw [HSM.out], (by first | trivial | rfl)⟩
            case measure => simp [intOf]; omega
          · obtain rfl : i = q := by omega
            have hiI : ¬ (i : Int) < (i : Int) := by omega
            have hb := hbZ.out
            have hsp : (L.take i).sum = p := by rw [HQ.out, List.take_length]; exact hFs
            rw [hsp]
            have c0 := y0.cell 0 rfl; have c1 := y0.cell 1 rfl; have c2 := y0.cell 2 rfl
            go_wp2_with fail
            refine (hwk _).mono ?_
            rintro e Vw ⟨rfl, hbw9⟩
            clear c0 c1 c2
            replace hb := hb.trans (hbw9.mono hb.size)
            go_wp2
            go_ret
            exact ⟨rfl, hb⟩
end Go.Proofs.Ytakodllejndfeaa
