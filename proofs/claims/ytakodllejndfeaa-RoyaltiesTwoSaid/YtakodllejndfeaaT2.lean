import Derived.Test.YtakodllejndfeaaT1
/-! Whether a royal is valid. -/
namespace Go.Proofs.Ytakodllejndfeaa
set_option linter.unusedSimpArgs false
set_option linter.unusedVariables false
open Go Go.RowKit

theorem vB_o {p : Int} {S : List Sd} {O : List Int} (h : ¬ O.length ≤ 6) : vB p S O = false := by unfold vB; rw [decide_eq_false h]; rfl
theorem vB_s {p : Int} {S : List Sd} {O : List Int} (h : ¬ S.length ≤ 6) : vB p S O = false := by unfold vB; rw [decide_eq_false h]; simp
theorem vB_ow {p : Int} {S : List Sd} {O : List Int} {x : Int} (hx : x ∈ O) (h : inI 0 x 9999 = false) : vB p S O = false := by
  unfold vB
  have : O.all (fun x => inI 0 x 9999) = false := by
    rw [← Bool.not_eq_true, List.all_eq_true]; intro hh; rw [hh x hx] at h; cases h
  rw [this]; simp
theorem vB_sd {p : Int} {S : List Sd} {O : List Int} {s : Sd} (hx : s ∈ S) (h : sideB O.length s = false) : vB p S O = false := by
  unfold vB
  have : S.all (sideB O.length) = false := by
    rw [← Bool.not_eq_true, List.all_eq_true]; intro hh; rw [hh s hx] at h; cases h
  rw [this]; simp
theorem vB_p {p : Int} {S : List Sd} {O : List Int} (h : inI 0 p 9999 = false) : vB p S O = false := by unfold vB; rw [h]; simp
theorem vB_all {p : Int} {S : List Sd} {O : List Int} (h1 : O.length ≤ 6) (h2 : S.length ≤ 6) (h3 : O.all (fun x => inI 0 x 9999) = true) (h4 : S.all (sideB O.length) = true) : vB p S O = inI 0 p 9999 := by
  unfold vB; rw [decide_eq_true h1, decide_eq_true h2, h3, h4]; simp
theorem all_take {α : Type} {l : List α} {f : α → Bool} {k : Nat} {x : α} (hg : l[k]? = some x) (h : (l.take k).all f = true) (hx : f x = true) : (l.take (k + 1)).all f = true := by
  rw [take_snoc hg, List.all_append, h]; simp [hx]

set_option maxRecDepth 100000 in
set_option maxHeartbeats 6000000 in
theorem valid_any (p : Int) (aS aO : Option Addr) (cS cO : Nat) (S : List Sd) (O : List Int) (w : World) (hX : Ry w aS aO p S O) : Calls Try.prog 58 #[.agg #[.int .i64 p, .slice aS S.length cS, .slice aO O.length cO]] w fun e w' => e = .returned (.bool (vB p S O)) ∧ Below w.heap.size w w' := by
  obtain ⟨W, hW, hb, _, x0⟩ := boxes1 w #[.int .i64 p, .slice aS S.length cS, .slice aO O.length cO] 25
  have c0 := x0.cell 0 rfl; have c1 := x0.cell 1 rfl; have c2 := x0.cell 2 rfl
  have hl1 := hX.ol; have hl2 := hX.sd.len
  have HO := fun h => vB_o (p := p) (S := S) (O := O) h
  have HS := fun h => vB_s (p := p) (S := S) (O := O) h
  have HOW := fun x hx h => vB_ow (p := p) (S := S) (O := O) (x := x) hx h
  have HSD := fun s hs h => vB_sd (p := p) (S := S) (O := O) (s := s) hs h
  have HA := fun h1 h2 h3 h4 => vB_all (p := p) (S := S) (O := O) h1 h2 h3 h4
  have hsd := fun pl a' c' ps v h1 h2 => isSide_any p aS aO cS cO S O pl a' c' ps v hl1 h1 h2
  obtain ⟨r, hr⟩ : ∃ r, r = vB p S O := ⟨_, rfl⟩
  rw [← hr] at HO HS HOW HSD HA ⊢
  clear hr
  have hX1 := hX.below hb (Nat.le_refl _)
  clear hX
  obtain ⟨n, hn⟩ : ∃ n, n = O.length := ⟨_, rfl⟩
  obtain ⟨m, hm⟩ : ∃ m, m = S.length := ⟨_, rfl⟩
  rw [← hn] at hl1 HO HA c2 x0 hW hsd HSD ⊢
  rw [← hm] at hl2 HS HA c1 x0 hW hsd ⊢
  have HN := hid hn; have HM := hid hm
  clear hn hm
  by_cases h6 : n ≤ 6
  · have h6I : (n : Int) ≤ 6 := by omega
    by_cases h7 : m ≤ 6
    · have h7I : (m : Int) ≤ 6 := by omega
      replace HA := HA h6 h7
      clear HO HS
      go_enter Try.func58, Try.ntmps58
      go_wp2
      clear hW c0 c1 c2
      go_loopw [4, 20] (fun v4 v20 wr => ∃ k : Nat, k ≤ n ∧ v20 = .int .i64 (k : Int) ∧ Hid ((O.take k).all (fun x => inI 0 x 9999) = true) ∧ wr = W) (fun _ v20 _ => n - (intOf v20).toNat)
      case atStart => exact ⟨0, Nat.zero_le _, rfl, hid rfl, rfl⟩
      case round =>
        obtain ⟨k, hk, rfl, HK, rfl⟩ := hrel
        by_cases hlt : k < n
        · obtain ⟨b, off, x, rfl, hbl, hc, hx1, hx2, hg, _⟩ := hX1.ow.at (k := k) (by rw [← HN.out]; exact hlt)
          have hkI : (k : Int) < n := by omega
          have hk0 : (0 : Int) ≤ (k : Int) := by omega
          have hf := fun v => isFrom_any 0 x 9999 v
          cases hr1 : inI 0 x 9999
          · rw [hr1] at hf
            have HR := hid (HOW x (List.mem_of_getElem? hg.out) hr1)
            clear hg hr1
            go_wp2_with fail
            refine (hf _).mono ?_
            rintro e V1 ⟨rfl, rfl⟩
            go_wp2
            go_ret
            exact ⟨ret_bool (by rw [HR.out]), hb⟩
          · rw [hr1] at hf
            have HK2 := hid (all_take (f := fun x => inI 0 x 9999) hg.out HK.out hr1)
            clear hg hr1
            go_wp2_with fail
            refine (hf _).mono ?_
            rintro e V1 ⟨rfl, rfl⟩
            go_wp2
            go_roundw
            case rel => exact ⟨k + 1, by omega, by simp, HK2, trivial⟩
            case measure => simp [intOf]; omega
        · have hkn : k = n := by omega
          have hall := HK.out
          rw [hkn, HN.out, List.take_length] at hall
          replace HA := HA hall
          have hkI : ¬ (k : Int) < n := by omega
          clear hall HOW HK hkn
          obtain ⟨wo, rfl⟩ : ∃ wo : World, wo = wr := ⟨_, rfl⟩
          have c0 := x0.cell 0 rfl; have c1 := x0.cell 1 rfl; have c2 := x0.cell 2 rfl
          go_wp2
          clear c0 c1 c2
          go_loopw [6, 31] (fun v6 v31 wr => ∃ j : Nat, j ≤ m ∧ v31 = .int .i64 (j : Int) ∧ Hid ((S.take j).all (sideB n) = true) ∧ Below wo.heap.size wo wr) (fun _ v31 _ => m - (intOf v31).toNat)
          case atStart => exact ⟨0, Nat.zero_le _, rfl, hid rfl, Below.refl _ _⟩
          case round =>
            obtain ⟨j, hj, rfl, HJ, hb1⟩ := hrel
            by_cases hltj : j < m
            · obtain ⟨b, off, s, a', c', rfl, hbl, q0, q1, hP, hpl, hrg, hmem, hg⟩ := (hX1.sd.below hb1 (Nat.le_refl _)).at (k := j) (by rw [← HM.out]; exact hltj)
              have hjI : (j : Int) < m := by omega
              have hj0 : (0 : Int) ≤ (j : Int) := by omega
              have hba := below_one (w := wr) (.cells #[.int .i64 s.pl, .slice a' s.ps.length c'] 39)
              have hb2 := hb1.trans (hba.mono hb1.size)
              have HXa := hid (And.intro ((x0.below hb1).below hba) (And.intro (Bx.new wr #[.int .i64 s.pl, .slice a' s.ps.length c'] 39) (And.intro (hP.below hba (Nat.le_refl _)) (And.intro (hb.trans (hb2.mono hb.size)) hb2))))
              have hno := fun h => HSD s hmem h
              have hys := fun h => all_take (f := sideB n) hg.out HJ.out h
              obtain ⟨pl, ps⟩ := s
              have hsv := fun v h => hsd pl a' c' ps v hpl h
              clear x0 HSD HA hsd hX1 hP hg hmem hba hb2
              go_upto_region 12 with fail
              obtain ⟨x0, y0, hP, hbr, hb2⟩ := HXa.out
              clear HXa q0 q1 hb1
              generalize wr.heap.size = sa at *
              generalize World.alloc _ _ = wa at *
              have c0 := x0.cell 0 rfl; have c1 := x0.cell 1 rfl; have c2 := x0.cell 2 rfl
              have d0 := y0.cell 0 rfl; have d1 := y0.cell 1 rfl
              clear x0 y0
              have hsw := hsv wa hP
              cases hr1 : sideB n ⟨pl, ps⟩
              · rw [hr1] at hsw
                have HR := hid (hno hr1)
                clear hno hys hr1 hsv hP
                go_wp2_with fail
                refine hsw.mono ?_
                rintro e V1 ⟨rfl, hb3⟩
                replace hbr := hbr.trans (hb3.mono hbr.size)
                go_wp2
                go_ret
                exact ⟨ret_bool (by rw [HR.out]), hbr⟩
              · rw [hr1] at hsw
                have HJ2 := hid (hys hr1)
                clear hno hys hr1 hsv hP
                go_wp2_with fail
                refine hsw.mono ?_
                rintro e V1 ⟨rfl, hb3⟩
                replace hb2 := hb2.trans (hb3.mono hb2.size)
                go_wp2
                go_roundw
                case rel => exact ⟨j + 1, by omega, by simp, HJ2, hb2⟩
                case measure => simp [intOf]; omega
            · have hjm : j = m := by omega
              have hall := HJ.out
              rw [hjm, HM.out, List.take_length] at hall
              have HR := hid (HA hall)
              have hjI : ¬ (j : Int) < m := by omega
              have hf := fun v => isPool_any p v
              replace x0 := x0.below hb1
              have hbr := hb.trans (hb1.mono hb.size)
              have c0 := x0.cell 0 rfl; have c1 := x0.cell 1 rfl; have c2 := x0.cell 2 rfl
              generalize inI 0 p 9999 = r1 at *
              clear HA HSD hall hjm hsd hX1 x0
              go_wp2_with fail
              refine (hf _).mono ?_
              rintro e V1 ⟨rfl, rfl⟩
              go_wp2
              go_ret
              exact ⟨ret_bool HR.out.symm, hbr⟩
    · have h7I : (6 : Int) < (m : Int) := by omega
      have HR := hid (HS h7)
      clear HO HS HOW HSD HA h7
      go_enter Try.func58, Try.ntmps58
      go_wp2
      go_ret
      exact ⟨ret_bool (by rw [HR.out]), hb⟩
  · have h6I : (6 : Int) < (n : Int) := by omega
    have HR := hid (HO h6)
    clear HO HS HOW HSD HA h6
    go_enter Try.func58, Try.ntmps58
    go_wp2
    go_ret
    exact ⟨ret_bool (by rw [HR.out]), hb⟩
set_option maxRecDepth 100000 in
set_option maxHeartbeats 1000000 in
theorem Check_any (p : Int) (aS aO : Option Addr) (cS cO : Nat) (S : List Sd) (O : List Int) (w : World) (hX : Ry w aS aO p S O) : Calls Try.prog 34 #[.agg #[.int .i64 p, .slice aS S.length cS, .slice aO O.length cO]] w fun e w' => e = .returned (.int .i64 (if vB p S O then 0 else 100)) ∧ Below w.heap.size w w' := by
  obtain ⟨W, hW, hb, _, x0⟩ := boxes1 w #[.int .i64 p, .slice aS S.length cS, .slice aO O.length cO] 25
  have hv := valid_any p aS aO cS cO S O W (hX.below hb (Nat.le_refl _))
  generalize vB p S O = r at *
  have c0 := x0.cell 0 rfl; have c1 := x0.cell 1 rfl; have c2 := x0.cell 2 rfl
  clear x0
  go_enter Try.func34, Try.ntmps34
  go_wp2_with fail
  refine hv.mono ?_
  rintro e W1 ⟨rfl, hb1⟩
  replace hb := hb.trans (hb1.mono hb.size)
  clear c0 c1 c2 hW hv
  cases r
  · go_wp2
    go_ret
    exact ⟨rfl, hb⟩
  · go_wp2
    go_ret
    exact ⟨rfl, hb⟩
end Go.Proofs.Ytakodllejndfeaa
