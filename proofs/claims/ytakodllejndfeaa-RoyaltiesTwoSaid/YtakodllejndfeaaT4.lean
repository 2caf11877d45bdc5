import Derived.Test.YtakodllejndfeaaT3
/-! The reference: Check, Plays, known. -/
namespace Go.Proofs.Ytakodllejndfeaa
set_option linter.unusedSimpArgs false
set_option linter.unusedVariables false
open Go Go.RowKit

def cod : Bool → Int
  | true => 0
  | false => 100
theorem ret_cod {r b : Bool} (h : r = b) {x : Int} (hx : cod b = x) : Ending.returned (.int .i64 x) = .returned (.int .i64 (cod r)) := by rw [h, hx]
set_option maxRecDepth 100000 in
set_option maxHeartbeats 6000000 in
theorem chk_any (p : Int) (aS aO : Option Addr) (cS cO : Nat) (S : List Sd) (O : List Int) (w : World) (hX : Ry w aS aO p S O) : Calls Try.prog 35 #[.agg #[.int .i64 p, .slice aS S.length cS, .slice aO O.length cO]] w fun e w' => e = .returned (.int .i64 (cod (vB p S O))) ∧ Below w.heap.size w w' := by
  obtain ⟨W, hW, hb, _, x0⟩ := boxes1 w #[.int .i64 p, .slice aS S.length cS, .slice aO O.length cO] 25
  have c0 := x0.cell 0 rfl; have c1 := x0.cell 1 rfl; have c2 := x0.cell 2 rfl
  have hl1 := hX.ol; have hl2 := hX.sd.len
  have HO := fun h => vB_o (p := p) (S := S) (O := O) h
  have HS := fun h => vB_s (p := p) (S := S) (O := O) h
  have HP := fun h => vB_p (p := p) (S := S) (O := O) h
  have HOW := fun x hx h => vB_ow (p := p) (S := S) (O := O) (x := x) hx h
  have HSD := fun s hs h => vB_sd (p := p) (S := S) (O := O) (s := s) hs h
  have HA := fun h1 h2 h3 h4 => vB_all (p := p) (S := S) (O := O) h1 h2 h3 h4
  have hsd := fun pl a' c' ps v h1 h2 => refSide_any p aS aO cS cO S O pl a' c' ps v hl1 h1 h2
  obtain ⟨r, hr⟩ : ∃ r, r = vB p S O := ⟨_, rfl⟩
  rw [← hr] at HO HS HP HOW HSD HA ⊢
  clear hr
  have hX1 := hX.below hb (Nat.le_refl _)
  clear hX
  obtain ⟨n, hn⟩ : ∃ n, n = O.length := ⟨_, rfl⟩
  obtain ⟨m, hm⟩ : ∃ m, m = S.length := ⟨_, rfl⟩
  rw [← hn] at hl1 HO HA c2 x0 hW hsd HSD ⊢
  rw [← hm] at hl2 HS HA c1 x0 hW hsd ⊢
  have HN := hid hn; have HM := hid hm
  clear hn hm
  have hpw := fun v => within_any p 0 9999 v
  cases hr0 : inI 0 p 9999
  · rw [hr0] at hpw
    have HR := hid (HP hr0)
    clear HO HS HP HOW HSD HA hr0
    go_enter Try.func35, Try.ntmps35
    go_wp2_with fail
    refine (hpw _).mono ?_
    rintro e V1 ⟨rfl, rfl⟩
    go_wp2
    go_ret
    exact ⟨ret_cod HR.out rfl, hb⟩
  rw [hr0] at hpw HA
  clear HP hr0
  by_cases h6 : n ≤ 6
  · have h6I : (n : Int) ≤ 6 := by omega
    by_cases h7 : m ≤ 6
    · have h7I : (m : Int) ≤ 6 := by omega
      replace HA := HA h6 h7
      clear HO HS
      go_enter Try.func35, Try.ntmps35
      go_wp2_with fail
      refine (hpw _).mono ?_
      rintro e V1 ⟨rfl, rfl⟩
      go_wp2
      clear hW c0 c1 c2 hpw
      go_loopw [3] (fun v3 wr => ∃ k : Nat, k ≤ n ∧ v3 = .int .i64 (k : Int) ∧ Hid ((O.take k).all (fun x => inI 0 x 9999) = true) ∧ wr = W) (fun v3 _ => n - (intOf v3).toNat)
      case atStart => exact ⟨0, Nat.zero_le _, rfl, hid rfl, rfl⟩
      case round =>
        obtain ⟨k, hk, rfl, HK, rfl⟩ := hrel
        have c0 := x0.cell 0 rfl; have c1 := x0.cell 1 rfl; have c2 := x0.cell 2 rfl
        by_cases hlt : k < n
        · obtain ⟨b, off, x, rfl, hbl, hc, hx1, hx2, hg, _⟩ := hX1.ow.at (k := k) (by rw [← HN.out]; exact hlt)
          have hkI : (k : Int) < n := by omega
          have hk0 : (0 : Int) ≤ (k : Int) := by omega
          have hf := fun v => within_any x 0 9999 v
          cases hr1 : inI 0 x 9999
          · rw [hr1] at hf
            have HR := hid (HOW x (List.mem_of_getElem? hg.out) hr1)
            clear hg hr1
            go_wp2_with fail
            refine (hf _).mono ?_
            rintro e V1 ⟨rfl, rfl⟩
            go_wp2
            go_ret
            exact ⟨ret_cod HR.out rfl, hb⟩
          · rw [hr1] at hf
            have HK2 := hid (all_take (f := fun x => inI 0 x 9999) hg.out HK.out hr1)
            clear hg hr1
            go_wp2_with fail
            refine (hf _).mono ?_
            rintro e V1 ⟨rfl, rfl⟩
            go_wp2
            go_roundw
            case rel => exact ⟨k + 1, by omega, by simp, HK2, trivial⟩
            case measure => simp [intOf]; omega
        · have hkn : k = n := by omega
          have hall := HK.out
          rw [hkn, HN.out, List.take_length] at hall
          replace HA := HA hall
          have hkI : ¬ (k : Int) < n := by omega
          clear hall HOW HK hkn
          obtain ⟨wo, rfl⟩ : ∃ wo : World, wo = wr := ⟨_, rfl⟩
          go_wp2
          clear c0 c1 c2
          go_loopw [4] (fun v4 wr => ∃ j : Nat, j ≤ m ∧ v4 = .int .i64 (j : Int) ∧ Hid ((S.take j).all (sideB n) = true) ∧ Below wo.heap.size wo wr) (fun v4 _ => m - (intOf v4).toNat)
          case atStart => exact ⟨0, Nat.zero_le _, rfl, hid rfl, Below.refl _ _⟩
          case round =>
            obtain ⟨j, hj, rfl, HJ, hb1⟩ := hrel
            replace x0 := x0.below hb1
            have c0 := x0.cell 0 rfl; have c1 := x0.cell 1 rfl; have c2 := x0.cell 2 rfl
            by_cases hltj : j < m
            · obtain ⟨b, off, s, a', c', rfl, hbl, q0, q1, hP, hpl, hrg, hmem, hg⟩ := (hX1.sd.below hb1 (Nat.le_refl _)).at (k := j) (by rw [← HM.out]; exact hltj)
              have hjI : (j : Int) < m := by omega
              have hj0 : (0 : Int) ≤ (j : Int) := by omega
              have hno := fun h => HSD s hmem h
              have hys := fun h => all_take (f := sideB n) hg.out HJ.out h
              obtain ⟨pl, ps⟩ := s
              have hsv := fun v h => hsd pl a' c' ps v hpl h
              clear HSD HA hsd hX1 hg hmem
              go_upto_region 11 with fail
              clear c0 c1 c2
              have hbd := (Below.refl wr.heap.size wr).drew
              have S0 := And.intro (x0.below hbd) (And.intro (Below.keep hbd q0) (Below.keep hbd q1))
              replace hb1 := hb1.trans (hbd.mono hb1.size)
              have hsw := hsv wr.drew (hP.below hbd (Nat.le_refl _))
              clear x0 q0 q1 hbd hP hsv
              refine wp_region_head 7 (fun w' => Bx w' w.heap.size #[.int .i64 p, .slice (some ⟨b, off, none⟩) m cS, .slice aO n cO] 25 ∧ w'.cell? ⟨b, off + j * 2, none⟩ = some (.int .i64 pl) ∧ w'.cell? ⟨b, off + j * 2 + 1, none⟩ = some (.slice a' ps.length c')) (by kernel_rfl) rfl ?_
              generalize wr.drew = Y0 at *
              refine HeadAt.take (i := 0) (.agg #[.int .i64 p, .slice (some ⟨b, off, none⟩) m cS, .slice aO n cO]) rfl (by kernel_rfl) (.inl ⟨rfl, fun w' z => ?_⟩) S0 ?_
              · (have z0 := z.1.cell 0 rfl; have z1 := z.1.cell 1 rfl; have z2 := z.1.cell 2 rfl; simp [go_sem, z0, z1, z2])
              (try simp only [Act.put, List.getElem_toArray, List.getElem_cons_succ, List.getElem_cons_zero, List.setIfInBounds_toArray, List.set_cons_succ, List.set_cons_zero])
              refine HeadAt.take (i := 1) (.pointer (some ⟨w.heap.size, 1, none⟩)) rfl (by kernel_rfl) (.inl ⟨rfl, fun _ _ => by simp [go_sem]⟩) S0 ?_
              (try simp only [Act.put, List.getElem_toArray, List.getElem_cons_succ, List.getElem_cons_zero, List.setIfInBounds_toArray, List.set_cons_succ, List.set_cons_zero])
              refine HeadAt.take (i := 2) (.slice (some ⟨b, off, none⟩) m cS) rfl (by kernel_rfl) (.inl ⟨rfl, fun w' z => ?_⟩) S0 ?_
              · (have z0 := z.1.cell 1 rfl; simp [go_sem, z0])
              (try simp only [Act.put, List.getElem_toArray, List.getElem_cons_succ, List.getElem_cons_zero, List.setIfInBounds_toArray, List.set_cons_succ, List.set_cons_zero])
              refine HeadAt.take (i := 3) (.int .i64 (j : Int)) rfl (by kernel_rfl) (.inl ⟨rfl, fun _ _ => by simp [go_sem]⟩) S0 ?_
              (try simp only [Act.put, List.getElem_toArray, List.getElem_cons_succ, List.getElem_cons_zero, List.setIfInBounds_toArray, List.set_cons_succ, List.set_cons_zero])
              refine HeadAt.take (i := 4) (.pointer (some ⟨b, off + j * 2, none⟩)) rfl (by kernel_rfl) (.inl ⟨rfl, fun w' z => ?_⟩) S0 ?_
              · (simp [go_sem, hjI, hj0])
              (try simp only [Act.put, List.getElem_toArray, List.getElem_cons_succ, List.getElem_cons_zero, List.setIfInBounds_toArray, List.set_cons_succ, List.set_cons_zero])
              refine HeadAt.take (i := 5) (.agg #[.int .i64 pl, .slice a' ps.length c']) rfl (by kernel_rfl) (.inl ⟨rfl, fun w' z => ?_⟩) S0 ?_
              · (simp [go_sem, z.2.1, z.2.2])
              (try simp only [Act.put, List.getElem_toArray, List.getElem_cons_succ, List.getElem_cons_zero, List.setIfInBounds_toArray, List.set_cons_succ, List.set_cons_zero])
              refine HeadAt.one (i := 6) rfl (by kernel_rfl) ?_
              generalize hK : Upto _ _ = K0
              (try simp only [Act.put, List.getElem_toArray, List.getElem_cons_succ, List.getElem_cons_zero, List.setIfInBounds_toArray, List.set_cons_succ, List.set_cons_zero])
              cases hr1 : sideB n ⟨pl, ps⟩
              · rw [hr1] at hsw
                have HR := hid (hno hr1)
                clear hno hys hr1
                go_wp2_with fail
                refine hsw.mono ?_
                rintro e V1 ⟨rfl, hb3⟩
                go_wp2_with fail
                replace S0 := And.intro (S0.1.below hb3) (And.intro (Below.keep hb3 S0.2.1) (Below.keep hb3 S0.2.2))
                replace hb1 := hb1.trans (hb3.mono hb1.size)
                have hbr := hb.trans (hb1.mono hb.size)
                clear hb3
                subst hK
                refine ⟨S0, ?_⟩
                (try simp only [Act.put, List.getElem_toArray, List.getElem_cons_succ, List.getElem_cons_zero, List.setIfInBounds_toArray, List.set_cons_succ, List.set_cons_zero])
                refine HeadAt.done (by kernel_rfl) ?_
                (try simp only [Act.put, List.drop_succ_cons, List.drop_zero, List.getElem_toArray, List.getElem_cons_succ, List.getElem_cons_zero])
                go_wp2_with fail
                refine NoPanic.normal ?_
                go_wp2
                go_ret
                exact ⟨ret_cod HR.out rfl, hbr⟩
              · rw [hr1] at hsw
                have HJ2 := hid (hys hr1)
                clear hno hys hr1
                go_wp2_with fail
                refine hsw.mono ?_
                rintro e V1 ⟨rfl, hb3⟩
                go_wp2_with fail
                replace S0 := And.intro (S0.1.below hb3) (And.intro (Below.keep hb3 S0.2.1) (Below.keep hb3 S0.2.2))
                replace hb1 := hb1.trans (hb3.mono hb1.size)
                have hbr := hb.trans (hb1.mono hb.size)
                clear hb3
                subst hK
                refine ⟨S0, ?_⟩
                (try simp only [Act.put, List.getElem_toArray, List.getElem_cons_succ, List.getElem_cons_zero, List.setIfInBounds_toArray, List.set_cons_succ, List.set_cons_zero])
                refine HeadAt.done (by kernel_rfl) ?_
                (try simp only [Act.put, List.drop_succ_cons, List.drop_zero, List.getElem_toArray, List.getElem_cons_succ, List.getElem_cons_zero])
                go_wp2_with fail
                refine NoPanic.normal ?_
                go_wp2
                go_roundw
                case rel => exact ⟨j + 1, by omega, by simp, HJ2, hb1⟩
                case measure => simp [intOf]; omega
            · have hjm : j = m := by omega
              have hall := HJ.out
              rw [hjm, HM.out, List.take_length] at hall
              have HR := hid (HA hall)
              have hjI : ¬ (j : Int) < m := by omega
              have hbr := hb.trans (hb1.mono hb.size)
              clear HA HSD hall hjm hsd hX1 x0
              go_wp2
              go_ret
              exact ⟨ret_cod HR.out rfl, hbr⟩
    · have h7I : (6 : Int) < (m : Int) := by omega
      have HR := hid (HS h7)
      clear HO HS HOW HSD HA h7
      go_enter Try.func35, Try.ntmps35
      go_wp2_with fail
      refine (hpw _).mono ?_
      rintro e V1 ⟨rfl, rfl⟩
      go_wp2
      go_ret
      exact ⟨ret_cod HR.out rfl, hb⟩
  · have h6I : (6 : Int) < (n : Int) := by omega
    have HR := hid (HO h6)
    clear HO HS HOW HSD HA h6
    go_enter Try.func35, Try.ntmps35
    go_wp2_with fail
    refine (hpw _).mono ?_
    rintro e V1 ⟨rfl, rfl⟩
    go_wp2
    go_ret
    exact ⟨ret_cod HR.out rfl, hb⟩

theorem VOk.al {p : Int} {S : List Sd} {O : List Int} (h : VOk p S O) : 0 ≤ alS S ∧ alS S ≤ 59994 := by
  have := alS_rng h.sd
  have := h.m6
  omega
theorem VOk.take {p : Int} {S : List Sd} {O : List Int} (h : VOk p S O) (k : Nat) : 0 ≤ alS (S.take k) ∧ alS (S.take k) ≤ 59994 := by
  have := alS_rng (S := S.take k) (n := O.length) (fun s hs => h.sd s (List.mem_of_mem_take hs))
  have := h.m6
  rw [List.length_take] at *
  omega
set_option maxRecDepth 100000 in
set_option maxHeartbeats 3000000 in
theorem Plays_any (p : Int) (aS aO : Option Addr) (cS cO : Nat) (S : List Sd) (O : List Int) (w : World) (hX : Ry w aS aO p S O) (hV : VOk p S O) : Calls Try.prog 25 #[.agg #[.int .i64 p, .slice aS S.length cS, .slice aO O.length cO]] w fun e w' => e = .returned (.int .i64 (alS S)) ∧ Below w.heap.size w w' := by
  obtain ⟨W, hW, hb, _, x0⟩ := boxes1 w #[.int .i64 p, .slice aS S.length cS, .slice aO O.length cO] 25
  have c0 := x0.cell 0 rfl; have c1 := x0.cell 1 rfl; have c2 := x0.cell 2 rfl
  have hl2 := hX.sd.len
  have hX1 := (hX.below hb (Nat.le_refl _)).sd
  clear hX
  obtain ⟨m, hm⟩ : ∃ m, m = S.length := ⟨_, rfl⟩
  rw [← hm] at hl2 c1 x0 hW ⊢
  have HM := hid hm
  clear hm
  go_enter Try.func25, Try.ntmps25
  go_wp2
  clear hW c0 c1 c2
  go_loopw [3, 4] (fun v3 v4 wr => ∃ k : Nat, k ≤ m ∧ v4 = .int .i64 (k : Int) ∧ v3 = .int .i64 (alS (S.take k)) ∧ wr = W) (fun _ v4 _ => m - (intOf v4).toNat)
  case atStart => exact ⟨0, Nat.zero_le _, rfl, rfl, rfl⟩
  case round =>
    obtain ⟨k, hk, rfl, rfl, rfl⟩ := hrel
    have c0 := x0.cell 0 rfl; have c1 := x0.cell 1 rfl; have c2 := x0.cell 2 rfl
    by_cases hlt : k < m
    · obtain ⟨b, off, s, a', c', rfl, hbl, q0, q1, hP, hpl, hrg, hmem, hg⟩ := hX1.at (k := k) (by rw [← HM.out]; exact hlt)
      have hkI : (k : Int) < m := by omega
      have hk0 : (0 : Int) ≤ (k : Int) := by omega
      have hst : alS (S.take (k + 1)) = alS (S.take k) + s.pl := by rw [take_snoc hg.out, alS_snoc]
      have h1 := VOk.take hV k; have h2 := VOk.take hV (k + 1)
      have ew : IntKind.i64.wrap (alS (S.take k) + s.pl) = alS (S.take k) + s.pl := IntWalk.i64_in _ (by rw [← hst]; omega)
      obtain ⟨u, hu⟩ : ∃ u, u = alS (S.take k) := ⟨_, rfl⟩
      rw [← hu] at hst ew ⊢
      obtain ⟨q, hq⟩ : ∃ q, q = s.pl := ⟨_, rfl⟩
      rw [← hq] at hst ew q0
      have HST := hid hst
      clear hu hq hg h1 h2 hP hmem hst
      go_wp2
      go_roundw
      case rel => exact ⟨k + 1, by omega, by simp, by rw [HST.out], trivial⟩
      case measure => simp [intOf]; omega
    · have hkm : k = m := by omega
      have ht : S.take k = S := by rw [hkm, HM.out, List.take_length]
      rw [ht]
      have hkI : ¬ (k : Int) < m := by omega
      clear ht hkm
      go_wp2
      go_ret
      exact ⟨rfl, hb⟩
theorem askE_v {p : Int} {S : List Sd} {O : List Int} {o : Bool} (h : vB p S O = false) : askE p S O o = 100 := by unfold askE; rw [h]; rfl
theorem askE_o {p : Int} {S : List Sd} {O : List Int} (h : vB p S O = true) : askE p S O false = 1 := by unfold askE; rw [h]; rfl
theorem askE_z {p : Int} {S : List Sd} {O : List Int} (h : vB p S O = true) (hz : alS S = 0) : askE p S O true = 3 := by unfold askE; rw [h, if_pos rfl, if_pos rfl, if_pos hz]
theorem askE_n {p : Int} {S : List Sd} {O : List Int} (h : vB p S O = true) (hz : alS S ≠ 0) : askE p S O true = 0 := by unfold askE; rw [h, if_pos rfl, if_pos rfl, if_neg hz]
set_option maxRecDepth 100000 in
set_option maxHeartbeats 1000000 in
theorem known_any (p : Int) (aS aO : Option Addr) (cS cO : Nat) (S : List Sd) (O : List Int) (o : Bool) (w : World) (hX : Ry w aS aO p S O) : Calls Try.prog 60 #[.agg #[.int .i64 p, .slice aS S.length cS, .slice aO O.length cO], .bool o] w fun e w' => e = .returned (.int .i64 (askE p S O o)) ∧ Below w.heap.size w w' := by
  obtain ⟨W, hW, hb, _, x0⟩ := boxes1 w #[.int .i64 p, .slice aS S.length cS, .slice aO O.length cO] 25
  have hX1 := hX.below hb (Nat.le_refl _)
  have hv := chk_any p aS aO cS cO S O W hX1
  have hp := fun V h1 h2 => Plays_any p aS aO cS cO S O V h1 h2
  have hvo := fun h => vB_ok (p := p) (S := S) (O := O) h
  have e1 := fun h => askE_v (p := p) (S := S) (O := O) (o := o) h
  have e2 := fun h => askE_o (p := p) (S := S) (O := O) h
  have e3 := fun h => askE_z (p := p) (S := S) (O := O) h
  have e4 := fun h => askE_n (p := p) (S := S) (O := O) h
  obtain ⟨E, hE⟩ : ∃ E, E = askE p S O o := ⟨_, rfl⟩
  rw [← hE] at e1 ⊢
  generalize vB p S O = r at *
  have c0 := x0.cell 0 rfl; have c1 := x0.cell 1 rfl; have c2 := x0.cell 2 rfl
  go_enter Try.func60, Try.ntmps60
  go_wp2_with fail
  refine hv.mono ?_
  rintro e W1 ⟨rfl, hb1⟩
  replace hb := hb.trans (hb1.mono hb.size)
  replace x0 := x0.below hb1
  replace hX1 := hX1.below hb1 (Nat.le_refl _)
  clear c0 c1 c2 hW hv hX hb1
  have c0 := x0.cell 0 rfl; have c1 := x0.cell 1 rfl; have c2 := x0.cell 2 rfl
  have HE := hid hE
  clear hE
  cases r
  · have HR := hid (e1 rfl)
    clear e1 e2 e3 e4
    simp only [cod]
    go_wp2
    go_ret
    exact ⟨ret_int HR.out.symm, hb⟩
  · simp only [cod]
    cases o
    · have HR := hid (HE.out.trans (e2 rfl))
      clear e1 e2 e3 e4
      go_wp2
      go_ret
      exact ⟨ret_int HR.out.symm, hb⟩
    · have hpl := hp W1 hX1 (hvo rfl)
      replace e3 := e3 rfl
      replace e4 := e4 rfl
      clear hp hvo hX1 e1 e2
      obtain ⟨q, hq⟩ : ∃ q, q = alS S := ⟨_, rfl⟩
      rw [← hq] at hpl e3 e4
      by_cases h0 : q = 0
      · have hB : (q == 0) = true := by simp [h0]
        have HR := hid (HE.out.trans (e3 h0))
        clear h0 hq e3 e4
        go_wp2_with fail
        refine hpl.mono ?_
        rintro e W2 ⟨rfl, hb1⟩
        replace hb := hb.trans (hb1.mono hb.size)
        go_wp2
        go_ret
        exact ⟨ret_int HR.out.symm, hb⟩
      · have hB : (q == 0) = false := by simp [h0]
        have HR := hid (HE.out.trans (e4 h0))
        clear hq e3 e4
        go_wp2_with fail
        refine hpl.mono ?_
        rintro e W2 ⟨rfl, hb1⟩
        replace hb := hb.trans (hb1.mono hb.size)
        go_wp2
        go_ret
        exact ⟨ret_int HR.out.symm, hb⟩
end Go.Proofs.Ytakodllejndfeaa
