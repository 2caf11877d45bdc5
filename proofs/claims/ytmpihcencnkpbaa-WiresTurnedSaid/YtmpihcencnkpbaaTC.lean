import Derived.Test.YtmpihcencnkpbaaE1
/-! In how many truths a fault is: Sure, Maybe. -/
namespace Go.Proofs.Ytmpihcencnkpbaa
set_option linter.unusedSimpArgs false
set_option linter.unusedVariables false
open Go Go.RowKit

/-- A map that counts how often each fault is in a list. -/
structure CntF (D : DataW Unit) (l : List F3) : Prop where
  im : Go.Maps.IsMap D
  at' : ∀ f lf, KeyF f lf → D.atKey lf (.lit (.int .i64 0)) = .lit (.int .i64 (l.count f : Nat))
theorem CntF.nil : CntF (.map []) [] := ⟨Go.Maps.isMap_empty, fun f lf _ => rfl⟩
theorem CntF.snoc {D : DataW Unit} {l : List F3} (h : CntF D l) {f : F3} {lf : Lit} (hf : KeyF f lf) : CntF (D.put lf (.lit (.int .i64 ((l.count f + 1 : Nat) : Int)))) (l ++ [f]) := by
  refine ⟨h.im.put _ _, fun g lg hg => ?_⟩
  by_cases e : g = f
  · subst e
    have e2 : lg = lf := by
      unfold KeyF at hf hg
      rw [hf] at hg; cases hg; rfl
    subst e2
    rw [Go.Maps.atKey_put_same h.im (law63.key hf), List.count_append, List.count_singleton_self]
  · have e2 : lg ≠ lf := fun e2 => e (keyF_inj hg (e2 ▸ hf))
    rw [Go.Maps.atKey_put_other e2, h.at' g lg hg, List.count_append, List.count_singleton, if_neg (by simpa using fun e3 : f = g => e e3.symm), Nat.add_zero]
/-- All faults of a box for which something is so of how many truths they are in, and all truths. -/
def ctL (so : Nat → Nat → Bool) (L N : Int) (T : List (List F3)) : List F3 := (allF L N).filter fun f => so (T.flatten.count f) T.length
def ctR (so : Nat → Nat → Bool) (L N : Int) (P : List F3) (F : Int) : List F3 := if akE L N P F true = 0 then ctL so L N (truL L N P F) else []
def sureS (c m : Nat) : Bool := decide (c = m)
def maybeS (c _ : Nat) : Bool := decide (0 < c)
theorem tru_len {L N F : Int} {P : List F3} (hv : vB L N P F = true) : ∀ s ∈ truL L N P F, s.length ≤ 3 := fun s hs => by
  obtain ⟨hL, hN, _, hF, _⟩ := vB_siz hv
  have := ((truL_mem hL hN).1 hs).1.2
  omega
theorem flat_len3 : ∀ (T : List (List F3)), (∀ s ∈ T, s.length ≤ 3) → T.flatten.length ≤ 3 * T.length
  | [], _ => by simp
  | s :: T, h => by
    have h1 := h s List.mem_cons_self
    have h2 := flat_len3 T (fun t ht => h t (List.mem_cons_of_mem _ ht))
    rw [List.flatten_cons, List.length_append, List.length_cons]; omega
theorem filt_yes {p : F3 → Bool} {T : List F3} {s : F3} (h : p s = true) : (T ++ [s]).filter p = T.filter p ++ [s] := by simp [List.filter_append, h]
theorem filt_no {p : F3 → Bool} {T : List F3} {s : F3} (h : p s = false) : (T ++ [s]).filter p = T.filter p := by simp [List.filter_append, h]
set_option maxRecDepth 100000 in
set_option maxHeartbeats 1000000 in
theorem sure_fn (c m : Nat) (w : World) : Calls Try.prog 68 #[.int .i64 (c : Int), .int .i64 (m : Int)] w fun e w' => e = .returned (.bool (sureS c m)) ∧ w = w' := by
  cases hB : ((c : Int) == (m : Int))
  · have h : ¬ c = m := fun e => by rw [e] at hB; simp at hB
    go_enter Try.func68, Try.ntmps68
    go_wp2
    go_ret
    exact ⟨ret_bool (by simp [sureS, h]), rfl⟩
  · have h : c = m := by have := beq_iff_eq.1 hB; omega
    have H := hid h
    clear h
    go_enter Try.func68, Try.ntmps68
    go_wp2
    go_ret
    exact ⟨ret_bool (by simp [sureS, H.out]), rfl⟩
set_option maxRecDepth 100000 in
set_option maxHeartbeats 1000000 in
theorem maybe_fn (c m : Nat) (w : World) : Calls Try.prog 70 #[.int .i64 (c : Int), .int .i64 (m : Int)] w fun e w' => e = .returned (.bool (maybeS c m)) ∧ w = w' := by
  by_cases h : 0 < c
  · have hI : (0 : Int) < (c : Int) := by omega
    go_enter Try.func70, Try.ntmps70
    go_wp2
    go_ret
    exact ⟨ret_bool (by simp [maybeS, h]), rfl⟩
  · have hc : c = 0 := by omega
    subst hc
    go_enter Try.func70, Try.ntmps70
    go_wp2
    go_ret
    exact ⟨ret_bool (by simp [maybeS]), rfl⟩
/-- What counted hands back. -/
def CtP (R : List F3) (E : Int) (w : World) (e : Ending) (w' : World) : Prop :=
  Below w.heap.size w w' ∧ ∃ (a : Option Addr) (c : Nat), e = .returned (.tuple #[.slice a R.length c, .int .i64 E]) ∧ Fz w' a R

set_option maxRecDepth 100000 in
set_option maxHeartbeats 8000000 in
theorem countedS_any (L N : Int) (aP : Option Addr) (cP : Nat) (P : List F3) (F : Int) (w : World) (hP : Pz w aP P) : Calls Try.prog 67 #[.agg #[.int .i64 L, .int .i64 N, .slice aP P.length cP, .int .i64 F], .func (.func 68) #[] #[]] w (CtP (ctR sureS L N P F) (akE L N P F true) w) := by
  obtain ⟨i0, hi0, iz0, iz1, iz2⟩ := info_parts info63
  obtain ⟨W, hW, hb, _, x0⟩ := boxes1 w #[.int .i64 L, .int .i64 N, .slice aP P.length cP, .int .i64 F] 24
  replace hP := hP.below hb (Nat.le_refl _)
  have hak := ask_any L N aP cP P F true W hP
  unfold AkP at hak
  have hk := fun (h : akE L N P F true = 0) => akE_ok h
  have e1 : Hid (akE L N P F true ≠ 0 → ctR sureS L N P F = []) := hid fun h => by unfold ctR; rw [if_neg h]
  have e2 : Hid (akE L N P F true = 0 → ctR sureS L N P F = ctL sureS L N (truL L N P F)) := hid fun h => by unfold ctR; rw [if_pos h]
  generalize ctR sureS L N P F = R at *
  have HK := hid hk
  obtain ⟨E, hE0⟩ : ∃ E, E = akE L N P F true := ⟨_, rfl⟩
  rw [← hE0] at hak e1 e2 HK ⊢
  clear hE0 hk
  by_cases hE : E = 0
  · obtain ⟨hv, _, hne, hT⟩ := HK.out hE
    obtain ⟨hL, hN, _⟩ := vB_siz hv
    obtain ⟨hO, hTl⟩ := tru_ok hv
    have ht3 := tru_len hv
    rw [hT] at hak
    have hR := e2.out hE
    subst hE
    generalize truL L N P F = T at *
    have hfo := fun v => faultsOf_any L N aP cP P F v hL hN
    have hal := allF_len hL hN
    have hai : ∀ f ∈ allF L N, f.i64 := fun f hf => (Okf.of hL hN hf).i64
    have hR2 : R = (allF L N).filter fun f => sureS (T.flatten.count f) T.length := hR
    generalize allF L N = AF at *
    obtain ⟨m, hm⟩ : ∃ m, m = T.length := ⟨_, rfl⟩
    rw [← hm] at hak hTl hR2
    have HM := hid hm
    have HO := hid hO
    have HT3 := hid ht3
    have HR := hid hR2
    have HAI := hid hai
    have hfl : T.flatten.length ≤ 2700000 := by have := flat_len3 T ht3; omega
    clear HK hT hO hm hne hv e1 e2 ht3 hR hR2 hai
    have hmm := @run_makeMap Try.prog
    have c0 := x0.cell 0 rfl; have c1 := x0.cell 1 rfl; have c2 := x0.cell 2 rfl; have c3 := x0.cell 3 rfl
    go_enter Try.func67, Try.ntmps67
    go_wp2_with fail
    refine hak.mono ?_
    rintro e W1 ⟨hb1, aT, cT, rfl, hrat⟩
    replace hb := hb.trans (hb1.mono hb.size)
    replace x0 := x0.below hb1
    have hbs := hb.size
    clear hW hb1 c0 c1 c2 c3 hak hP
    have hown0 := World.ownsMap_made (H := Unit) W1 Try.prog 63 (plainElem Try.prog 3)
    have hbm := below_one (w := W1) (.map #[] 0)
    obtain ⟨B, hB⟩ : ∃ B, B = W1.heap.size := ⟨_, rfl⟩
    rw [← hB] at hown0 hbm
    have HB := hid hB
    go_wp2
    rw [← hB]
    clear hB
    go_loopw [10, 12, 27, 33] (fun v10 v12 v27 v33 wr => ∃ (j nn : Nat) (D : DataW Unit), j ≤ m ∧ v27 = .int .i64 (j : Int) ∧ wr.ownsMap Try.prog 63 (plainElem Try.prog 3) B nn D ∧ nn ≤ 3 * j ∧ Hid (CntF D (T.take j).flatten) ∧ Below B W1 wr) (fun _ _ v27 _ _ => m - (intOf v27).toNat)
    case atStart => exact ⟨0, 0, _, Nat.zero_le _, rfl, hown0, Nat.le_refl _, hid CntF.nil, hbm⟩
    case round =>
      clear hown0 hbm
      obtain ⟨j, nn, D, hj, rfl, hown, hnn, hD, hbr⟩ := hrel
      by_cases hlt : j < m
      · obtain ⟨bR, oR, s, a', c', rfl, hbl, hc, hsc, hfy, hmem, _, htk⟩ := hrat.at (k := j) (by rw [← HM.out]; exact hlt)
        replace hc := (hbr.cell (p := ⟨bR, oR + j, none⟩) (by show bR < B; have := HB.out; omega)).trans hc
        have hfz1 := hfy.1
        have hjI : (j : Int) < m := by omega
        have hz0 : (0 : Int) ≤ (j : Int) := by omega
        have hsl := HT3.out s hmem
        obtain ⟨ls, hls⟩ : ∃ ls, ls = s.length := ⟨_, rfl⟩
        rw [← hls] at hc hsc hsl
        have HLS := hid hls
        have HTK := hid (flat_take htk.out)
        have hD0 := hid (show CntF D ((T.take j).flatten ++ s.take 0) by simpa using hD.out)
        have hfle := Nat.le_trans (flat_take_le T (j + 1)) hfl
        rw [flat_take htk.out, List.length_append, ← hls] at hfle
        clear hls hmem htk hD
        go_wp2
        clear hc
        clear hfy
        go_loopw [12, 33] (fun v12 v33 wi => ∃ (i nn : Nat) (D : DataW Unit), i ≤ ls ∧ v33 = .int .i64 (i : Int) ∧ wi.ownsMap Try.prog 63 (plainElem Try.prog 3) B nn D ∧ nn ≤ 3 * j + i ∧ Hid (CntF D ((T.take j).flatten ++ s.take i)) ∧ Below B W1 wi) (fun _ v33 _ => ls - (intOf v33).toNat)
        case atStart => exact ⟨0, nn, D, Nat.zero_le _, rfl, hown, by omega, hD0, hbr⟩
        case round =>
          clear hown hbr hD0 hnn
          obtain ⟨i, nn, D, hi, rfl, hown, hnn, hD, hbr⟩ := hrel
          by_cases hil : i < ls
          · obtain ⟨bF, oF, f, rfl, hbl2, hat3, hfi, _, _, _, htk⟩ := hfz1.at (k := i) (by rw [← HLS.out]; exact hil)
            obtain ⟨q0, q1, q2⟩ := hat3.eq (hbr.block bF (by have := HB.out; omega))
            have hiI : (i : Int) < ls := by omega
            have hzi : (0 : Int) ≤ (i : Int) := by omega
            obtain ⟨lf, hlf⟩ := keyF_some hfi
            have hatq := hD.out.at' f lf hlf
            have hD2 := hD.out.snoc hlf
            have heq : (T.take j).flatten ++ s.take i ++ [f] = (T.take j).flatten ++ s.take (i + 1) := by rw [List.append_assoc, htk.out]
            rw [heq] at hD2
            have hcl : ((T.take j).flatten ++ s.take i).count f ≤ 2700000 := by
              refine Nat.le_trans List.count_le_length ?_
              rw [List.length_append, List.length_take]; omega
            obtain ⟨q, hq⟩ : ∃ q, q = ((T.take j).flatten ++ s.take i).count f := ⟨_, rfl⟩
            rw [← hq] at hatq hD2 hcl
            have hwq : IntKind.i64.wrap ((q : Int) + 1) = ((q + 1 : Nat) : Int) := by rw [IntWalk.i64_in _ (by omega)]; omega
            rw [← hwq] at hD2
            have hnn9 : nn < maxLen := by unfold maxLen; omega
            have hwf : (Lit.int .i64 (IntKind.i64.wrap ((q : Int) + 1))).wf = true := by rw [hwq]; exact wf64 (by omega)
            have hba := below_one (w := wr) (.cells #[.int .i64 f.k, .int .i64 f.a, .int .i64 f.b] 63)
            have hbr2 := hbr.trans (hba.mono (by have := hbr.size; have := HB.out; omega))
            have x1 := Bx.new wr #[.int .i64 f.k, .int .i64 f.a, .int .i64 f.b] 63
            have hown2 := hown.alloc (.cells #[.int .i64 f.k, .int .i64 f.a, .int .i64 f.b] 63)
            have hBlt := hown.lt
            have HXa := hid (And.intro hbr2 (And.intro x1 (And.intro hown2 hatq)))
            have HD2 := hid hD2
            have HKf := hid hlf
            have HN9 := hid (And.intro hnn9 hwf)
            clear hbr hba hbr2 x1 hown hown2 hatq hat3 hD2 hlf hD hq heq htk hnn9 hwf hwq
            go_upto_region 11 with fail
            obtain ⟨hbr, x1, hown, hatq⟩ := HXa.out
            clear HXa
            generalize wr.heap.size = sa at *
            generalize World.alloc _ _ = Va at *
            clear q0 q1 q2
            have hbd := (Below.refl Va.heap.size Va).drew
            have hownY := hown.drew
            have hbrY := hbr.trans (hbd.mono (by have := hbr.size; have := HB.out; omega))
            have hlkY : (Instr.lookup 94 (.map (some B)) (.agg #[.int .i64 f.k, .int .i64 f.a, .int .i64 f.b]) false).run Try.prog Va.drew = .ok (.int .i64 (q : Int)) Va.drew := by
              obtain ⟨c, hr, ha, _⟩ := hownY.lookup_int law63 under94 Try.underlying3 (zero3 _) HKf.out
              have : c = (q : Int) := by
                have := ha.symm.trans hatq
                simp only [DataW.lit.injEq, Lit.int.injEq, true_and] at this
                exact this
              rw [← this]; exact hr
            have S0 := And.intro (x1.below hbd) hlkY
            obtain ⟨v0, sv, w1, hme, hg4, hs4, hlk4, hst⟩ := entry_law klaw63 under94 Try.underlying3 zero3 hownY HN9.out.1 HKf.out hatq
            have HE4 := hid (And.intro hg4 (And.intro hlk4 hst))
            clear hbd hown hbr x1 hlkY hg4 hlk4 hst hs4 hatq
            have hds : Va.drew.heap.size = Va.heap.size := rfl
            refine wp_region_head 6 (fun w' => Bx w' sa #[.int .i64 f.k, .int .i64 f.a, .int .i64 f.b] 63 ∧ (Instr.lookup 94 (.map (some B)) (.agg #[.int .i64 f.k, .int .i64 f.a, .int .i64 f.b]) false).run Try.prog w' = .ok (.int .i64 (q : Int)) w') (by kernel_rfl) rfl ?_
            generalize Va.drew = Y0 at *
            refine HeadAt.take (i := 0) (.map (some B)) rfl (by kernel_rfl) (.inl ⟨rfl, fun _ _ => by simp [go_sem]⟩) S0 ?_
            (try simp only [Act.put, List.getElem_toArray, List.getElem_cons_succ, List.getElem_cons_zero, List.setIfInBounds_toArray, List.set_cons_succ, List.set_cons_zero])
            refine HeadAt.take (i := 1) (.agg #[.int .i64 f.k, .int .i64 f.a, .int .i64 f.b]) rfl (by kernel_rfl) (.inl ⟨rfl, fun w' z => ?_⟩) S0 ?_
            · (have z0 := z.1.cell 0 rfl; have z1 := z.1.cell 1 rfl; have z2 := z.1.cell 2 rfl; simp [go_sem, z0, z1, z2])
            (try simp only [Act.put, List.getElem_toArray, List.getElem_cons_succ, List.getElem_cons_zero, List.setIfInBounds_toArray, List.set_cons_succ, List.set_cons_zero])
            refine HeadAt.take (i := 2) (.int .i64 (q : Int)) rfl (by kernel_rfl) (.inl ⟨rfl, fun w' z => ?_⟩) S0 ?_
            · (have z3 := z.2; simp [go_sem, z3])
            (try simp only [Act.put, List.getElem_toArray, List.getElem_cons_succ, List.getElem_cons_zero, List.setIfInBounds_toArray, List.set_cons_succ, List.set_cons_zero])
            refine HeadAt.take (i := 3) (.int .i64 (IntKind.i64.wrap ((q : Int) + 1))) rfl (by kernel_rfl) (.inl ⟨rfl, fun _ _ => by simp [go_sem]⟩) S0 ?_
            (try simp only [Act.put, List.getElem_toArray, List.getElem_cons_succ, List.getElem_cons_zero, List.setIfInBounds_toArray, List.set_cons_succ, List.set_cons_zero])
            refine HeadAt.one (i := 4) rfl (by kernel_rfl) ?_
            generalize hK : Upto _ _ = K0
            (try simp only [Act.put, List.getElem_toArray, List.getElem_cons_succ, List.getElem_cons_zero, List.setIfInBounds_toArray, List.set_cons_succ, List.set_cons_zero])
            go_wp2_with fail
            obtain ⟨hg4, hlk4, hst⟩ := HE4.out
            replace S0 := And.intro (S0.1.gro hg4 (fun e => by simp at e; omega)) hlk4
            subst hK
            refine ⟨S0, ?_⟩
            (try simp only [Act.put, List.getElem_toArray, List.getElem_cons_succ, List.getElem_cons_zero, List.setIfInBounds_toArray, List.set_cons_succ, List.set_cons_zero])
            refine HeadAt.take (i := 5) (sv) rfl (by kernel_rfl) (.inl ⟨rfl, fun _ _ => by simp [go_sem]⟩) S0 ?_
            (try simp only [Act.put, List.getElem_toArray, List.getElem_cons_succ, List.getElem_cons_zero, List.setIfInBounds_toArray, List.set_cons_succ, List.set_cons_zero])
            refine HeadAt.done (by kernel_rfl) ?_
            (try simp only [Act.put, List.drop_succ_cons, List.drop_zero, List.getElem_toArray, List.getElem_cons_succ, List.getElem_cons_zero])
            obtain ⟨w3, hes, hown3, hg3⟩ := hst w1 (IntKind.i64.wrap ((q : Int) + 1)) rfl HN9.out.2
            have hbr3 := (hbrY.grown hg4 (by have := hbrY.size; have := HB.out; omega) (fun k hk => by cases hk; exact Nat.le_refl _)).grown hg3 (by have := hbrY.size; have := hg4.size; have := HB.out; omega) (fun k hk => by cases hk; exact Nat.le_refl _)
            have HX := hid (And.intro hown3 hbr3)
            clear hown3 hbr3 hg3 hg4 hst hlk4 S0 hownY hbrY HE4
            go_wp2_with fail
            refine NoPanic.normal ?_
            go_wp2
            go_roundw
            case rel =>
              obtain ⟨hown, hbr⟩ := HX.out
              exact ⟨i + 1, nn + 1, _, by omega, by go_num, hown, by omega, HD2, hbr⟩
            case measure => simp [intOf]; omega
          · obtain rfl : i = ls := by omega
            have e : (T.take j).flatten ++ s.take i = (T.take (j + 1)).flatten := by rw [HLS.out, List.take_length, HTK.out]
            have hD5 := hD.out
            rw [e] at hD5
            have HD5 := hid hD5
            have hiI : ¬ (i : Int) < (i : Int) := by omega
            clear e hD hD5
            go_wp2
            go_roundw
            case rel => exact ⟨j + 1, nn, D, by omega, by go_num, hown, by omega, HD5, hbr⟩
            case measure => simp [intOf]; omega
      · obtain rfl : j = m := by omega
        have hjI : ¬ (j : Int) < (j : Int) := by omega
        have et : T.take j = T := by rw [HM.out, List.take_length]
        have hD5 := hD.out
        rw [et] at hD5
        have HD5 := hid hD5
        have hbw := hb.trans (hbr.mono (by have := HB.out; omega))
        have xr := x0.below (by rw [← HB.out]; exact hbr)
        have c0 := xr.cell 0 rfl; have c1 := xr.cell 1 rfl; have c2 := xr.cell 2 rfl; have c3 := xr.cell 3 rfl
        clear et hD hD5 hnn hrat xr hbr
        go_wp2_with fail
        refine (hfo _).mono ?_
        rintro e V1 ⟨hb3, aF, cF, rfl, hcF, hF⟩
        replace hown := hown.kept (Below.gr' hb3) (by simp)
        replace hbw := hbw.trans (hb3.mono hbw.size)
        have hBV := hown.lt
        obtain ⟨n, hn⟩ : ∃ n, n = AF.length := ⟨_, rfl⟩
        rw [← hn] at hal ⊢
        have HNN := hid hn
        have hvs := hbw.size
        clear hb3 c0 c1 c2 c3 hfo hn hcF
        go_wp2
        go_loopw [13, 15, 48] (fun v13 v15 v48 wi => ∃ (i q : Nat) (a : Option Addr) (c : Nat), i ≤ n ∧ v48 = .int .i64 (i : Int) ∧ Hid (q = ((AF.take i).filter fun f => sureS (T.flatten.count f) j).length) ∧ v13 = .slice a q c ∧ wi.ownsRow V1.heap.size 63 3 (.slice a q c) q (fcells ((AF.take i).filter fun f => sureS (T.flatten.count f) j)) ∧ Below V1.heap.size V1 wi) (fun _ _ v48 _ => n - (intOf v48).toNat)
        case atStart => exact ⟨0, 0, none, 0, Nat.zero_le _, rfl, hid rfl, rfl, World.ownsRow_nil _ _ _ _, Below.refl _ _⟩
        case round =>
          obtain ⟨i, q, a, c, hi, rfl, hq, rfl, hrow, hbi⟩ := hrel
          by_cases hil : i < n
          · have hqi : q ≤ i := by
              have h1 := List.length_filter_le (fun f => sureS (T.flatten.count f) j) (AF.take i)
              rw [List.length_take] at h1
              have := hq.out; omega
            obtain ⟨bF, oF, f, rfl, hbl2, ⟨q0, q1, q2⟩, hfi, hfm, _, _, htk⟩ := (hF.1.below hbi (Nat.le_refl _)).at (k := i) (by rw [← HNN.out]; exact hil)
            have hiI : (i : Int) < n := by omega
            have hzi : (0 : Int) ≤ (i : Int) := by omega
            obtain ⟨lf, hlf⟩ := keyF_some hfi
            have hatq := HD5.out.at' f lf hlf
            have hcl : T.flatten.count f ≤ 2700000 := Nat.le_trans List.count_le_length hfl
            have hso := fun v => sure_fn (T.flatten.count f) j v
            have hyes := fun h => filt_yes (p := fun f => sureS (T.flatten.count f) j) (T := AF.take i) (s := f) h
            have hno := fun h => filt_no (p := fun f => sureS (T.flatten.count f) j) (T := AF.take i) (s := f) h
            rw [← htk.out] at hyes hno
            obtain ⟨p, hp⟩ : ∃ p, p = T.flatten.count f := ⟨_, rfl⟩
            simp only [← hp] at hyes hno
            rw [← hp] at hatq hso hcl
            generalize sureS p j = r at *
            have hba := below_one (w := wr) (.cells #[.int .i64 f.k, .int .i64 f.a, .int .i64 f.b] 63)
            have hbi2 := hbi.trans (hba.mono hbi.size)
            have x1 := Bx.new wr #[.int .i64 f.k, .int .i64 f.a, .int .i64 f.b] 63
            have hmap : (wr.alloc (.cells #[.int .i64 f.k, .int .i64 f.a, .int .i64 f.b] 63)).ownsMap Try.prog 63 (plainElem Try.prog 3) B nn D := own_at_block hown (hbi2.block B hBV)
            have hrow2 := own_below2 hrow hba
            have HXa := hid (And.intro hbi2 (And.intro x1 (And.intro hmap hrow2)))
            have HKf := hid hlf
            have HYN := hid (And.intro hyes hno)
            have HFI := hid hfi
            clear hbi hba hbi2 x1 hmap hrow hrow2 hlf hyes hno hp htk hfi
            go_upto_region 18 with fail
            obtain ⟨hbi, x1, hmap, hrow⟩ := HXa.out
            clear HXa
            generalize wr.heap.size = sa at *
            generalize World.alloc _ _ = Va at *
            clear q0 q1 q2
            have d0 := x1.cell 0 rfl; have d1 := x1.cell 1 rfl; have d2 := x1.cell 2 rfl
            have hlk : (Instr.lookup 94 (.map (some B)) (.agg #[.int .i64 f.k, .int .i64 f.a, .int .i64 f.b]) false).run Try.prog Va = .ok (.int .i64 (p : Int)) Va := by
              obtain ⟨c, hr, ha, _⟩ := hmap.lookup_int law63 under94 Try.underlying3 (zero3 _) HKf.out
              have : c = (p : Int) := by
                have := ha.symm.trans hatq
                simp only [DataW.lit.injEq, Lit.int.injEq, true_and] at this
                exact this
              rw [← this]; exact hr
            clear hatq
            go_wp2_with fail
            refine (hso _).mono ?_
            rintro e V2 ⟨rfl, rfl⟩
            clear hso hlk
            cases r
            · have hfe := HYN.out.2 rfl
              have HX := hid (And.intro hrow hbi)
              clear hrow hbi x1 d0 d1 d2 hmap
              go_wp2
              go_roundw
              case rel =>
                obtain ⟨hrow, hbi⟩ := HX.out
                exact ⟨i + 1, q, a, c, by omega, by go_num, hid (by rw [hfe]; exact hq.out), rfl, by rw [hfe]; exact hrow, hbi⟩
              case measure => simp [intOf]; omega
            · have hfe := HYN.out.1 rfl
              have hba := below_one (w := Va) (.cells #[.int .i64 f.k, .int .i64 f.a, .int .i64 f.b] 63)
              have hcls := Cls.of_bx (Bx.new Va #[.int .i64 f.k, .int .i64 f.a, .int .i64 f.b] 63)
              have hrow1 := own_below2 hrow hba
              have hge := own_ge2 hrow
              have hsz := hbi.size
              have HFE := hid hfe
              clear hfe hmap
              go_wp2_with (at_builtin; refine wpList_appAt rfl (.tmp 59) (.tmp 61) 25 rfl V1.heap.size 63 i0 (.agg #[.int .i64 0, .int .i64 0, .int .i64 0]) 3 24 under25 hi0 iz0 iz1 iz2 rfl (by decide) (.slice a q c) q _ rfl hrow1 (some ⟨Va.heap.size, 0, none⟩) 1 1 (fcells [f]) rfl rfl hcls (fcells_one [f]) (by unfold maxLen; omega) (by omega) (by simp; omega) ?_; intro v3 W3 hown3 hg3 hat)
              obtain ⟨a3, c3, rfl⟩ := own_slice2 hown3
              have hb3 : Below V1.heap.size V1 W3 := (hbi.trans (hba.mono hsz)).grown hg3 (by simp; omega) hge
              rw [← fcells_app, ← HFE.out] at hown3
              have hq3 := hid (show q + 1 = ((AF.take (i + 1)).filter fun f => sureS (T.flatten.count f) j).length by rw [HFE.out, List.length_append, ← hq.out]; rfl)
              have HX := hid (And.intro hown3 hb3)
              clear hrow hbi hba hcls hrow1 hge hown3 hg3 hat hb3 hq x1 d0 d1 d2 HFE HYN
              go_wp2
              go_roundw
              case rel =>
                obtain ⟨hrow, hbi⟩ := HX.out
                exact ⟨i + 1, q + 1, a3, c3, by omega, by go_num, hq3, rfl, hrow, hbi⟩
              case measure => simp [intOf]; omega
          · obtain rfl : i = n := by omega
            have ea : AF.take i = AF := by rw [HNN.out, List.take_length]
            have hq2 := hq.out
            rw [ea] at hrow hq2
            rw [← HR.out] at hrow hq2
            have hRl : R.length ≤ 60 := by
              rw [HR.out]; exact Nat.le_trans (List.length_filter_le _ _) (by rw [← HNN.out]; exact hal)
            have hres : CtP R 0 w (.returned (.tuple #[.slice a q c, .int .i64 0])) wr := by
              subst hq2
              exact ⟨hbw.trans (hbi.mono hvs), a, c, rfl, (Fy.of_own hrow (by omega) (fun x hx => HAI.out x (by rw [HR.out] at hx; exact (List.mem_filter.1 hx).1))).1⟩
            have HRR := hid hres
            have hiI : ¬ (i : Int) < (i : Int) := by omega
            clear hres hrow hq hq2 ea hRl hbi
            go_wp2
            go_ret2
            exact HRR.out
  · have hB : (E != 0) = true := by simpa using hE
    have hR := e1.out hE
    subst hR
    generalize akT L N P F true = T at *
    obtain ⟨tn, htn⟩ : ∃ tn, tn = T.length := ⟨_, rfl⟩
    rw [← htn] at hak
    clear e1 e2 HK hE htn
    have c0 := x0.cell 0 rfl; have c1 := x0.cell 1 rfl; have c2 := x0.cell 2 rfl; have c3 := x0.cell 3 rfl
    go_enter Try.func67, Try.ntmps67
    go_wp2_with fail
    refine hak.mono ?_
    rintro e W1 ⟨hb1, aT, cT, rfl, hrat⟩
    replace hb := hb.trans (hb1.mono hb.size)
    clear hW hb1 c0 c1 c2 c3 hak hP x0 hrat
    go_wp2
    go_ret2
    exact ⟨hb, none, 0, rfl, Fz.nil _ _⟩

set_option maxRecDepth 100000 in
set_option maxHeartbeats 8000000 in
theorem countedM_any (L N : Int) (aP : Option Addr) (cP : Nat) (P : List F3) (F : Int) (w : World) (hP : Pz w aP P) : Calls Try.prog 67 #[.agg #[.int .i64 L, .int .i64 N, .slice aP P.length cP, .int .i64 F], .func (.func 70) #[] #[]] w (CtP (ctR maybeS L N P F) (akE L N P F true) w) := by
  obtain ⟨i0, hi0, iz0, iz1, iz2⟩ := info_parts info63
  obtain ⟨W, hW, hb, _, x0⟩ := boxes1 w #[.int .i64 L, .int .i64 N, .slice aP P.length cP, .int .i64 F] 24
  replace hP := hP.below hb (Nat.le_refl _)
  have hak := ask_any L N aP cP P F true W hP
  unfold AkP at hak
  have hk := fun (h : akE L N P F true = 0) => akE_ok h
  have e1 : Hid (akE L N P F true ≠ 0 → ctR maybeS L N P F = []) := hid fun h => by unfold ctR; rw [if_neg h]
  have e2 : Hid (akE L N P F true = 0 → ctR maybeS L N P F = ctL maybeS L N (truL L N P F)) := hid fun h => by unfold ctR; rw [if_pos h]
  generalize ctR maybeS L N P F = R at *
  have HK := hid hk
  obtain ⟨E, hE0⟩ : ∃ E, E = akE L N P F true := ⟨_, rfl⟩
  rw [← hE0] at hak e1 e2 HK ⊢
  clear hE0 hk
  by_cases hE : E = 0
  · obtain ⟨hv, _, hne, hT⟩ := HK.out hE
    obtain ⟨hL, hN, _⟩ := vB_siz hv
    obtain ⟨hO, hTl⟩ := tru_ok hv
    have ht3 := tru_len hv
    rw [hT] at hak
    have hR := e2.out hE
    subst hE
    generalize truL L N P F = T at *
    have hfo := fun v => faultsOf_any L N aP cP P F v hL hN
    have hal := allF_len hL hN
    have hai : ∀ f ∈ allF L N, f.i64 := fun f hf => (Okf.of hL hN hf).i64
    have hR2 : R = (allF L N).filter fun f => maybeS (T.flatten.count f) T.length := hR
    generalize allF L N = AF at *
    obtain ⟨m, hm⟩ : ∃ m, m = T.length := ⟨_, rfl⟩
    rw [← hm] at hak hTl hR2
    have HM := hid hm
    have HO := hid hO
    have HT3 := hid ht3
    have HR := hid hR2
    have HAI := hid hai
    have hfl : T.flatten.length ≤ 2700000 := by have := flat_len3 T ht3; omega
    clear HK hT hO hm hne hv e1 e2 ht3 hR hR2 hai
    have hmm := @run_makeMap Try.prog
    have c0 := x0.cell 0 rfl; have c1 := x0.cell 1 rfl; have c2 := x0.cell 2 rfl; have c3 := x0.cell 3 rfl
    go_enter Try.func67, Try.ntmps67
    go_wp2_with fail
    refine hak.mono ?_
    rintro e W1 ⟨hb1, aT, cT, rfl, hrat⟩
    replace hb := hb.trans (hb1.mono hb.size)
    replace x0 := x0.below hb1
    have hbs := hb.size
    clear hW hb1 c0 c1 c2 c3 hak hP
    have hown0 := World.ownsMap_made (H := Unit) W1 Try.prog 63 (plainElem Try.prog 3)
    have hbm := below_one (w := W1) (.map #[] 0)
    obtain ⟨B, hB⟩ : ∃ B, B = W1.heap.size := ⟨_, rfl⟩
    rw [← hB] at hown0 hbm
    have HB := hid hB
    go_wp2
    rw [← hB]
    clear hB
    go_loopw [10, 12, 27, 33] (fun v10 v12 v27 v33 wr => ∃ (j nn : Nat) (D : DataW Unit), j ≤ m ∧ v27 = .int .i64 (j : Int) ∧ wr.ownsMap Try.prog 63 (plainElem Try.prog 3) B nn D ∧ nn ≤ 3 * j ∧ Hid (CntF D (T.take j).flatten) ∧ Below B W1 wr) (fun _ _ v27 _ _ => m - (intOf v27).toNat)
    case atStart => exact ⟨0, 0, _, Nat.zero_le _, rfl, hown0, Nat.le_refl _, hid CntF.nil, hbm⟩
    case round =>
      clear hown0 hbm
      obtain ⟨j, nn, D, hj, rfl, hown, hnn, hD, hbr⟩ := hrel
      by_cases hlt : j < m
      · obtain ⟨bR, oR, s, a', c', rfl, hbl, hc, hsc, hfy, hmem, _, htk⟩ := hrat.at (k := j) (by rw [← HM.out]; exact hlt)
        replace hc := (hbr.cell (p := ⟨bR, oR + j, none⟩) (by show bR < B; have := HB.out; omega)).trans hc
        have hfz1 := hfy.1
        have hjI : (j : Int) < m := by omega
        have hz0 : (0 : Int) ≤ (j : Int) := by omega
        have hsl := HT3.out s hmem
        obtain ⟨ls, hls⟩ : ∃ ls, ls = s.length := ⟨_, rfl⟩
        rw [← hls] at hc hsc hsl
        have HLS := hid hls
        have HTK := hid (flat_take htk.out)
        have hD0 := hid (show CntF D ((T.take j).flatten ++ s.take 0) by simpa using hD.out)
        have hfle := Nat.le_trans (flat_take_le T (j + 1)) hfl
        rw [flat_take htk.out, List.length_append, ← hls] at hfle
        clear hls hmem htk hD
        go_wp2
        clear hc
        clear hfy
        go_loopw [12, 33] (fun v12 v33 wi => ∃ (i nn : Nat) (D : DataW Unit), i ≤ ls ∧ v33 = .int .i64 (i : Int) ∧ wi.ownsMap Try.prog 63 (plainElem Try.prog 3) B nn D ∧ nn ≤ 3 * j + i ∧ Hid (CntF D ((T.take j).flatten ++ s.take i)) ∧ Below B W1 wi) (fun _ v33 _ => ls - (intOf v33).toNat)
        case atStart => exact ⟨0, nn, D, Nat.zero_le _, rfl, hown, by omega, hD0, hbr⟩
        case round =>
          clear hown hbr hD0 hnn
          obtain ⟨i, nn, D, hi, rfl, hown, hnn, hD, hbr⟩ := hrel
          by_cases hil : i < ls
          · obtain ⟨bF, oF, f, rfl, hbl2, hat3, hfi, _, _, _, htk⟩ := hfz1.at (k := i) (by rw [← HLS.out]; exact hil)
            obtain ⟨q0, q1, q2⟩ := hat3.eq (hbr.block bF (by have := HB.out; omega))
            have hiI : (i : Int) < ls := by omega
            have hzi : (0 : Int) ≤ (i : Int) := by omega
            obtain ⟨lf, hlf⟩ := keyF_some hfi
            have hatq := hD.out.at' f lf hlf
            have hD2 := hD.out.snoc hlf
            have heq : (T.take j).flatten ++ s.take i ++ [f] = (T.take j).flatten ++ s.take (i + 1) := by rw [List.append_assoc, htk.out]
            rw [heq] at hD2
            have hcl : ((T.take j).flatten ++ s.take i).count f ≤ 2700000 := by
              refine Nat.le_trans List.count_le_length ?_
              rw [List.length_append, List.length_take]; omega
            obtain ⟨q, hq⟩ : ∃ q, q = ((T.take j).flatten ++ s.take i).count f := ⟨_, rfl⟩
            rw [← hq] at hatq hD2 hcl
            have hwq : IntKind.i64.wrap ((q : Int) + 1) = ((q + 1 : Nat) : Int) := by rw [IntWalk.i64_in _ (by omega)]; omega
            rw [← hwq] at hD2
            have hnn9 : nn < maxLen := by unfold maxLen; omega
            have hwf : (Lit.int .i64 (IntKind.i64.wrap ((q : Int) + 1))).wf = true := by rw [hwq]; exact wf64 (by omega)
            have hba := below_one (w := wr) (.cells #[.int .i64 f.k, .int .i64 f.a, .int .i64 f.b] 63)
            have hbr2 := hbr.trans (hba.mono (by have := hbr.size; have := HB.out; omega))
            have x1 := Bx.new wr #[.int .i64 f.k, .int .i64 f.a, .int .i64 f.b] 63
            have hown2 := hown.alloc (.cells #[.int .i64 f.k, .int .i64 f.a, .int .i64 f.b] 63)
            have hBlt := hown.lt
            have HXa := hid (And.intro hbr2 (And.intro x1 (And.intro hown2 hatq)))
            have HD2 := hid hD2
            have HKf := hid hlf
            have HN9 := hid (And.intro hnn9 hwf)
            clear hbr hba hbr2 x1 hown hown2 hatq hat3 hD2 hlf hD hq heq htk hnn9 hwf hwq
            go_upto_region 11 with fail
            obtain ⟨hbr, x1, hown, hatq⟩ := HXa.out
            clear HXa
            generalize wr.heap.size = sa at *
            generalize World.alloc _ _ = Va at *
            clear q0 q1 q2
            have hbd := (Below.refl Va.heap.size Va).drew
            have hownY := hown.drew
            have hbrY := hbr.trans (hbd.mono (by have := hbr.size; have := HB.out; omega))
            have hlkY : (Instr.lookup 94 (.map (some B)) (.agg #[.int .i64 f.k, .int .i64 f.a, .int .i64 f.b]) false).run Try.prog Va.drew = .ok (.int .i64 (q : Int)) Va.drew := by
              obtain ⟨c, hr, ha, _⟩ := hownY.lookup_int law63 under94 Try.underlying3 (zero3 _) HKf.out
              have : c = (q : Int) := by
                have := ha.symm.trans hatq
                simp only [DataW.lit.injEq, Lit.int.injEq, true_and] at this
                exact this
              rw [← this]; exact hr
            have S0 := And.intro (x1.below hbd) hlkY
            obtain ⟨v0, sv, w1, hme, hg4, hs4, hlk4, hst⟩ := entry_law klaw63 under94 Try.underlying3 zero3 hownY HN9.out.1 HKf.out hatq
            have HE4 := hid (And.intro hg4 (And.intro hlk4 hst))
            clear hbd hown hbr x1 hlkY hg4 hlk4 hst hs4 hatq
            have hds : Va.drew.heap.size = Va.heap.size := rfl
            refine wp_region_head 6 (fun w' => Bx w' sa #[.int .i64 f.k, .int .i64 f.a, .int .i64 f.b] 63 ∧ (Instr.lookup 94 (.map (some B)) (.agg #[.int .i64 f.k, .int .i64 f.a, .int .i64 f.b]) false).run Try.prog w' = .ok (.int .i64 (q : Int)) w') (by kernel_rfl) rfl ?_
            generalize Va.drew = Y0 at *
            refine HeadAt.take (i := 0) (.map (some B)) rfl (by kernel_rfl) (.inl ⟨rfl, fun _ _ => by simp [go_sem]⟩) S0 ?_
            (try simp only [Act.put, List.getElem_toArray, List.getElem_cons_succ, List.getElem_cons_zero, List.setIfInBounds_toArray, List.set_cons_succ, List.set_cons_zero])
            refine HeadAt.take (i := 1) (.agg #[.int .i64 f.k, .int .i64 f.a, .int .i64 f.b]) rfl (by kernel_rfl) (.inl ⟨rfl, fun w' z => ?_⟩) S0 ?_
            · (have z0 := z.1.cell 0 rfl; have z1 := z.1.cell 1 rfl; have z2 := z.1.cell 2 rfl; simp [go_sem, z0, z1, z2])
            (try simp only [Act.put, List.getElem_toArray, List.getElem_cons_succ, List.getElem_cons_zero, List.setIfInBounds_toArray, List.set_cons_succ, List.set_cons_zero])
            refine HeadAt.take (i := 2) (.int .i64 (q : Int)) rfl (by kernel_rfl) (.inl ⟨rfl, fun w' z => ?_⟩) S0 ?_
            · (have z3 := z.2; simp [go_sem, z3])
            (try simp only [Act.put, List.getElem_toArray, List.getElem_cons_succ, List.getElem_cons_zero, List.setIfInBounds_toArray, List.set_cons_succ, List.set_cons_zero])
            refine HeadAt.take (i := 3) (.int .i64 (IntKind.i64.wrap ((q : Int) + 1))) rfl (by kernel_rfl) (.inl ⟨rfl, fun _ _ => by simp [go_sem]⟩) S0 ?_
            (try simp only [Act.put, List.getElem_toArray, List.getElem_cons_succ, List.getElem_cons_zero, List.setIfInBounds_toArray, List.set_cons_succ, List.set_cons_zero])
            refine HeadAt.one (i := 4) rfl (by kernel_rfl) ?_
            generalize hK : Upto _ _ = K0
            (try simp only [Act.put, List.getElem_toArray, List.getElem_cons_succ, List.getElem_cons_zero, List.setIfInBounds_toArray, List.set_cons_succ, List.set_cons_zero])
            go_wp2_with fail
            obtain ⟨hg4, hlk4, hst⟩ := HE4.out
            replace S0 := And.intro (S0.1.gro hg4 (fun e => by simp at e; omega)) hlk4
            subst hK
            refine ⟨S0, ?_⟩
            (try simp only [Act.put, List.getElem_toArray, List.getElem_cons_succ, List.getElem_cons_zero, List.setIfInBounds_toArray, List.set_cons_succ, List.set_cons_zero])
            refine HeadAt.take (i := 5) (sv) rfl (by kernel_rfl) (.inl ⟨rfl, fun _ _ => by simp [go_sem]⟩) S0 ?_
            (try simp only [Act.put, List.getElem_toArray, List.getElem_cons_succ, List.getElem_cons_zero, List.setIfInBounds_toArray, List.set_cons_succ, List.set_cons_zero])
            refine HeadAt.done (by kernel_rfl) ?_
            (try simp only [Act.put, List.drop_succ_cons, List.drop_zero, List.getElem_toArray, List.getElem_cons_succ, List.getElem_cons_zero])
            obtain ⟨w3, hes, hown3, hg3⟩ := hst w1 (IntKind.i64.wrap ((q : Int) + 1)) rfl HN9.out.2
            have hbr3 := (hbrY.grown hg4 (by have := hbrY.size; have := HB.out; omega) (fun k hk => by cases hk; exact Nat.le_refl _)).grown hg3 (by have := hbrY.size; have := hg4.size; have := HB.out; omega) (fun k hk => by cases hk; exact Nat.le_refl _)
            have HX := hid (And.intro hown3 hbr3)
            clear hown3 hbr3 hg3 hg4 hst hlk4 S0 hownY hbrY HE4
            go_wp2_with fail
            refine NoPanic.normal ?_
            go_wp2
            go_roundw
            case rel =>
              obtain ⟨hown, hbr⟩ := HX.out
              exact ⟨i + 1, nn + 1, _, by omega, by go_num, hown, by omega, HD2, hbr⟩
            case measure => simp [intOf]; omega
          · obtain rfl : i = ls := by omega
            have e : (T.take j).flatten ++ s.take i = (T.take (j + 1)).flatten := by rw [HLS.out, List.take_length, HTK.out]
            have hD5 := hD.out
            rw [e] at hD5
            have HD5 := hid hD5
            have hiI : ¬ (i : Int) < (i : Int) := by omega
            clear e hD hD5
            go_wp2
            go_roundw
            case rel => exact ⟨j + 1, nn, D, by omega, by go_num, hown, by omega, HD5, hbr⟩
            case measure => simp [intOf]; omega
      · obtain rfl : j = m := by omega
        have hjI : ¬ (j : Int) < (j : Int) := by omega
        have et : T.take j = T := by rw [HM.out, List.take_length]
        have hD5 := hD.out
        rw [et] at hD5
        have HD5 := hid hD5
        have hbw := hb.trans (hbr.mono (by have := HB.out; omega))
        have xr := x0.below (by rw [← HB.out]; exact hbr)
        have c0 := xr.cell 0 rfl; have c1 := xr.cell 1 rfl; have c2 := xr.cell 2 rfl; have c3 := xr.cell 3 rfl
        clear et hD hD5 hnn hrat xr hbr
        go_wp2_with fail
        refine (hfo _).mono ?_
        rintro e V1 ⟨hb3, aF, cF, rfl, hcF, hF⟩
        replace hown := hown.kept (Below.gr' hb3) (by simp)
        replace hbw := hbw.trans (hb3.mono hbw.size)
        have hBV := hown.lt
        obtain ⟨n, hn⟩ : ∃ n, n = AF.length := ⟨_, rfl⟩
        rw [← hn] at hal ⊢
        have HNN := hid hn
        have hvs := hbw.size
        clear hb3 c0 c1 c2 c3 hfo hn hcF
        go_wp2
        go_loopw [13, 15, 48] (fun v13 v15 v48 wi => ∃ (i q : Nat) (a : Option Addr) (c : Nat), i ≤ n ∧ v48 = .int .i64 (i : Int) ∧ Hid (q = ((AF.take i).filter fun f => maybeS (T.flatten.count f) j).length) ∧ v13 = .slice a q c ∧ wi.ownsRow V1.heap.size 63 3 (.slice a q c) q (fcells ((AF.take i).filter fun f => maybeS (T.flatten.count f) j)) ∧ Below V1.heap.size V1 wi) (fun _ _ v48 _ => n - (intOf v48).toNat)
        case atStart => exact ⟨0, 0, none, 0, Nat.zero_le _, rfl, hid rfl, rfl, World.ownsRow_nil _ _ _ _, Below.refl _ _⟩
        case round =>
          obtain ⟨i, q, a, c, hi, rfl, hq, rfl, hrow, hbi⟩ := hrel
          by_cases hil : i < n
          · have hqi : q ≤ i := by
              have h1 := List.length_filter_le (fun f => maybeS (T.flatten.count f) j) (AF.take i)
              rw [List.length_take] at h1
              have := hq.out; omega
            obtain ⟨bF, oF, f, rfl, hbl2, ⟨q0, q1, q2⟩, hfi, hfm, _, _, htk⟩ := (hF.1.below hbi (Nat.le_refl _)).at (k := i) (by rw [← HNN.out]; exact hil)
            have hiI : (i : Int) < n := by omega
            have hzi : (0 : Int) ≤ (i : Int) := by omega
            obtain ⟨lf, hlf⟩ := keyF_some hfi
            have hatq := HD5.out.at' f lf hlf
            have hcl : T.flatten.count f ≤ 2700000 := Nat.le_trans List.count_le_length hfl
            have hso := fun v => maybe_fn (T.flatten.count f) j v
            have hyes := fun h => filt_yes (p := fun f => maybeS (T.flatten.count f) j) (T := AF.take i) (s := f) h
            have hno := fun h => filt_no (p := fun f => maybeS (T.flatten.count f) j) (T := AF.take i) (s := f) h
            rw [← htk.out] at hyes hno
            obtain ⟨p, hp⟩ : ∃ p, p = T.flatten.count f := ⟨_, rfl⟩
            simp only [← hp] at hyes hno
            rw [← hp] at hatq hso hcl
            generalize maybeS p j = r at *
            have hba := below_one (w := wr) (.cells #[.int .i64 f.k, .int .i64 f.a, .int .i64 f.b] 63)
            have hbi2 := hbi.trans (hba.mono hbi.size)
            have x1 := Bx.new wr #[.int .i64 f.k, .int .i64 f.a, .int .i64 f.b] 63
            have hmap : (wr.alloc (.cells #[.int .i64 f.k, .int .i64 f.a, .int .i64 f.b] 63)).ownsMap Try.prog 63 (plainElem Try.prog 3) B nn D := own_at_block hown (hbi2.block B hBV)
            have hrow2 := own_below2 hrow hba
            have HXa := hid (And.intro hbi2 (And.intro x1 (And.intro hmap hrow2)))
            have HKf := hid hlf
            have HYN := hid (And.intro hyes hno)
            have HFI := hid hfi
            clear hbi hba hbi2 x1 hmap hrow hrow2 hlf hyes hno hp htk hfi
            go_upto_region 18 with fail
            obtain ⟨hbi, x1, hmap, hrow⟩ := HXa.out
            clear HXa
            generalize wr.heap.size = sa at *
            generalize World.alloc _ _ = Va at *
            clear q0 q1 q2
            have d0 := x1.cell 0 rfl; have d1 := x1.cell 1 rfl; have d2 := x1.cell 2 rfl
            have hlk : (Instr.lookup 94 (.map (some B)) (.agg #[.int .i64 f.k, .int .i64 f.a, .int .i64 f.b]) false).run Try.prog Va = .ok (.int .i64 (p : Int)) Va := by
              obtain ⟨c, hr, ha, _⟩ := hmap.lookup_int law63 under94 Try.underlying3 (zero3 _) HKf.out
              have : c = (p : Int) := by
                have := ha.symm.trans hatq
                simp only [DataW.lit.injEq, Lit.int.injEq, true_and] at this
                exact this
              rw [← this]; exact hr
            clear hatq
            go_wp2_with fail
            refine (hso _).mono ?_
            rintro e V2 ⟨rfl, rfl⟩
            clear hso hlk
            cases r
            · have hfe := HYN.out.2 rfl
              have HX := hid (And.intro hrow hbi)
              clear hrow hbi x1 d0 d1 d2 hmap
              go_wp2
              go_roundw
              case rel =>
                obtain ⟨hrow, hbi⟩ := HX.out
                exact ⟨i + 1, q, a, c, by omega, by go_num, hid (by rw [hfe]; exact hq.out), rfl, by rw [hfe]; exact hrow, hbi⟩
              case measure => simp [intOf]; omega
            · have hfe := HYN.out.1 rfl
              have hba := below_one (w := Va) (.cells #[.int .i64 f.k, .int .i64 f.a, .int .i64 f.b] 63)
              have hcls := Cls.of_bx (Bx.new Va #[.int .i64 f.k, .int .i64 f.a, .int .i64 f.b] 63)
              have hrow1 := own_below2 hrow hba
              have hge := own_ge2 hrow
              have hsz := hbi.size
              have HFE := hid hfe
              clear hfe hmap
              go_wp2_with (at_builtin; refine wpList_appAt rfl (.tmp 59) (.tmp 61) 25 rfl V1.heap.size 63 i0 (.agg #[.int .i64 0, .int .i64 0, .int .i64 0]) 3 24 under25 hi0 iz0 iz1 iz2 rfl (by decide) (.slice a q c) q _ rfl hrow1 (some ⟨Va.heap.size, 0, none⟩) 1 1 (fcells [f]) rfl rfl hcls (fcells_one [f]) (by unfold maxLen; omega) (by omega) (by simp; omega) ?_; intro v3 W3 hown3 hg3 hat)
              obtain ⟨a3, c3, rfl⟩ := own_slice2 hown3
              have hb3 : Below V1.heap.size V1 W3 := (hbi.trans (hba.mono hsz)).grown hg3 (by simp; omega) hge
              rw [← fcells_app, ← HFE.out] at hown3
              have hq3 := hid (show q + 1 = ((AF.take (i + 1)).filter fun f => maybeS (T.flatten.count f) j).length by rw [HFE.out, List.length_append, ← hq.out]; rfl)
              have HX := hid (And.intro hown3 hb3)
              clear hrow hbi hba hcls hrow1 hge hown3 hg3 hat hb3 hq x1 d0 d1 d2 HFE HYN
              go_wp2
              go_roundw
              case rel =>
                obtain ⟨hrow, hbi⟩ := HX.out
                exact ⟨i + 1, q + 1, a3, c3, by omega, by go_num, hq3, rfl, hrow, hbi⟩
              case measure => simp [intOf]; omega
          · obtain rfl : i = n := by omega
            have ea : AF.take i = AF := by rw [HNN.out, List.take_length]
            have hq2 := hq.out
            rw [ea] at hrow hq2
            rw [← HR.out] at hrow hq2
            have hRl : R.length ≤ 60 := by
              rw [HR.out]; exact Nat.le_trans (List.length_filter_le _ _) (by rw [← HNN.out]; exact hal)
            have hres : CtP R 0 w (.returned (.tuple #[.slice a q c, .int .i64 0])) wr := by
              subst hq2
              exact ⟨hbw.trans (hbi.mono hvs), a, c, rfl, (Fy.of_own hrow (by omega) (fun x hx => HAI.out x (by rw [HR.out] at hx; exact (List.mem_filter.1 hx).1))).1⟩
            have HRR := hid hres
            have hiI : ¬ (i : Int) < (i : Int) := by omega
            clear hres hrow hq hq2 ea hRl hbi
            go_wp2
            go_ret2
            exact HRR.out
  · have hB : (E != 0) = true := by simpa using hE
    have hR := e1.out hE
    subst hR
    generalize akT L N P F true = T at *
    obtain ⟨tn, htn⟩ : ∃ tn, tn = T.length := ⟨_, rfl⟩
    rw [← htn] at hak
    clear e1 e2 HK hE htn
    have c0 := x0.cell 0 rfl; have c1 := x0.cell 1 rfl; have c2 := x0.cell 2 rfl; have c3 := x0.cell 3 rfl
    go_enter Try.func67, Try.ntmps67
    go_wp2_with fail
    refine hak.mono ?_
    rintro e W1 ⟨hb1, aT, cT, rfl, hrat⟩
    replace hb := hb.trans (hb1.mono hb.size)
    clear hW hb1 c0 c1 c2 c3 hak hP x0 hrat
    go_wp2
    go_ret2
    exact ⟨hb, none, 0, rfl, Fz.nil _ _⟩

set_option maxRecDepth 100000 in
set_option maxHeartbeats 2000000 in
theorem Sure_any (L N : Int) (aP : Option Addr) (cP : Nat) (P : List F3) (F : Int) (w : World) (hP : Pz w aP P) : Calls Try.prog 31 #[.agg #[.int .i64 L, .int .i64 N, .slice aP P.length cP, .int .i64 F]] w (CtP (ctR sureS L N P F) (akE L N P F true) w) := by
  obtain ⟨W, hW, hb, _, x0⟩ := boxes1 w #[.int .i64 L, .int .i64 N, .slice aP P.length cP, .int .i64 F] 24
  have hc := countedS_any L N aP cP P F W (hP.below hb (Nat.le_refl _))
  unfold CtP at hc ⊢
  generalize ctR sureS L N P F = R at *
  generalize akE L N P F true = E at *
  obtain ⟨n, hn⟩ : ∃ n, n = R.length := ⟨_, rfl⟩
  rw [← hn] at hc ⊢
  clear hn hP
  have c0 := x0.cell 0 rfl; have c1 := x0.cell 1 rfl; have c2 := x0.cell 2 rfl; have c3 := x0.cell 3 rfl
  go_enter Try.func31, Try.ntmps31
  go_wp2_with fail
  refine hc.mono ?_
  rintro e W1 ⟨hb1, a, d, rfl, hF⟩
  replace hb := hb.trans (hb1.mono hb.size)
  clear hW hb1 c0 c1 c2 c3 hc x0
  go_wp2
  go_ret2
  exact ⟨hb, a, d, rfl, hF⟩
set_option maxRecDepth 100000 in
set_option maxHeartbeats 2000000 in
theorem Maybe_any (L N : Int) (aP : Option Addr) (cP : Nat) (P : List F3) (F : Int) (w : World) (hP : Pz w aP P) : Calls Try.prog 33 #[.agg #[.int .i64 L, .int .i64 N, .slice aP P.length cP, .int .i64 F]] w (CtP (ctR maybeS L N P F) (akE L N P F true) w) := by
  obtain ⟨W, hW, hb, _, x0⟩ := boxes1 w #[.int .i64 L, .int .i64 N, .slice aP P.length cP, .int .i64 F] 24
  have hc := countedM_any L N aP cP P F W (hP.below hb (Nat.le_refl _))
  unfold CtP at hc ⊢
  generalize ctR maybeS L N P F = R at *
  generalize akE L N P F true = E at *
  obtain ⟨n, hn⟩ : ∃ n, n = R.length := ⟨_, rfl⟩
  rw [← hn] at hc ⊢
  clear hn hP
  have c0 := x0.cell 0 rfl; have c1 := x0.cell 1 rfl; have c2 := x0.cell 2 rfl; have c3 := x0.cell 3 rfl
  go_enter Try.func33, Try.ntmps33
  go_wp2_with fail
  refine hc.mono ?_
  rintro e W1 ⟨hb1, a, d, rfl, hF⟩
  replace hb := hb.trans (hb1.mono hb.size)
  clear hW hb1 c0 c1 c2 c3 hc x0
  go_wp2
  go_ret2
  exact ⟨hb, a, d, rfl, hF⟩
end Go.Proofs.Ytmpihcencnkpbaa
