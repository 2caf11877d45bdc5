import Derived.Test.YtakodllejndfeaaM3
/-! RoyaltiesTimes. -/
namespace Go.Proofs.Ytakodllejndfeaa
set_option linter.unusedSimpArgs false
set_option linter.unusedVariables false
open Go Go.RowKit

/-- The sides while the first j are made greater. -/
def mulJ (k : Int) (S : List Sd) (j : Nat) : List Sd := (S.take j).map (fun s => ⟨s.pl * k, s.ps⟩) ++ S.drop j
theorem mulJ_zero (k : Int) (S : List Sd) : mulJ k S 0 = S := by simp [mulJ]
theorem mulJ_end (k : Int) (S : List Sd) : mulJ k S S.length = mulS k S := by simp [mulJ, mulS]
theorem mulJ_len (k : Int) (S : List Sd) (j : Nat) : (mulJ k S j).length = S.length := by
  simp only [mulJ, List.length_append, List.length_map, List.length_take, List.length_drop]; omega
theorem mulJ_get (k : Int) {S : List Sd} {j : Nat} {s : Sd} (h : S[j]? = some s) : (mulJ k S j)[j]? = some s := by
  have hl : j < S.length := (List.getElem?_eq_some_iff.1 h).1
  unfold mulJ
  rw [List.getElem?_append_right (by simp; omega), List.length_map, List.length_take, List.getElem?_drop, show min j S.length = j by omega, Nat.sub_self, Nat.add_zero]
  exact h
theorem mulJ_set (k : Int) {S : List Sd} {j : Nat} {s : Sd} (h : S[j]? = some s) : (mulJ k S j).set j ⟨s.pl * k, s.ps⟩ = mulJ k S (j + 1) := by
  have hl : j < S.length := (List.getElem?_eq_some_iff.1 h).1
  unfold mulJ
  rw [List.set_append_right _ _ (by simp; omega), take_snoc h, List.map_append, List.length_map, List.length_take, show min j S.length = j by omega, Nat.sub_self]
  rw [show S.drop j = s :: S.drop (j + 1) by rw [List.drop_eq_getElem_cons hl]; congr 1; exact (List.getElem?_eq_some_iff.1 h).2]
  simp

set_option maxRecDepth 100000 in
set_option maxHeartbeats 8000000 in
theorem royaltiesTimes_any (p : Int) (aS aO : Option Addr) (cS cO : Nat) (S : List Sd) (O : List Int) (k : Int) (w : World) (hX : RyIn w aS aO p S O) : Calls Try.prog 9 #[.agg #[.int .i64 p, .slice aS S.length cS, .slice aO O.length cO], .int .i64 k] w fun e w' => e = .returned (.bool true) ∧ Below w.heap.size w w' := by
  obtain ⟨W, hW, hb, _, x0⟩ := boxes1 w #[.int .i64 p, .slice aS S.length cS, .slice aO O.length cO] 25
  have hXW := hX.below hb (Nat.le_refl _)
  have hrd := ready_any p aS aO cS cO S O W hXW
  have hwk := fun V => works_any V
  cases hr : rdB p S O
  · rw [hr] at hrd
    clear hr hXW
    have c0 := x0.cell 0 rfl; have c1 := x0.cell 1 rfl; have c2 := x0.cell 2 rfl
    go_enter Try.func9, Try.ntmps9
    go_wp2_with fail
    refine hrd.mono ?_
    rintro e W1 ⟨rfl, hb1⟩
    clear c0 c1 c2
    replace x0 := x0.below hb1
    replace hb := hb.trans (hb1.mono hb.size)
    clear hb1 hrd hX hW
    have c0 := x0.cell 0 rfl; have c1 := x0.cell 1 rfl; have c2 := x0.cell 2 rfl
    go_wp2_with fail
    refine (hwk _).mono ?_
    rintro e Vw ⟨rfl, hbw9⟩
    clear c0 c1 c2
    replace hb := hb.trans (hbw9.mono hb.size)
    go_wp2
    go_ret
    exact ⟨rfl, hb⟩
  rw [hr] at hrd
  by_cases hk1 : k < 1
  · skip
    clear hr hXW
    have c0 := x0.cell 0 rfl; have c1 := x0.cell 1 rfl; have c2 := x0.cell 2 rfl
    go_enter Try.func9, Try.ntmps9
    go_wp2_with fail
    refine hrd.mono ?_
    rintro e W1 ⟨rfl, hb1⟩
    clear c0 c1 c2
    replace x0 := x0.below hb1
    replace hb := hb.trans (hb1.mono hb.size)
    clear hb1 hrd hX hW
    have c0 := x0.cell 0 rfl; have c1 := x0.cell 1 rfl; have c2 := x0.cell 2 rfl
    go_wp2_with fail
    refine (hwk _).mono ?_
    rintro e Vw ⟨rfl, hbw9⟩
    clear c0 c1 c2
    replace hb := hb.trans (hbw9.mono hb.size)
    go_wp2
    go_ret
    exact ⟨rfl, hb⟩
  by_cases hk9 : 1000 < k
  · skip
    clear hr hXW
    have c0 := x0.cell 0 rfl; have c1 := x0.cell 1 rfl; have c2 := x0.cell 2 rfl
    go_enter Try.func9, Try.ntmps9
    go_wp2_with fail
    refine hrd.mono ?_
    rintro e W1 ⟨rfl, hb1⟩
    clear c0 c1 c2
    replace x0 := x0.below hb1
    replace hb := hb.trans (hb1.mono hb.size)
    clear hb1 hrd hX hW
    have c0 := x0.cell 0 rfl; have c1 := x0.cell 1 rfl; have c2 := x0.cell 2 rfl
    go_wp2_with fail
    refine (hwk _).mono ?_
    rintro e Vw ⟨rfl, hbw9⟩
    clear c0 c1 c2
    replace hb := hb.trans (hbw9.mono hb.size)
    go_wp2
    go_ret
    exact ⟨rfl, hb⟩
  obtain ⟨hf, hv⟩ := rdB_ok hr
  have hV := vB_ok hv
  have hR := hXW.ry hf
  have hol := hR.ol; have hsl := hR.sd.len
  have hRw := hX.ry hf
  have hcp := fun V h => Copy_any p aS aO cS cO S O V h
  unfold CopyP at hcp
  have h1 := fun V h => Shares_any p aS aO cS cO S O V h
  have h2 := fun V h => Paid_any p aS aO cS cO S O V h
  have h3 := fun V h => Left_any p aS aO cS cO S O V h
  have h4 := fun V h => Lost_any p aS aO cS cO S O V h
  have h5 := fun (i : Nat) V h => Exact_any p aS aO cS cO S O (i : Int) V h
  have hro := fun (a b : Option Addr) (c d : Nat) V (h : Ry V a b p (mulS k S) O) => ready_any p a b c d (mulS k S) O V h.inn
  have o1 := fun (a b : Option Addr) (c d : Nat) V (h : Ry V a b p (mulS k S) O) => Shares_any p a b c d (mulS k S) O V h
  have o2 := fun (a b : Option Addr) (c d : Nat) V (h : Ry V a b p (mulS k S) O) => Paid_any p a b c d (mulS k S) O V h
  have o3 := fun (a b : Option Addr) (c d : Nat) V (h : Ry V a b p (mulS k S) O) => Left_any p a b c d (mulS k S) O V h
  have o4 := fun (a b : Option Addr) (c d : Nat) V (h : Ry V a b p (mulS k S) O) => Lost_any p a b c d (mulS k S) O V h
  have o5 := fun (i : Nat) (a b : Option Addr) (c d : Nat) V (h : Ry V a b p (mulS k S) O) => Exact_any p a b c d (mulS k S) O (i : Int) V h
  rw [mulS_len] at hro o1 o2 o3 o4 o5
  have hcry := fun (B lo : Nat) (a b : Option Addr) (c d : Nat) (V : World) (h : CpM V B lo a b c d (mulS k S) O) => h.ry (p := p) (by rw [mulS_len]; exact hsl) hol hR.pr
  have HSA := hid (fun h => same_mul (p := p) (k := k) (S := S) (O := O) (by omega) hv h)
  have HVS := hid hV.sd
  have hJ0 := mulJ_zero k S
  have hJE := mulJ_end k S
  have hJL := mulJ_len k S
  have hm6 := hV.m6; have hn6 := hV.n6
  clear hr hf hXW hv hV
  obtain ⟨n, hn⟩ : ∃ n, n = O.length := ⟨_, rfl⟩
  obtain ⟨m, hm⟩ : ∃ m, m = S.length := ⟨_, rfl⟩
  rw [← hn] at hrd hcp h1 h2 h3 h4 h5 hro o1 o2 o3 o4 o5 hol x0 hW hn6 ⊢
  rw [← hm] at hrd hcp h1 h2 h3 h4 h5 hro o1 o2 o3 o4 o5 hsl x0 hW hJE hJL hm6 ⊢
  have HN := hid hn; have HM := hid hm
  clear hn hm
  have hnI : (n : Int) ≤ 6 := by omega
  have hmI : (m : Int) ≤ 6 := by omega
  clear hR
  have c0 := x0.cell 0 rfl; have c1 := x0.cell 1 rfl; have c2 := x0.cell 2 rfl
  go_enter Try.func9, Try.ntmps9
  go_wp2_with fail
  refine hrd.mono ?_
  rintro e W1 ⟨rfl, hb1⟩
  clear c0 c1 c2
  replace x0 := x0.below hb1
  replace hb := hb.trans (hb1.mono hb.size)
  clear hb1 hrd hX hW
  have c0 := x0.cell 0 rfl; have c1 := x0.cell 1 rfl; have c2 := x0.cell 2 rfl
  have hR1 := hRw.below hb (Nat.le_refl _)
  go_wp2_with fail
  refine (hcp _ hR1).mono ?_
  rintro e V1 ⟨a, b, k1, k2, rfl, hC, hb1, hszc⟩
  have hba := below_one (w := V1) (.cells #[.int .i64 p, .slice a m k1, .slice b n k2] 25)
  have hgs : ∀ ad, a = some ad → ad.block < V1.heap.size := fun ad e => by
    obtain ⟨cs, q1, _, _⟩ := hC.ex
    exact (q1.lt ad.block (by rw [e]; rfl)).2
  have hbW := hb.trans (hb1.mono hb.size)
  have hlw : w.heap.size < W1.heap.size + 3 := by have := hb.size; omega
  have HXa := hid (And.intro ((x0.below hb1).below hba) (And.intro (Bx.new V1 #[.int .i64 p, .slice a m k1, .slice b n k2] 25) (And.intro (hC.below hba) (And.intro (hbW.trans (hba.mono hbW.size)) (And.intro hgs hlw)))))
  clear hb hb1 c0 c1 c2 hba x0 hbW hC hR1 hcp hgs hlw
  generalize W1.heap.size + 3 = B0 at *
  go_upto_region 4 with fail
  obtain ⟨x0, x5, hC, hb, hgs, hlw⟩ := HXa.out
  clear HXa hszc
  generalize V1.heap.size = s5 at *
  generalize World.alloc _ _ = wa at *
  rw [← hJ0] at hC
  go_wp2
  go_loopw [6] (fun v6 wr => ∃ j : Nat, j ≤ m ∧ v6 = .int .i64 (j : Int) ∧ Bx wr w.heap.size #[.int .i64 p, .slice aS m cS, .slice aO n cO] 25 ∧ Bx wr s5 #[.int .i64 p, .slice a m k1, .slice b n k2] 25 ∧ CpM wr B0 B0 a b k1 k2 (mulJ k S j) O ∧ Below w.heap.size w wr) (fun v6 _ => m - (intOf v6).toNat)
  case atStart => exact ⟨0, Nat.zero_le _, rfl, x0, x5, hC, hb⟩
  case round =>
    clear x0 x5 hC hb
    obtain ⟨j, hj, rfl, x0, x5, hC, hb⟩ := hrel
    by_cases hlt : j < m
    · have hjI : (j : Int) < m := by omega
      have hj0 : (0 : Int) ≤ (j : Int) := by omega
      have hg := get_of_lt (l := S) sd0 (show j < S.length by rw [← HM.out]; exact hlt)
      obtain ⟨s, hs⟩ : ∃ s, s = S.getD j sd0 := ⟨_, rfl⟩
      rw [← hs] at hg
      have hpl := (HVS.out s (List.mem_of_getElem? hg)).pl
      have h6 : 0 ≤ s.pl * k := Int.mul_nonneg hpl.1 (by omega)
      have h7 : s.pl * k ≤ 9999 * 1000 := Int.mul_le_mul hpl.2 (by omega) (by omega) (by omega)
      obtain ⟨t, ht⟩ : ∃ t, t = s.pl * k := ⟨_, rfl⟩
      have hset := mulJ_set k hg
      rw [← ht] at h6 h7 hset
      obtain ⟨gg, rfl, hBg, q0, qf, hgw, hC2⟩ := hC.setPl (mulJ_get k hg) (x := t) ⟨by omega, by omega⟩
      rw [hset] at hC2
      have hgs2 := hgs _ rfl
      simp only at hgs2
      have ew : IntKind.i64.wrap (s.pl * k) = t := by rw [← ht]; exact IntWalk.i64_in _ (by omega)
      have z0 := x0.other (a := ⟨gg, j * 2, none⟩) (by show w.heap.size ≠ gg; omega) (.int .i64 t)
      have z5 := x5.other (a := ⟨gg, j * 2, none⟩) (by show s5 ≠ gg; omega) (.int .i64 t)
      have zb := hb.setCell (p := ⟨gg, j * 2, none⟩) (by show w.heap.size ≤ gg; omega) (.int .i64 t)
      have HZ := hid (And.intro z0 (And.intro z5 (And.intro hC2 zb)))
      obtain ⟨pl, ps⟩ := s
      simp only at q0 ew
      clear z0 z5 zb hC2 hC hs ht hset hg
      have d0 := x5.cell 0 rfl; have d1 := x5.cell 1 rfl; have d2 := x5.cell 2 rfl
      clear x5 x0
      go_wp2
      go_roundw
      case rel => exact ⟨j + 1, by omega, by simp, HZ.out⟩
      case measure => simp [intOf]; omega
    · have hjI : ¬ (j : Int) < m := by omega
      have hjm : j = m := by omega
      rw [hjm, hJE] at hC
      have hRo := hcry B0 B0 a b k1 k2 _ hC
      have hR := hRw.below hb (Nat.le_refl _)
      clear hC hcry hgs hjm hJ0 hJE hJL
      have c0 := x0.cell 0 rfl; have c1 := x0.cell 1 rfl; have c2 := x0.cell 2 rfl
      have d0 := x5.cell 0 rfl; have d1 := x5.cell 1 rfl; have d2 := x5.cell 2 rfl
      have hro1 := hro a b k1 k2 _ hRo
      clear hro
      cases hr2 : rdB p (mulS k S) O
      · rw [hr2] at hro1
        clear hr2
        go_wp2_with fail
        refine (hro1).mono ?_
        rintro e Vc4 ⟨rfl, hb1⟩
        clear c0 c1 c2
        clear d0 d1 d2
        replace x0 := x0.below hb1
        replace x5 := x5.below hb1
        replace hRo := hRo.below hb1 (Nat.le_refl _)
        replace hR := hR.below hb1 (Nat.le_refl _)
        replace hb := hb.trans (hb1.mono hb.size)
        clear hb1
        have c0 := x0.cell 0 rfl; have c1 := x0.cell 1 rfl; have c2 := x0.cell 2 rfl
        have d0 := x5.cell 0 rfl; have d1 := x5.cell 1 rfl; have d2 := x5.cell 2 rfl
        go_wp2_with fail
        refine (hwk _).mono ?_
        rintro e Vw ⟨rfl, hbw9⟩
        clear c0 c1 c2
        clear d0 d1 d2
        replace hb := hb.trans (hbw9.mono hb.size)
        go_wp2
        go_ret
        exact ⟨rfl, hb⟩
      · rw [hr2] at hro1
        have hsa := HSA.out (rdB_ok hr2).2
        rw [hsa.sh, hsa.ask] at o1
        rw [hsa.st, hsa.ask] at o2 o3
        rw [hsa.lost, hsa.ask] at o4
        simp only [hsa.exu, hsa.exl, hsa.ask] at o5
        clear hsa HSA hr2
        generalize askE p S O true = E at *
        have hEE : (E != E) = false := by simp
        generalize lostV p S O = Lo at *
        have hLL : (Lo != Lo) = false := by simp
        generalize shR p S O = L1 at *
        generalize stR paidV p S O = L2 at *
        generalize stR leftO p S O = L3 at *
        obtain ⟨l1, hl1⟩ : ∃ l, l = L1.length := ⟨_, rfl⟩
        obtain ⟨l2, hl2⟩ : ∃ l, l = L2.length := ⟨_, rfl⟩
        obtain ⟨l3, hl3⟩ : ∃ l, l = L3.length := ⟨_, rfl⟩
        have hs1 := fun (a b : Option Addr) (ca cb : Nat) V h h' => SameInts_eq a b ca cb L1 V h h'
        have hs2 := fun (a b : Option Addr) (ca cb : Nat) V h h' => SameInts_eq a b ca cb L2 V h h'
        have hs3 := fun (a b : Option Addr) (ca cb : Nat) V h h' => SameInts_eq a b ca cb L3 V h h'
        rw [← hl1] at h1 o1 hs1
        rw [← hl2] at h2 o2 hs2
        rw [← hl3] at h3 o3 hs3
        clear hl1 hl2 hl3
        go_wp2_with fail
        refine (hro1).mono ?_
        rintro e Vc6 ⟨rfl, hb1⟩
        clear c0 c1 c2
        clear d0 d1 d2
        replace x0 := x0.below hb1
        replace x5 := x5.below hb1
        replace hRo := hRo.below hb1 (Nat.le_refl _)
        replace hR := hR.below hb1 (Nat.le_refl _)
        replace hb := hb.trans (hb1.mono hb.size)
        clear hb1
        have c0 := x0.cell 0 rfl; have c1 := x0.cell 1 rfl; have c2 := x0.cell 2 rfl
        have d0 := x5.cell 0 rfl; have d1 := x5.cell 1 rfl; have d2 := x5.cell 2 rfl
        clear hro1
        go_wp2_with fail
        refine (h1 _ hR).mono ?_
        rintro e Vc7 ⟨a1, q1, rfl, hI1, hb1⟩
        clear c0 c1 c2
        clear d0 d1 d2
        replace x0 := x0.below hb1
        replace x5 := x5.below hb1
        replace hRo := hRo.below hb1 (Nat.le_refl _)
        replace hR := hR.below hb1 (Nat.le_refl _)
        replace hb := hb.trans (hb1.mono hb.size)
        clear hb1
        have c0 := x0.cell 0 rfl; have c1 := x0.cell 1 rfl; have c2 := x0.cell 2 rfl
        have d0 := x5.cell 0 rfl; have d1 := x5.cell 1 rfl; have d2 := x5.cell 2 rfl
        clear h1
        go_wp2_with fail
        refine (o1 _ _ _ _ _ hRo).mono ?_
        rintro e Vc8 ⟨a1o, q1o, rfl, hI1o, hb1⟩
        clear c0 c1 c2
        clear d0 d1 d2
        replace x0 := x0.below hb1
        replace x5 := x5.below hb1
        replace hRo := hRo.below hb1 (Nat.le_refl _)
        replace hR := hR.below hb1 (Nat.le_refl _)
        replace hI1 := hI1.below hb1 (Nat.le_refl _)
        replace hb := hb.trans (hb1.mono hb.size)
        clear hb1
        have c0 := x0.cell 0 rfl; have c1 := x0.cell 1 rfl; have c2 := x0.cell 2 rfl
        have d0 := x5.cell 0 rfl; have d1 := x5.cell 1 rfl; have d2 := x5.cell 2 rfl
        clear o1
        go_wp2_with fail
        refine (h2 _ hR).mono ?_
        rintro e Vc9 ⟨a2, q2, rfl, hI2, hb1⟩
        clear c0 c1 c2
        clear d0 d1 d2
        replace x0 := x0.below hb1
        replace x5 := x5.below hb1
        replace hRo := hRo.below hb1 (Nat.le_refl _)
        replace hR := hR.below hb1 (Nat.le_refl _)
        replace hI1 := hI1.below hb1 (Nat.le_refl _)
        replace hI1o := hI1o.below hb1 (Nat.le_refl _)
        replace hb := hb.trans (hb1.mono hb.size)
        clear hb1
        have c0 := x0.cell 0 rfl; have c1 := x0.cell 1 rfl; have c2 := x0.cell 2 rfl
        have d0 := x5.cell 0 rfl; have d1 := x5.cell 1 rfl; have d2 := x5.cell 2 rfl
        clear h2
        go_wp2_with fail
        refine (o2 _ _ _ _ _ hRo).mono ?_
        rintro e Vc10 ⟨a2o, q2o, rfl, hI2o, hb1⟩
        clear c0 c1 c2
        clear d0 d1 d2
        replace x0 := x0.below hb1
        replace x5 := x5.below hb1
        replace hRo := hRo.below hb1 (Nat.le_refl _)
        replace hR := hR.below hb1 (Nat.le_refl _)
        replace hI1 := hI1.below hb1 (Nat.le_refl _)
        replace hI1o := hI1o.below hb1 (Nat.le_refl _)
        replace hI2 := hI2.below hb1 (Nat.le_refl _)
        replace hb := hb.trans (hb1.mono hb.size)
        clear hb1
        have c0 := x0.cell 0 rfl; have c1 := x0.cell 1 rfl; have c2 := x0.cell 2 rfl
        have d0 := x5.cell 0 rfl; have d1 := x5.cell 1 rfl; have d2 := x5.cell 2 rfl
        clear o2
        go_wp2_with fail
        refine (hs1 _ _ _ _ _ hI1 hI1o).mono ?_
        rintro e Vc11 ⟨rfl, hb1⟩
        clear c0 c1 c2
        clear d0 d1 d2
        replace x0 := x0.below hb1
        replace x5 := x5.below hb1
        replace hRo := hRo.below hb1 (Nat.le_refl _)
        replace hR := hR.below hb1 (Nat.le_refl _)
        replace hI1 := hI1.below hb1 (Nat.le_refl _)
        replace hI1o := hI1o.below hb1 (Nat.le_refl _)
        replace hI2 := hI2.below hb1 (Nat.le_refl _)
        replace hI2o := hI2o.below hb1 (Nat.le_refl _)
        replace hb := hb.trans (hb1.mono hb.size)
        clear hb1
        have c0 := x0.cell 0 rfl; have c1 := x0.cell 1 rfl; have c2 := x0.cell 2 rfl
        have d0 := x5.cell 0 rfl; have d1 := x5.cell 1 rfl; have d2 := x5.cell 2 rfl
        clear hs1 hI1 hI1o
        go_wp2_with fail
        refine (hs2 _ _ _ _ _ hI2 hI2o).mono ?_
        rintro e Vc12 ⟨rfl, hb1⟩
        clear c0 c1 c2
        clear d0 d1 d2
        replace x0 := x0.below hb1
        replace x5 := x5.below hb1
        replace hRo := hRo.below hb1 (Nat.le_refl _)
        replace hR := hR.below hb1 (Nat.le_refl _)
        replace hI2 := hI2.below hb1 (Nat.le_refl _)
        replace hI2o := hI2o.below hb1 (Nat.le_refl _)
        replace hb := hb.trans (hb1.mono hb.size)
        clear hb1
        have c0 := x0.cell 0 rfl; have c1 := x0.cell 1 rfl; have c2 := x0.cell 2 rfl
        have d0 := x5.cell 0 rfl; have d1 := x5.cell 1 rfl; have d2 := x5.cell 2 rfl
        clear hs2 hI2 hI2o
        go_wp2_with fail
        refine (h3 _ hR).mono ?_
        rintro e Vc13 ⟨a3, q3, rfl, hI3, hb1⟩
        clear c0 c1 c2
        clear d0 d1 d2
        replace x0 := x0.below hb1
        replace x5 := x5.below hb1
        replace hRo := hRo.below hb1 (Nat.le_refl _)
        replace hR := hR.below hb1 (Nat.le_refl _)
        replace hb := hb.trans (hb1.mono hb.size)
        clear hb1
        have c0 := x0.cell 0 rfl; have c1 := x0.cell 1 rfl; have c2 := x0.cell 2 rfl
        have d0 := x5.cell 0 rfl; have d1 := x5.cell 1 rfl; have d2 := x5.cell 2 rfl
        clear h3
        go_wp2_with fail
        refine (o3 _ _ _ _ _ hRo).mono ?_
        rintro e Vc14 ⟨a3o, q3o, rfl, hI3o, hb1⟩
        clear c0 c1 c2
        clear d0 d1 d2
        replace x0 := x0.below hb1
        replace x5 := x5.below hb1
        replace hRo := hRo.below hb1 (Nat.le_refl _)
        replace hR := hR.below hb1 (Nat.le_refl _)
        replace hI3 := hI3.below hb1 (Nat.le_refl _)
        replace hb := hb.trans (hb1.mono hb.size)
        clear hb1
        have c0 := x0.cell 0 rfl; have c1 := x0.cell 1 rfl; have c2 := x0.cell 2 rfl
        have d0 := x5.cell 0 rfl; have d1 := x5.cell 1 rfl; have d2 := x5.cell 2 rfl
        clear o3
        go_wp2_with fail
        refine (h4 _ hR).mono ?_
        rintro e Vc15 ⟨rfl, hb1⟩
        clear c0 c1 c2
        clear d0 d1 d2
        replace x0 := x0.below hb1
        replace x5 := x5.below hb1
        replace hRo := hRo.below hb1 (Nat.le_refl _)
        replace hR := hR.below hb1 (Nat.le_refl _)
        replace hI3 := hI3.below hb1 (Nat.le_refl _)
        replace hI3o := hI3o.below hb1 (Nat.le_refl _)
        replace hb := hb.trans (hb1.mono hb.size)
        clear hb1
        have c0 := x0.cell 0 rfl; have c1 := x0.cell 1 rfl; have c2 := x0.cell 2 rfl
        have d0 := x5.cell 0 rfl; have d1 := x5.cell 1 rfl; have d2 := x5.cell 2 rfl
        clear h4
        go_wp2_with fail
        refine (o4 _ _ _ _ _ hRo).mono ?_
        rintro e Vc16 ⟨rfl, hb1⟩
        clear c0 c1 c2
        clear d0 d1 d2
        replace x0 := x0.below hb1
        replace x5 := x5.below hb1
        replace hRo := hRo.below hb1 (Nat.le_refl _)
        replace hR := hR.below hb1 (Nat.le_refl _)
        replace hI3 := hI3.below hb1 (Nat.le_refl _)
        replace hI3o := hI3o.below hb1 (Nat.le_refl _)
        replace hb := hb.trans (hb1.mono hb.size)
        clear hb1
        have c0 := x0.cell 0 rfl; have c1 := x0.cell 1 rfl; have c2 := x0.cell 2 rfl
        have d0 := x5.cell 0 rfl; have d1 := x5.cell 1 rfl; have d2 := x5.cell 2 rfl
        clear o4
        go_wp2_with fail
        refine (hs3 _ _ _ _ _ hI3 hI3o).mono ?_
        rintro e Vc17 ⟨rfl, hb1⟩
        clear c0 c1 c2
        clear d0 d1 d2
        replace x0 := x0.below hb1
        replace x5 := x5.below hb1
        replace hRo := hRo.below hb1 (Nat.le_refl _)
        replace hR := hR.below hb1 (Nat.le_refl _)
        replace hI3 := hI3.below hb1 (Nat.le_refl _)
        replace hI3o := hI3o.below hb1 (Nat.le_refl _)
        replace hb := hb.trans (hb1.mono hb.size)
        clear hb1
        have c0 := x0.cell 0 rfl; have c1 := x0.cell 1 rfl; have c2 := x0.cell 2 rfl
        have d0 := x5.cell 0 rfl; have d1 := x5.cell 1 rfl; have d2 := x5.cell 2 rfl
        clear hs3 hI3 hI3o
        clear c0 c1 c2
        clear d0 d1 d2
        go_wp2
        go_loopw [17] (fun v17 wr => ∃ i : Nat, i ≤ n ∧ v17 = .int .i64 (i : Int) ∧ Bx wr w.heap.size #[.int .i64 p, .slice aS m cS, .slice aO n cO] 25 ∧ Bx wr s5 #[.int .i64 p, .slice a m k1, .slice b n k2] 25 ∧ Ry wr a b p (mulS k S) O ∧ Ry wr aS aO p S O ∧ Below w.heap.size w wr) (fun v17 _ => n - (intOf v17).toNat)
        case atStart => exact ⟨0, Nat.zero_le _, rfl, x0, x5, hRo, hR, hb⟩
        case round =>
          clear x0 x5 hRo hR hb
          obtain ⟨i, hi, rfl, x0, x5, hRo, hR, hb⟩ := hrel
          by_cases hlti : i < n
          · have hiI : (i : Int) < n := by omega
            have h5i := h5 i
            have o5i := o5 i
            generalize exU p S O (i : Nat) = u at *
            generalize exL p S O (i : Nat) = v at *
            generalize askE p S O (hasB O (i : Nat)) = e5 at *
            have hu : (u != u) = false := by simp
            have hv : (v != v) = false := by simp
            have he : (e5 != e5) = false := by simp
            have c0 := x0.cell 0 rfl; have c1 := x0.cell 1 rfl; have c2 := x0.cell 2 rfl
            have d0 := x5.cell 0 rfl; have d1 := x5.cell 1 rfl; have d2 := x5.cell 2 rfl
            go_wp2_with fail
            refine (h5i _ hR).mono ?_
            rintro e Vc18 ⟨rfl, hb1⟩
            clear c0 c1 c2
            clear d0 d1 d2
            replace x0 := x0.below hb1
            replace x5 := x5.below hb1
            replace hRo := hRo.below hb1 (Nat.le_refl _)
            replace hR := hR.below hb1 (Nat.le_refl _)
            replace hb := hb.trans (hb1.mono hb.size)
            clear hb1
            have c0 := x0.cell 0 rfl; have c1 := x0.cell 1 rfl; have c2 := x0.cell 2 rfl
            have d0 := x5.cell 0 rfl; have d1 := x5.cell 1 rfl; have d2 := x5.cell 2 rfl
            clear h5i
            go_wp2_with fail
            refine (o5i _ _ _ _ _ hRo).mono ?_
            rintro e Vc19 ⟨rfl, hb1⟩
            clear c0 c1 c2
            clear d0 d1 d2
            replace x0 := x0.below hb1
            replace x5 := x5.below hb1
            replace hRo := hRo.below hb1 (Nat.le_refl _)
            replace hR := hR.below hb1 (Nat.le_refl _)
            replace hb := hb.trans (hb1.mono hb.size)
            clear hb1
            have c0 := x0.cell 0 rfl; have c1 := x0.cell 1 rfl; have c2 := x0.cell 2 rfl
            have d0 := x5.cell 0 rfl; have d1 := x5.cell 1 rfl; have d2 := x5.cell 2 rfl
            clear o5i
            clear c0 c1 c2
            clear d0 d1 d2
            have HZ := hid (And.intro x0 (And.intro x5 (And.intro hRo (And.intro hR hb))))
            clear x0 x5 hRo hR hb
            go_wp2
            go_roundw
            case rel => exact ⟨i + 1, by omega, by simp, HZ.out⟩
            case measure => simp [intOf]; omega
          · have hiI : ¬ (i : Int) < n := by omega
            have c0 := x0.cell 0 rfl; have c1 := x0.cell 1 rfl; have c2 := x0.cell 2 rfl
            go_wp2_with fail
            refine (hwk _).mono ?_
            rintro e Vw ⟨rfl, hbw9⟩
            clear c0 c1 c2
            replace hb := hb.trans (hbw9.mono hb.size)
            go_wp2
            go_ret
            exact ⟨rfl, hb⟩
end Go.Proofs.Ytakodllejndfeaa
