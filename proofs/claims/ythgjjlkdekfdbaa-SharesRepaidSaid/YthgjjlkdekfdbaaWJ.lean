import Derived.Test.YthgjjlkdekfdbaaRA
import Derived.Test.YthgjjlkdekfdbaaT28
import Derived.Test.YthgjjlkdekfdbaaWD
import Derived.Test.YthgjjlkdekfdbaaM8
/-! SharesRepaid. -/
namespace Go.Proofs.Ythgjjlkdekfdbaa
set_option linter.unusedSimpArgs false
set_option linter.unusedVariables false
open Go Go.RowKit

set_option maxRecDepth 100000 in
set_option maxHeartbeats 6000000 in
theorem Rep_bad (ac : Option Addr) (cc : Nat) (cs : List Cl) (L : Int) (t : Int) (w : World) (hS : ShIn w ac cc cs) (hbad : (shB cs L && cenB t) = false) : Calls Try.prog 13 #[.agg #[.slice ac cs.length cc, .int .i64 L], .int .i64 t] w fun e w' => e = .returned (.bool true) ∧ Below w.heap.size w w' := by
  obtain ⟨W, hW, hb, _, x0⟩ := boxes1 w #[.slice ac cs.length cc, .int .i64 L] 24
  have hS1 := hS.below hb (Nat.le_refl _)
  have h0 := isShare_any ac cc cs L W hS1.l hS1.cl
  have h1 := fun V => IsCents_any t V
  have hwk := fun V => works_any V
  clear hS hS1
  generalize shB cs L = r at *
  generalize cenB t = a at *
  have c0 := x0.cell 0 rfl; have c1 := x0.cell 1 rfl
  go_enter Try.func13, Try.ntmps13
  cases r
  · clear hbad
    go_wp2_with fail
    refine (h0).mono ?_
    rintro e Vc1 ⟨rfl, hb1⟩
    clear c0 c1
    replace x0 := x0.below hb1
    replace hb := hb.trans (hb1.mono hb.size)
    clear hb1
    have c0 := x0.cell 0 rfl; have c1 := x0.cell 1 rfl
    go_wp2_with fail
    refine (hwk _).mono ?_
    rintro e Vw ⟨rfl, hbw9⟩
    clear c0 c1
    replace hb := hb.trans (hbw9.mono hb.size)
    go_wp2
    go_ret
    exact ⟨rfl, hb⟩
  · obtain rfl : a = false := by simpa using hbad
    clear hbad
    go_wp2_with fail
    refine (h0).mono ?_
    rintro e Vc3 ⟨rfl, hb1⟩
    clear c0 c1
    replace x0 := x0.below hb1
    replace hb := hb.trans (hb1.mono hb.size)
    clear hb1
    have c0 := x0.cell 0 rfl; have c1 := x0.cell 1 rfl
    go_wp2_with fail
    refine (h1 _).mono ?_
    rintro e Vc4 ⟨rfl, rfl⟩
    go_wp2_with fail
    refine (hwk _).mono ?_
    rintro e Vw ⟨rfl, hbw9⟩
    clear c0 c1
    replace hb := hb.trans (hbw9.mono hb.size)
    go_wp2
    go_ret
    exact ⟨rfl, hb⟩
set_option maxRecDepth 100000 in
set_option maxHeartbeats 12000000 in
theorem Rep_ok (ac : Option Addr) (cc : Nat) (cs : List Cl) (L : Int) (t : Int) (w : World) (hX : Clz w ac cs) (hs : shB cs L = true) (ht : cenB t = true) : Calls Try.prog 13 #[.agg #[.slice ac cs.length cc, .int .i64 L], .int .i64 t] w fun e w' => e = .returned (.bool true) ∧ Below w.heap.size w w' := by
  obtain ⟨j0, hj0, jz0, jz1, jz2⟩ := info_parts info3i
  obtain ⟨W, hW, hb, _, x0⟩ := boxes1 w #[.slice ac cs.length cc, .int .i64 L] 24
  have hle := hX.len
  have h0 := isShare_any ac cc cs L W (by omega) (fun _ => hX.below hb (Nat.le_refl _))
  rw [hs] at h0
  have h1 := fun V => IsCents_any t V
  rw [ht] at h1
  have hwk := fun V => works_any V
  have ho := Ok.of hs ht
  have htr := ho.t
  have hrp := fun (V : World) hh => Repaid_ok ac cc cs L t V hh hs ht _ rfl
  have hwe := fun (k : Nat) (hk : k ≤ 6) a c V h1 h2 => Weeks_rep (L := L) (t := t) hs ht hk ac cc a c V h1 h2
  have hca := rep_cases ho
  have hk0 := fun V => isKnown_0 V
  have hk3 := fun V => isKnown_3 V
  have hX1 := hX.below hb (Nat.le_refl _)
  have hX0 := hX
  have hs1 : w.heap.size + 1 ≤ W.heap.size := x0.lt
  generalize loanK L cs t = lo at *
  generalize repR L cs t = R at *
  obtain ⟨nn, hnn⟩ : ∃ nn, nn = cs.length := ⟨_, rfl⟩
  rw [← hnn] at h0 hrp hwe x0 hW ⊢
  clear hs ht hX ho hle hnn
  rcases hca with ⟨N, hN, rfl, hNL, hdec⟩ | ⟨rfl, hdec⟩
  · have hNI : (N : Int) ≤ 1000 := by omega
    have hN0 : (0 : Int) ≤ (N : Int) := by omega
    by_cases hL0 : L = 0
    · have hn0 : (((N : Int)) == 0) = true := by simp [hNL.2 hL0]
      have hl0 : (L == 0) = true := by simp [hL0]
      clear hNL hN hL0
      have c0 := x0.cell 0 rfl; have c1 := x0.cell 1 rfl
      go_enter Try.func13, Try.ntmps13
      go_wp2_with fail
      refine (h0).mono ?_
      rintro e Vc6 ⟨rfl, hb1⟩
      clear c0 c1
      replace x0 := x0.below hb1
      replace hX1 := hX1.below hb1 (Nat.le_refl _)
      replace hb := hb.trans (hb1.mono hb.size)
      clear hb1 h0 hW
      have c0 := x0.cell 0 rfl; have c1 := x0.cell 1 rfl
      go_wp2_with fail
      refine (h1 _).mono ?_
      rintro e Vc7 ⟨rfl, rfl⟩
      clear h1
      go_wp2_with fail
      refine (hrp _ hX1).mono ?_
      rintro e Vc8 ⟨rfl, hb1⟩
      clear c0 c1
      replace x0 := x0.below hb1
      replace hX1 := hX1.below hb1 (Nat.le_refl _)
      replace hb := hb.trans (hb1.mono hb.size)
      clear hb1 hrp
      have c0 := x0.cell 0 rfl; have c1 := x0.cell 1 rfl
      go_wp2_with fail
      refine (hk0 _).mono ?_
      rintro e Vc9 ⟨rfl, rfl⟩
      clear hk0 hk3
      clear hX1
      go_wp2
      clear c0 c1
      go_loopw [7, 8, 9, 10, 11] (fun v7 v8 v9 v10 v11 wr => ∃ (i : Nat) (av : Option Addr) (cv : Nat), i ≤ 6 ∧ v8 = .int .i64 (i : Int) ∧ v7 = .slice av i cv ∧ wr.ownsRow (w.heap.size + 1) 3 1 (.slice av i cv) i ((List.replicate i t).map (Value.int .i64)) ∧ Bx wr w.heap.size #[.slice ac nn cc, .int .i64 L] 24 ∧ Below w.heap.size w wr ∧ w.heap.size + 1 ≤ wr.heap.size) (fun _ v8 _ _ _ _ => 6 - (intOf v8).toNat)
      case atStart => exact ⟨0, none, 0, Nat.zero_le _, rfl, rfl, World.ownsRow_nil _ _ _ _, x0, hb, x0.lt⟩
      case round =>
        clear x0 hb
        obtain ⟨i, av, cv, hi, rfl, rfl, own, x0, hb, sz⟩ := hrel
        by_cases hlt : i < 6
        · have hiI : (i : Int) < 6 := by omega
          have hw1 := hwe (i + 1) (by omega)
          have hdi := hdec i
          obtain ⟨m, hm⟩ : ∃ m, m = lo (i + 1) := ⟨_, rfl⟩
          rw [← hm] at hw1 hdi
          clear hm hwe hdec
          have hge := own_ge2 own
          have hba := below_one (w := wr) (.cells #[.int .i64 t] 3)
          have x1 := x0.below hba
          have bl1 := hb.trans (hba.mono hb.size)
          have sz1 := Nat.le_trans sz hba.size
          go_upto_region 11 with (at_builtin; refine wpList_append_own _ rfl _ _ 41 rfl (w.heap.size + 1) 3 j0 (.int .i64 0) 1 8 under41 hj0 jz0 jz1 jz2 rfl (by decide) (.slice av i cv) i _ rfl (own.alloc _) ⟨wr.heap.size, 0, none⟩ 1 1 [.int .i64 t] rfl rfl (cell_one_new _ _ _) (ints_oneCell .i64 [t]) (by unfold maxLen; omega) (by omega) (by simp; omega) ?_
                                  intro v2 W2 row2 hg2 _
                                  have x2 := x1.gb hg2 (fun q hq => by have := hge q hq; omega)
                                  have bl2 := bl1.grown hg2 (by omega) (fun q hq => by have := hge q hq; omega)
                                  have sz2 := Nat.le_trans sz1 hg2.size
                                  obtain ⟨a2, c2, rfl⟩ := own_slice2 row2
                                  rw [rep_map] at row2
                                  have HY := hid (And.intro row2 (And.intro x2 (And.intro bl2 sz2)))
                                  clear row2 x2 bl2 sz2 hg2 hge hba x1 bl1 sz1 own x0 hb sz)
          obtain ⟨row, x0, hb, sz⟩ := HY.out
          clear HY
          have hbd := (Below.refl W2.heap.size W2).drew
          have S0 := x0.below hbd
          have row1 := own_below2 row hbd
          have bl1 := hb.trans (hbd.mono hb.size)
          have sz1 : w.heap.size + 1 ≤ W2.drew.heap.size := sz
          clear row x0 hb sz hbd
          refine wp_region_head 11 (fun w' => Bx w' w.heap.size #[.slice ac nn cc, .int .i64 L] 24) (by kernel_rfl) rfl ?_
          generalize W2.drew = Y0 at *
          refine HeadAt.take (i := 0) (.agg #[.slice ac nn cc, .int .i64 L]) rfl (by kernel_rfl) (.inl ⟨rfl, fun w' z => ?_⟩) S0 ?_
          · (have z0 := z.cell 0 rfl; have z1 := z.cell 1 rfl; simp [go_sem, z0, z1])
          refine HeadAt.take (i := 2) (.slice a2 (i + 1) c2) rfl (by kernel_rfl) (.inl ⟨rfl, fun _ _ => by simp [go_sem]⟩) S0 ?_
          (try simp only [Act.put, List.getElem_toArray, List.getElem_cons_succ, List.getElem_cons_zero, List.setIfInBounds_toArray, List.set_cons_succ, List.set_cons_zero])
          refine HeadAt.one (i := 1) rfl (by kernel_rfl) ?_
          generalize hK : Upto _ _ = K0
          (try simp only [Act.put, List.getElem_toArray, List.getElem_cons_succ, List.getElem_cons_zero, List.setIfInBounds_toArray, List.set_cons_succ, List.set_cons_zero])
          have hbl := below_one (w := Y0) (.cells #[] 3)
          have ho1 := own_lit0 Y0 3 1
          have hltr : ∀ q, (Value.slice a2 (i + 1) c2).ownBlock = some q → q < Y0.heap.size := fun q hq => (row1.lt q hq).2
          have HY := hid (And.intro (S0.below hbl) (And.intro (own_below2 row1 hbl) (And.intro (bl1.trans (hbl.mono bl1.size)) (And.intro (Nat.le_trans sz1 hbl.size) (And.intro ho1 (And.intro hltr (And.intro sz1 hbl.size)))))))
          clear S0 row1 bl1 sz1 hbl ho1 hltr
          go_wp2_with fail
          obtain ⟨S0, row1, bl1, sz1, ho1, hltr, hgn, hgs⟩ := HY.out
          clear HY
          generalize Y0.heap.size = gn at *
          generalize Y0.alloc _ = Y1 at *
          subst hK
          refine ⟨S0, ?_⟩
          (try simp only [Act.put, List.getElem_toArray, List.getElem_cons_succ, List.getElem_cons_zero, List.setIfInBounds_toArray, List.set_cons_succ, List.set_cons_zero])
          refine HeadAt.one (i := 3) rfl (by kernel_rfl) ?_
          generalize hK : Upto _ _ = K0
          (try simp only [Act.put, List.getElem_toArray, List.getElem_cons_succ, List.getElem_cons_zero, List.setIfInBounds_toArray, List.set_cons_succ, List.set_cons_zero])
          have hcl := Cls.of_own2 row1
          have hge := own_ge2 ho1
          have hlen : ((List.replicate (i + 1) t).map (Value.int .i64)).length = (i + 1) * 1 := by simp
          go_wp2_with (first | (at_builtin; refine wpList_app rfl _ _ 41 rfl gn 3 j0 (.int .i64 0) 1 8 under41 hj0 jz0 jz1 jz2 rfl (by decide) _ 0 [] rfl ho1 a2 (i + 1) c2 _ rfl hlen hcl (ints_one _) (by unfold maxLen; omega) (by omega) hgs ?_; intro v3 Y2 row3 hg3) | fail)
          have S1 := S0.gb hg3 (fun q hq => by have := hge q hq; omega)
          have row2 := own_keep row1 hg3 (fun q hq e => by have := hge q e; have := hltr q hq; omega)
          have bl2 := bl1.grown hg3 (by omega) (fun q hq => by have := hge q hq; omega)
          have sz2 := Nat.le_trans sz1 hg3.size
          rw [Nat.zero_add, List.nil_append] at row3
          have hT : ∃ a3 c3, v3 = .slice a3 (i + 1) c3 ∧ Ints Y2 a3 (List.replicate (i + 1) t) := by
            obtain ⟨a3, c3, h1, h2⟩ := Ints.of_own (xs := List.replicate (i + 1) t) (by rw [List.length_replicate]; exact row3) (by rw [List.length_replicate]; omega) (fun x hx => by rw [(List.mem_replicate.1 hx).2]; omega)
            rw [List.length_replicate] at h1
            exact ⟨a3, c3, h1, h2⟩
          obtain ⟨a3, c3, rfl, hT3⟩ := hT
          have hX3 := hX0.below bl2 (Nat.le_refl _)
          clear S0 row1 bl1 sz1 ho1 hltr hgn hgs hcl hge hlen hg3 row3
          subst hK
          refine ⟨S1, ?_⟩
          (try simp only [Act.put, List.getElem_toArray, List.getElem_cons_succ, List.getElem_cons_zero, List.setIfInBounds_toArray, List.set_cons_succ, List.set_cons_zero])
          refine HeadAt.one (i := 4) rfl (by kernel_rfl) ?_
          generalize hK : Upto _ _ = K0
          (try simp only [Act.put, List.getElem_toArray, List.getElem_cons_succ, List.getElem_cons_zero, List.setIfInBounds_toArray, List.set_cons_succ, List.set_cons_zero])
          have hw2 := hw1 a3 c3 Y2 hX3 hT3
          clear hw1
          go_wp2_with fail
          refine hw2.mono ?_
          rintro e Y3 ⟨a7, c7, rfl, hb5⟩
          have S2 := S1.below hb5
          have row3 := own_below2 row2 hb5
          have bl3 := bl2.trans (hb5.mono bl2.size)
          have sz3 := Nat.le_trans sz2 hb5.size
          clear S1 row2 bl2 sz2 hb5 hw2 hX3 hT3
          go_wp2_with fail
          subst hK
          refine ⟨S2, ?_⟩
          (try simp only [Act.put, List.getElem_toArray, List.getElem_cons_succ, List.getElem_cons_zero, List.setIfInBounds_toArray, List.set_cons_succ, List.set_cons_zero])
          refine HeadAt.take (i := 5) (.tuple #[.slice a7 (i + 1) c7, .int .i64 m, .int .i64 0]) rfl (by kernel_rfl) (.inl ⟨rfl, fun w' z => ?_⟩) S2 ?_
          · (simp [go_sem])
          (try simp only [Act.put, List.getElem_toArray, List.getElem_cons_succ, List.getElem_cons_zero, List.setIfInBounds_toArray, List.set_cons_succ, List.set_cons_zero])
          refine HeadAt.take (i := 6) (.slice a7 (i + 1) c7) rfl (by kernel_rfl) (.inl ⟨rfl, fun w' z => ?_⟩) S2 ?_
          · (simp [go_sem])
          refine HeadAt.take (i := 7) (.int .i64 m) rfl (by kernel_rfl) (.inl ⟨rfl, fun w' z => ?_⟩) S2 ?_
          · (simp [go_sem])
          refine HeadAt.take (i := 8) (.int .i64 0) rfl (by kernel_rfl) (.inl ⟨rfl, fun w' z => ?_⟩) S2 ?_
          · (simp [go_sem])
          (try simp only [Act.put, List.getElem_toArray, List.getElem_cons_succ, List.getElem_cons_zero, List.setIfInBounds_toArray, List.set_cons_succ, List.set_cons_zero])
          refine HeadAt.take (i := 9) (.slice a7 (i + 1) c7) rfl (by kernel_rfl) (.inl ⟨rfl, fun w' z => ?_⟩) S2 ?_
          · (simp [go_sem])
          refine HeadAt.take (i := 10) (.int .i64 m) rfl (by kernel_rfl) (.inl ⟨rfl, fun w' z => ?_⟩) S2 ?_
          · (simp [go_sem])
          (try simp only [Act.put, List.getElem_toArray, List.getElem_cons_succ, List.getElem_cons_zero, List.setIfInBounds_toArray, List.set_cons_succ, List.set_cons_zero])
          refine HeadAt.done (by kernel_rfl) ?_
          (try simp only [Act.put, List.drop_succ_cons, List.drop_zero, List.getElem_toArray, List.getElem_cons_succ, List.getElem_cons_zero])
          have HZ := hid (And.intro row3 (And.intro S2 (And.intro bl3 sz3)))
          clear row3 S2 bl3 sz3
          go_wp2_with fail
          refine NoPanic.normal ?_
          rcases hdi with ⟨z1, z2⟩ | ⟨z1, z2⟩
          · have hm0 : (m == 0) = true := by simpa using z1
            have z2I : (N : Int) ≤ (i : Int) + 1 := by omega
            clear z1 z2
            go_wp2
            go_roundw
            case rel =>
              obtain ⟨row3, S2, bl3, sz3⟩ := HZ.out
              exact ⟨i + 1, a2, c2, by omega, by simp, rfl, row3, S2, bl3, sz3⟩
            case measure => simp [intOf]; omega
          · have hm0 : (m == 0) = false := by simpa using z1
            have z2I : ¬ (N : Int) ≤ (i : Int) + 1 := by omega
            clear z1 z2
            go_wp2
            go_roundw
            case rel =>
              obtain ⟨row3, S2, bl3, sz3⟩ := HZ.out
              exact ⟨i + 1, a2, c2, by omega, by simp, rfl, row3, S2, bl3, sz3⟩
            case measure => simp [intOf]; omega
        · have hi6 : i = 6 := by omega
          have hiI : ¬ (i : Int) < 6 := by omega
          clear own x0 hwe hdec hi6
          go_wp2_with fail
          refine (hwk _).mono ?_
          rintro e Vw ⟨rfl, hbw9⟩
          replace hb := hb.trans (hbw9.mono hb.size)
          go_wp2
          go_ret
          exact ⟨rfl, hb⟩
    · have hn0 : (((N : Int)) == 0) = false := by
        simp only [beq_eq_false_iff_ne, ne_eq]
        intro e
        exact hL0 (hNL.1 (by omega))
      have hl0 : (L == 0) = false := by simpa using hL0
      clear hNL hN hL0
      have c0 := x0.cell 0 rfl; have c1 := x0.cell 1 rfl
      go_enter Try.func13, Try.ntmps13
      go_wp2_with fail
      refine (h0).mono ?_
      rintro e Vc10 ⟨rfl, hb1⟩
      clear c0 c1
      replace x0 := x0.below hb1
      replace hX1 := hX1.below hb1 (Nat.le_refl _)
      replace hb := hb.trans (hb1.mono hb.size)
      clear hb1 h0 hW
      have c0 := x0.cell 0 rfl; have c1 := x0.cell 1 rfl
      go_wp2_with fail
      refine (h1 _).mono ?_
      rintro e Vc11 ⟨rfl, rfl⟩
      clear h1
      go_wp2_with fail
      refine (hrp _ hX1).mono ?_
      rintro e Vc12 ⟨rfl, hb1⟩
      clear c0 c1
      replace x0 := x0.below hb1
      replace hX1 := hX1.below hb1 (Nat.le_refl _)
      replace hb := hb.trans (hb1.mono hb.size)
      clear hb1 hrp
      have c0 := x0.cell 0 rfl; have c1 := x0.cell 1 rfl
      go_wp2_with fail
      refine (hk0 _).mono ?_
      rintro e Vc13 ⟨rfl, rfl⟩
      clear hk0 hk3
      clear hX1
      go_wp2
      clear c0 c1
      go_loopw [7, 8, 9, 10, 11] (fun v7 v8 v9 v10 v11 wr => ∃ (i : Nat) (av : Option Addr) (cv : Nat), i ≤ 6 ∧ v8 = .int .i64 (i : Int) ∧ v7 = .slice av i cv ∧ wr.ownsRow (w.heap.size + 1) 3 1 (.slice av i cv) i ((List.replicate i t).map (Value.int .i64)) ∧ Bx wr w.heap.size #[.slice ac nn cc, .int .i64 L] 24 ∧ Below w.heap.size w wr ∧ w.heap.size + 1 ≤ wr.heap.size) (fun _ v8 _ _ _ _ => 6 - (intOf v8).toNat)
      case atStart => exact ⟨0, none, 0, Nat.zero_le _, rfl, rfl, World.ownsRow_nil _ _ _ _, x0, hb, x0.lt⟩
      case round =>
        clear x0 hb
        obtain ⟨i, av, cv, hi, rfl, rfl, own, x0, hb, sz⟩ := hrel
        by_cases hlt : i < 6
        · have hiI : (i : Int) < 6 := by omega
          have hw1 := hwe (i + 1) (by omega)
          have hdi := hdec i
          obtain ⟨m, hm⟩ : ∃ m, m = lo (i + 1) := ⟨_, rfl⟩
          rw [← hm] at hw1 hdi
          clear hm hwe hdec
          have hge := own_ge2 own
          have hba := below_one (w := wr) (.cells #[.int .i64 t] 3)
          have x1 := x0.below hba
          have bl1 := hb.trans (hba.mono hb.size)
          have sz1 := Nat.le_trans sz hba.size
          go_upto_region 11 with (at_builtin; refine wpList_append_own _ rfl _ _ 41 rfl (w.heap.size + 1) 3 j0 (.int .i64 0) 1 8 under41 hj0 jz0 jz1 jz2 rfl (by decide) (.slice av i cv) i _ rfl (own.alloc _) ⟨wr.heap.size, 0, none⟩ 1 1 [.int .i64 t] rfl rfl (cell_one_new _ _ _) (ints_oneCell .i64 [t]) (by unfold maxLen; omega) (by omega) (by simp; omega) ?_
                                  intro v2 W2 row2 hg2 _
                                  have x2 := x1.gb hg2 (fun q hq => by have := hge q hq; omega)
                                  have bl2 := bl1.grown hg2 (by omega) (fun q hq => by have := hge q hq; omega)
                                  have sz2 := Nat.le_trans sz1 hg2.size
                                  obtain ⟨a2, c2, rfl⟩ := own_slice2 row2
                                  rw [rep_map] at row2
                                  have HY := hid (And.intro row2 (And.intro x2 (And.intro bl2 sz2)))
                                  clear row2 x2 bl2 sz2 hg2 hge hba x1 bl1 sz1 own x0 hb sz)
          obtain ⟨row, x0, hb, sz⟩ := HY.out
          clear HY
          have hbd := (Below.refl W2.heap.size W2).drew
          have S0 := x0.below hbd
          have row1 := own_below2 row hbd
          have bl1 := hb.trans (hbd.mono hb.size)
          have sz1 : w.heap.size + 1 ≤ W2.drew.heap.size := sz
          clear row x0 hb sz hbd
          refine wp_region_head 11 (fun w' => Bx w' w.heap.size #[.slice ac nn cc, .int .i64 L] 24) (by kernel_rfl) rfl ?_
          generalize W2.drew = Y0 at *
          refine HeadAt.take (i := 0) (.agg #[.slice ac nn cc, .int .i64 L]) rfl (by kernel_rfl) (.inl ⟨rfl, fun w' z => ?_⟩) S0 ?_
          · (have z0 := z.cell 0 rfl; have z1 := z.cell 1 rfl; simp [go_sem, z0, z1])
          refine HeadAt.take (i := 2) (.slice a2 (i + 1) c2) rfl (by kernel_rfl) (.inl ⟨rfl, fun _ _ => by simp [go_sem]⟩) S0 ?_
          (try simp only [Act.put, List.getElem_toArray, List.getElem_cons_succ, List.getElem_cons_zero, List.setIfInBounds_toArray, List.set_cons_succ, List.set_cons_zero])
          refine HeadAt.one (i := 1) rfl (by kernel_rfl) ?_
          generalize hK : Upto _ _ = K0
          (try simp only [Act.put, List.getElem_toArray, List.getElem_cons_succ, List.getElem_cons_zero, List.setIfInBounds_toArray, List.set_cons_succ, List.set_cons_zero])
          have hbl := below_one (w := Y0) (.cells #[] 3)
          have ho1 := own_lit0 Y0 3 1
          have hltr : ∀ q, (Value.slice a2 (i + 1) c2).ownBlock = some q → q < Y0.heap.size := fun q hq => (row1.lt q hq).2
          have HY := hid (And.intro (S0.below hbl) (And.intro (own_below2 row1 hbl) (And.intro (bl1.trans (hbl.mono bl1.size)) (And.intro (Nat.le_trans sz1 hbl.size) (And.intro ho1 (And.intro hltr (And.intro sz1 hbl.size)))))))
          clear S0 row1 bl1 sz1 hbl ho1 hltr
          go_wp2_with fail
          obtain ⟨S0, row1, bl1, sz1, ho1, hltr, hgn, hgs⟩ := HY.out
          clear HY
          generalize Y0.heap.size = gn at *
          generalize Y0.alloc _ = Y1 at *
          subst hK
          refine ⟨S0, ?_⟩
          (try simp only [Act.put, List.getElem_toArray, List.getElem_cons_succ, List.getElem_cons_zero, List.setIfInBounds_toArray, List.set_cons_succ, List.set_cons_zero])
          refine HeadAt.one (i := 3) rfl (by kernel_rfl) ?_
          generalize hK : Upto _ _ = K0
          (try simp only [Act.put, List.getElem_toArray, List.getElem_cons_succ, List.getElem_cons_zero, List.setIfInBounds_toArray, List.set_cons_succ, List.set_cons_zero])
          have hcl := Cls.of_own2 row1
          have hge := own_ge2 ho1
          have hlen : ((List.replicate (i + 1) t).map (Value.int .i64)).length = (i + 1) * 1 := by simp
          go_wp2_with (first | (at_builtin; refine wpList_app rfl _ _ 41 rfl gn 3 j0 (.int .i64 0) 1 8 under41 hj0 jz0 jz1 jz2 rfl (by decide) _ 0 [] rfl ho1 a2 (i + 1) c2 _ rfl hlen hcl (ints_one _) (by unfold maxLen; omega) (by omega) hgs ?_; intro v3 Y2 row3 hg3) | fail)
          have S1 := S0.gb hg3 (fun q hq => by have := hge q hq; omega)
          have row2 := own_keep row1 hg3 (fun q hq e => by have := hge q e; have := hltr q hq; omega)
          have bl2 := bl1.grown hg3 (by omega) (fun q hq => by have := hge q hq; omega)
          have sz2 := Nat.le_trans sz1 hg3.size
          rw [Nat.zero_add, List.nil_append] at row3
          have hT : ∃ a3 c3, v3 = .slice a3 (i + 1) c3 ∧ Ints Y2 a3 (List.replicate (i + 1) t) := by
            obtain ⟨a3, c3, h1, h2⟩ := Ints.of_own (xs := List.replicate (i + 1) t) (by rw [List.length_replicate]; exact row3) (by rw [List.length_replicate]; omega) (fun x hx => by rw [(List.mem_replicate.1 hx).2]; omega)
            rw [List.length_replicate] at h1
            exact ⟨a3, c3, h1, h2⟩
          obtain ⟨a3, c3, rfl, hT3⟩ := hT
          have hX3 := hX0.below bl2 (Nat.le_refl _)
          clear S0 row1 bl1 sz1 ho1 hltr hgn hgs hcl hge hlen hg3 row3
          subst hK
          refine ⟨S1, ?_⟩
          (try simp only [Act.put, List.getElem_toArray, List.getElem_cons_succ, List.getElem_cons_zero, List.setIfInBounds_toArray, List.set_cons_succ, List.set_cons_zero])
          refine HeadAt.one (i := 4) rfl (by kernel_rfl) ?_
          generalize hK : Upto _ _ = K0
          (try simp only [Act.put, List.getElem_toArray, List.getElem_cons_succ, List.getElem_cons_zero, List.setIfInBounds_toArray, List.set_cons_succ, List.set_cons_zero])
          have hw2 := hw1 a3 c3 Y2 hX3 hT3
          clear hw1
          go_wp2_with fail
          refine hw2.mono ?_
          rintro e Y3 ⟨a7, c7, rfl, hb5⟩
          have S2 := S1.below hb5
          have row3 := own_below2 row2 hb5
          have bl3 := bl2.trans (hb5.mono bl2.size)
          have sz3 := Nat.le_trans sz2 hb5.size
          clear S1 row2 bl2 sz2 hb5 hw2 hX3 hT3
          go_wp2_with fail
          subst hK
          refine ⟨S2, ?_⟩
          (try simp only [Act.put, List.getElem_toArray, List.getElem_cons_succ, List.getElem_cons_zero, List.setIfInBounds_toArray, List.set_cons_succ, List.set_cons_zero])
          refine HeadAt.take (i := 5) (.tuple #[.slice a7 (i + 1) c7, .int .i64 m, .int .i64 0]) rfl (by kernel_rfl) (.inl ⟨rfl, fun w' z => ?_⟩) S2 ?_
          · (simp [go_sem])
          (try simp only [Act.put, List.getElem_toArray, List.getElem_cons_succ, List.getElem_cons_zero, List.setIfInBounds_toArray, List.set_cons_succ, List.set_cons_zero])
          refine HeadAt.take (i := 6) (.slice a7 (i + 1) c7) rfl (by kernel_rfl) (.inl ⟨rfl, fun w' z => ?_⟩) S2 ?_
          · (simp [go_sem])
          refine HeadAt.take (i := 7) (.int .i64 m) rfl (by kernel_rfl) (.inl ⟨rfl, fun w' z => ?_⟩) S2 ?_
          · (simp [go_sem])
          refine HeadAt.take (i := 8) (.int .i64 0) rfl (by kernel_rfl) (.inl ⟨rfl, fun w' z => ?_⟩) S2 ?_
          · (simp [go_sem])
          (try simp only [Act.put, List.getElem_toArray, List.getElem_cons_succ, List.getElem_cons_zero, List.setIfInBounds_toArray, List.set_cons_succ, List.set_cons_zero])
          refine HeadAt.take (i := 9) (.slice a7 (i + 1) c7) rfl (by kernel_rfl) (.inl ⟨rfl, fun w' z => ?_⟩) S2 ?_
          · (simp [go_sem])
          refine HeadAt.take (i := 10) (.int .i64 m) rfl (by kernel_rfl) (.inl ⟨rfl, fun w' z => ?_⟩) S2 ?_
          · (simp [go_sem])
          (try simp only [Act.put, List.getElem_toArray, List.getElem_cons_succ, List.getElem_cons_zero, List.setIfInBounds_toArray, List.set_cons_succ, List.set_cons_zero])
          refine HeadAt.done (by kernel_rfl) ?_
          (try simp only [Act.put, List.drop_succ_cons, List.drop_zero, List.getElem_toArray, List.getElem_cons_succ, List.getElem_cons_zero])
          have HZ := hid (And.intro row3 (And.intro S2 (And.intro bl3 sz3)))
          clear row3 S2 bl3 sz3
          go_wp2_with fail
          refine NoPanic.normal ?_
          rcases hdi with ⟨z1, z2⟩ | ⟨z1, z2⟩
          · have hm0 : (m == 0) = true := by simpa using z1
            have z2I : (N : Int) ≤ (i : Int) + 1 := by omega
            clear z1 z2
            go_wp2
            go_roundw
            case rel =>
              obtain ⟨row3, S2, bl3, sz3⟩ := HZ.out
              exact ⟨i + 1, a2, c2, by omega, by simp, rfl, row3, S2, bl3, sz3⟩
            case measure => simp [intOf]; omega
          · have hm0 : (m == 0) = false := by simpa using z1
            have z2I : ¬ (N : Int) ≤ (i : Int) + 1 := by omega
            clear z1 z2
            go_wp2
            go_roundw
            case rel =>
              obtain ⟨row3, S2, bl3, sz3⟩ := HZ.out
              exact ⟨i + 1, a2, c2, by omega, by simp, rfl, row3, S2, bl3, sz3⟩
            case measure => simp [intOf]; omega
        · have hi6 : i = 6 := by omega
          have hiI : ¬ (i : Int) < 6 := by omega
          clear own x0 hwe hdec hi6
          go_wp2_with fail
          refine (hwk _).mono ?_
          rintro e Vw ⟨rfl, hbw9⟩
          replace hb := hb.trans (hbw9.mono hb.size)
          go_wp2
          go_ret
          exact ⟨rfl, hb⟩
  · skip
    have c0 := x0.cell 0 rfl; have c1 := x0.cell 1 rfl
    go_enter Try.func13, Try.ntmps13
    go_wp2_with fail
    refine (h0).mono ?_
    rintro e Vc14 ⟨rfl, hb1⟩
    clear c0 c1
    replace x0 := x0.below hb1
    replace hX1 := hX1.below hb1 (Nat.le_refl _)
    replace hb := hb.trans (hb1.mono hb.size)
    clear hb1 h0 hW
    have c0 := x0.cell 0 rfl; have c1 := x0.cell 1 rfl
    go_wp2_with fail
    refine (h1 _).mono ?_
    rintro e Vc15 ⟨rfl, rfl⟩
    clear h1
    go_wp2_with fail
    refine (hrp _ hX1).mono ?_
    rintro e Vc16 ⟨rfl, hb1⟩
    clear c0 c1
    replace x0 := x0.below hb1
    replace hX1 := hX1.below hb1 (Nat.le_refl _)
    replace hb := hb.trans (hb1.mono hb.size)
    clear hb1 hrp
    have c0 := x0.cell 0 rfl; have c1 := x0.cell 1 rfl
    go_wp2_with fail
    refine (hk3 _).mono ?_
    rintro e Vc17 ⟨rfl, rfl⟩
    clear hk0 hk3
    clear hX1
    go_wp2
    clear c0 c1
    go_loopw [7, 8, 9, 10, 11] (fun v7 v8 v9 v10 v11 wr => ∃ (i : Nat) (av : Option Addr) (cv : Nat), i ≤ 6 ∧ v8 = .int .i64 (i : Int) ∧ v7 = .slice av i cv ∧ wr.ownsRow (w.heap.size + 1) 3 1 (.slice av i cv) i ((List.replicate i t).map (Value.int .i64)) ∧ Bx wr w.heap.size #[.slice ac nn cc, .int .i64 L] 24 ∧ Below w.heap.size w wr ∧ w.heap.size + 1 ≤ wr.heap.size) (fun _ v8 _ _ _ _ => 6 - (intOf v8).toNat)
    case atStart => exact ⟨0, none, 0, Nat.zero_le _, rfl, rfl, World.ownsRow_nil _ _ _ _, x0, hb, x0.lt⟩
    case round =>
      clear x0 hb
      obtain ⟨i, av, cv, hi, rfl, rfl, own, x0, hb, sz⟩ := hrel
      by_cases hlt : i < 6
      · have hiI : (i : Int) < 6 := by omega
        have hw1 := hwe (i + 1) (by omega)
        have hdi := hdec i hlt
        obtain ⟨m, hm⟩ : ∃ m, m = lo (i + 1) := ⟨_, rfl⟩
        rw [← hm] at hw1 hdi
        clear hm hwe hdec
        have hge := own_ge2 own
        have hba := below_one (w := wr) (.cells #[.int .i64 t] 3)
        have x1 := x0.below hba
        have bl1 := hb.trans (hba.mono hb.size)
        have sz1 := Nat.le_trans sz hba.size
        go_upto_region 11 with (at_builtin; refine wpList_append_own _ rfl _ _ 41 rfl (w.heap.size + 1) 3 j0 (.int .i64 0) 1 8 under41 hj0 jz0 jz1 jz2 rfl (by decide) (.slice av i cv) i _ rfl (own.alloc _) ⟨wr.heap.size, 0, none⟩ 1 1 [.int .i64 t] rfl rfl (cell_one_new _ _ _) (ints_oneCell .i64 [t]) (by unfold maxLen; omega) (by omega) (by simp; omega) ?_
                                intro v2 W2 row2 hg2 _
                                have x2 := x1.gb hg2 (fun q hq => by have := hge q hq; omega)
                                have bl2 := bl1.grown hg2 (by omega) (fun q hq => by have := hge q hq; omega)
                                have sz2 := Nat.le_trans sz1 hg2.size
                                obtain ⟨a2, c2, rfl⟩ := own_slice2 row2
                                rw [rep_map] at row2
                                have HY := hid (And.intro row2 (And.intro x2 (And.intro bl2 sz2)))
                                clear row2 x2 bl2 sz2 hg2 hge hba x1 bl1 sz1 own x0 hb sz)
        obtain ⟨row, x0, hb, sz⟩ := HY.out
        clear HY
        have hbd := (Below.refl W2.heap.size W2).drew
        have S0 := x0.below hbd
        have row1 := own_below2 row hbd
        have bl1 := hb.trans (hbd.mono hb.size)
        have sz1 : w.heap.size + 1 ≤ W2.drew.heap.size := sz
        clear row x0 hb sz hbd
        refine wp_region_head 11 (fun w' => Bx w' w.heap.size #[.slice ac nn cc, .int .i64 L] 24) (by kernel_rfl) rfl ?_
        generalize W2.drew = Y0 at *
        refine HeadAt.take (i := 0) (.agg #[.slice ac nn cc, .int .i64 L]) rfl (by kernel_rfl) (.inl ⟨rfl, fun w' z => ?_⟩) S0 ?_
        · (have z0 := z.cell 0 rfl; have z1 := z.cell 1 rfl; simp [go_sem, z0, z1])
        refine HeadAt.take (i := 2) (.slice a2 (i + 1) c2) rfl (by kernel_rfl) (.inl ⟨rfl, fun _ _ => by simp [go_sem]⟩) S0 ?_
        (try simp only [Act.put, List.getElem_toArray, List.getElem_cons_succ, List.getElem_cons_zero, List.setIfInBounds_toArray, List.set_cons_succ, List.set_cons_zero])
        refine HeadAt.one (i := 1) rfl (by kernel_rfl) ?_
        generalize hK : Upto _ _ = K0
        (try simp only [Act.put, List.getElem_toArray, List.getElem_cons_succ, List.getElem_cons_zero, List.setIfInBounds_toArray, List.set_cons_succ, List.set_cons_zero])
        have hbl := below_one (w := Y0) (.cells #[] 3)
        have ho1 := own_lit0 Y0 3 1
        have hltr : ∀ q, (Value.slice a2 (i + 1) c2).ownBlock = some q → q < Y0.heap.size := fun q hq => (row1.lt q hq).2
        have HY := hid (And.intro (S0.below hbl) (And.intro (own_below2 row1 hbl) (And.intro (bl1.trans (hbl.mono bl1.size)) (And.intro (Nat.le_trans sz1 hbl.size) (And.intro ho1 (And.intro hltr (And.intro sz1 hbl.size)))))))
        clear S0 row1 bl1 sz1 hbl ho1 hltr
        go_wp2_with fail
        obtain ⟨S0, row1, bl1, sz1, ho1, hltr, hgn, hgs⟩ := HY.out
        clear HY
        generalize Y0.heap.size = gn at *
        generalize Y0.alloc _ = Y1 at *
        subst hK
        refine ⟨S0, ?_⟩
        (try simp only [Act.put, List.getElem_toArray, List.getElem_cons_succ, List.getElem_cons_zero, List.setIfInBounds_toArray, List.set_cons_succ, List.set_cons_zero])
        refine HeadAt.one (i := 3) rfl (by kernel_rfl) ?_
        generalize hK : Upto _ _ = K0
        (try simp only [Act.put, List.getElem_toArray, List.getElem_cons_succ, List.getElem_cons_zero, List.setIfInBounds_toArray, List.set_cons_succ, List.set_cons_zero])
        have hcl := Cls.of_own2 row1
        have hge := own_ge2 ho1
        have hlen : ((List.replicate (i + 1) t).map (Value.int .i64)).length = (i + 1) * 1 := by simp
        go_wp2_with (first | (at_builtin; refine wpList_app rfl _ _ 41 rfl gn 3 j0 (.int .i64 0) 1 8 under41 hj0 jz0 jz1 jz2 rfl (by decide) _ 0 [] rfl ho1 a2 (i + 1) c2 _ rfl hlen hcl (ints_one _) (by unfold maxLen; omega) (by omega) hgs ?_; intro v3 Y2 row3 hg3) | fail)
        have S1 := S0.gb hg3 (fun q hq => by have := hge q hq; omega)
        have row2 := own_keep row1 hg3 (fun q hq e => by have := hge q e; have := hltr q hq; omega)
        have bl2 := bl1.grown hg3 (by omega) (fun q hq => by have := hge q hq; omega)
        have sz2 := Nat.le_trans sz1 hg3.size
        rw [Nat.zero_add, List.nil_append] at row3
        have hT : ∃ a3 c3, v3 = .slice a3 (i + 1) c3 ∧ Ints Y2 a3 (List.replicate (i + 1) t) := by
          obtain ⟨a3, c3, h1, h2⟩ := Ints.of_own (xs := List.replicate (i + 1) t) (by rw [List.length_replicate]; exact row3) (by rw [List.length_replicate]; omega) (fun x hx => by rw [(List.mem_replicate.1 hx).2]; omega)
          rw [List.length_replicate] at h1
          exact ⟨a3, c3, h1, h2⟩
        obtain ⟨a3, c3, rfl, hT3⟩ := hT
        have hX3 := hX0.below bl2 (Nat.le_refl _)
        clear S0 row1 bl1 sz1 ho1 hltr hgn hgs hcl hge hlen hg3 row3
        subst hK
        refine ⟨S1, ?_⟩
        (try simp only [Act.put, List.getElem_toArray, List.getElem_cons_succ, List.getElem_cons_zero, List.setIfInBounds_toArray, List.set_cons_succ, List.set_cons_zero])
        refine HeadAt.one (i := 4) rfl (by kernel_rfl) ?_
        generalize hK : Upto _ _ = K0
        (try simp only [Act.put, List.getElem_toArray, List.getElem_cons_succ, List.getElem_cons_zero, List.setIfInBounds_toArray, List.set_cons_succ, List.set_cons_zero])
        have hw2 := hw1 a3 c3 Y2 hX3 hT3
        clear hw1
        go_wp2_with fail
        refine hw2.mono ?_
        rintro e Y3 ⟨a7, c7, rfl, hb5⟩
        have S2 := S1.below hb5
        have row3 := own_below2 row2 hb5
        have bl3 := bl2.trans (hb5.mono bl2.size)
        have sz3 := Nat.le_trans sz2 hb5.size
        clear S1 row2 bl2 sz2 hb5 hw2 hX3 hT3
        go_wp2_with fail
        subst hK
        refine ⟨S2, ?_⟩
        (try simp only [Act.put, List.getElem_toArray, List.getElem_cons_succ, List.getElem_cons_zero, List.setIfInBounds_toArray, List.set_cons_succ, List.set_cons_zero])
        refine HeadAt.take (i := 5) (.tuple #[.slice a7 (i + 1) c7, .int .i64 m, .int .i64 0]) rfl (by kernel_rfl) (.inl ⟨rfl, fun w' z => ?_⟩) S2 ?_
        · (simp [go_sem])
        (try simp only [Act.put, List.getElem_toArray, List.getElem_cons_succ, List.getElem_cons_zero, List.setIfInBounds_toArray, List.set_cons_succ, List.set_cons_zero])
        refine HeadAt.take (i := 6) (.slice a7 (i + 1) c7) rfl (by kernel_rfl) (.inl ⟨rfl, fun w' z => ?_⟩) S2 ?_
        · (simp [go_sem])
        refine HeadAt.take (i := 7) (.int .i64 m) rfl (by kernel_rfl) (.inl ⟨rfl, fun w' z => ?_⟩) S2 ?_
        · (simp [go_sem])
        refine HeadAt.take (i := 8) (.int .i64 0) rfl (by kernel_rfl) (.inl ⟨rfl, fun w' z => ?_⟩) S2 ?_
        · (simp [go_sem])
        (try simp only [Act.put, List.getElem_toArray, List.getElem_cons_succ, List.getElem_cons_zero, List.setIfInBounds_toArray, List.set_cons_succ, List.set_cons_zero])
        refine HeadAt.take (i := 9) (.slice a7 (i + 1) c7) rfl (by kernel_rfl) (.inl ⟨rfl, fun w' z => ?_⟩) S2 ?_
        · (simp [go_sem])
        refine HeadAt.take (i := 10) (.int .i64 m) rfl (by kernel_rfl) (.inl ⟨rfl, fun w' z => ?_⟩) S2 ?_
        · (simp [go_sem])
        (try simp only [Act.put, List.getElem_toArray, List.getElem_cons_succ, List.getElem_cons_zero, List.setIfInBounds_toArray, List.set_cons_succ, List.set_cons_zero])
        refine HeadAt.done (by kernel_rfl) ?_
        (try simp only [Act.put, List.drop_succ_cons, List.drop_zero, List.getElem_toArray, List.getElem_cons_succ, List.getElem_cons_zero])
        have HZ := hid (And.intro row3 (And.intro S2 (And.intro bl3 sz3)))
        clear row3 S2 bl3 sz3
        go_wp2_with fail
        refine NoPanic.normal ?_
        have hm0 : (m == 0) = false := by simpa using hdi
        clear hdi
        go_wp2
        go_roundw
        case rel =>
          obtain ⟨row3, S2, bl3, sz3⟩ := HZ.out
          exact ⟨i + 1, a2, c2, by omega, by simp, rfl, row3, S2, bl3, sz3⟩
        case measure => simp [intOf]; omega
      · have hi6 : i = 6 := by omega
        have hiI : ¬ (i : Int) < 6 := by omega
        clear own x0 hwe hdec hi6
        go_wp2_with fail
        refine (hwk _).mono ?_
        rintro e Vw ⟨rfl, hbw9⟩
        replace hb := hb.trans (hbw9.mono hb.size)
        go_wp2
        go_ret
        exact ⟨rfl, hb⟩
theorem sharesRepaid_any (ac : Option Addr) (cc : Nat) (cs : List Cl) (L : Int) (t : Int) (w : World) (hS : ShIn w ac cc cs) : Calls Try.prog 13 #[.agg #[.slice ac cs.length cc, .int .i64 L], .int .i64 t] w fun e w' => e = .returned (.bool true) ∧ Below w.heap.size w w' := by
  cases h : (shB cs L && cenB t)
  · exact Rep_bad ac cc cs L t w hS h
  · simp only [Bool.and_eq_true] at h
    exact Rep_ok ac cc cs L t w (hS.cl (by have := (shB_ok h.1).1; omega)) h.1 h.2
end Go.Proofs.Ythgjjlkdekfdbaa
