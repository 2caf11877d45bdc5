import Derived.Test.YthgjjlkdekfdbaaRA
import Derived.Test.YthgjjlkdekfdbaaT28
import Derived.Test.YthgjjlkdekfdbaaT31
import Derived.Test.YthgjjlkdekfdbaaT33
/-! SharesLater. -/
namespace Go.Proofs.Ythgjjlkdekfdbaa
set_option linter.unusedSimpArgs false
set_option linter.unusedVariables false
open Go Go.RowKit

set_option maxRecDepth 100000 in
set_option maxHeartbeats 6000000 in
theorem Later_far (ac : Option Addr) (cc : Nat) (cs : List Cl) (L : Int) (a1 : Option Addr) (c1 : Nat) (fs : List Int) (a2 : Option Addr) (c2 : Nat) (bs : List Int) (w : World) (hS : ShIn w ac cc cs) (hla : fs.length ≤ 4611686018427387903) (hlb : bs.length ≤ 4611686018427387903) (hbad : shB cs L = false ∨ 6 < fs.length + bs.length) : Calls Try.prog 9 #[.agg #[.slice ac cs.length cc, .int .i64 L], .slice a1 fs.length c1, .slice a2 bs.length c2] w fun e w' => e = .returned (.bool true) ∧ Below w.heap.size w w' := by
  obtain ⟨W, hW, hb, _, x0⟩ := boxes1 w #[.slice ac cs.length cc, .int .i64 L] 24
  have hS1 := hS.below hb (Nat.le_refl _)
  have h0 := isShare_any ac cc cs L W hS1.l hS1.cl
  have hwk := fun V => works_any V
  obtain ⟨na, hna⟩ : ∃ m, m = fs.length := ⟨_, rfl⟩
  obtain ⟨nb, hnb⟩ : ∃ m, m = bs.length := ⟨_, rfl⟩
  rw [← hna] at hla hbad ⊢
  rw [← hnb] at hlb hbad ⊢
  clear hS hS1 hna hnb
  generalize shB cs L = r at *
  have c0 := x0.cell 0 rfl; have c1 := x0.cell 1 rfl
  go_enter Try.func9, Try.ntmps9
  cases r
  · clear hbad
    go_wp2_with fail
    refine (h0).mono ?_
    rintro e Vc1 ⟨rfl, hb1⟩
    clear c0 c1
    replace x0 := x0.below hb1
    replace hb := hb.trans (hb1.mono hb.size)
    clear hb1
    have c0 := x0.cell 0 rfl; have c1 := x0.cell 1 rfl
    go_wp2_with fail
    refine (hwk _).mono ?_
    rintro e Vw ⟨rfl, hbw9⟩
    clear c0 c1
    replace hb := hb.trans (hbw9.mono hb.size)
    go_wp2
    go_ret
    exact ⟨rfl, hb⟩
  · have h6 : 6 < na + nb := by simpa using hbad
    have ew : IntKind.i64.wrap ((na : Int) + (nb : Int)) = (na : Int) + (nb : Int) := IntWalk.i64_in _ (by omega)
    have h6I : (6 : Int) < (na : Int) + (nb : Int) := by omega
    clear hbad
    go_wp2_with fail
    refine (h0).mono ?_
    rintro e Vc3 ⟨rfl, hb1⟩
    clear c0 c1
    replace x0 := x0.below hb1
    replace hb := hb.trans (hb1.mono hb.size)
    clear hb1
    have c0 := x0.cell 0 rfl; have c1 := x0.cell 1 rfl
    go_wp2_with fail
    refine (hwk _).mono ?_
    rintro e Vw ⟨rfl, hbw9⟩
    clear c0 c1
    replace hb := hb.trans (hbw9.mono hb.size)
    go_wp2
    go_ret
    exact ⟨rfl, hb⟩
set_option maxRecDepth 100000 in
set_option maxHeartbeats 6000000 in
theorem Later_cents (ac : Option Addr) (cc : Nat) (cs : List Cl) (L : Int) (a1 : Option Addr) (c1 : Nat) (fs : List Int) (a2 : Option Addr) (c2 : Nat) (bs : List Int) (w : World) (hX : Clz w ac cs) (hA : Ints w a1 fs) (hB : Ints w a2 bs) (hs : shB cs L = true) (hn : fs.length + bs.length ≤ 6) (hc : (fs ++ bs).all cenB = false) : Calls Try.prog 9 #[.agg #[.slice ac cs.length cc, .int .i64 L], .slice a1 fs.length c1, .slice a2 bs.length c2] w fun e w' => e = .returned (.bool true) ∧ Below w.heap.size w w' := by
  obtain ⟨j0, hj0, jz0, jz1, jz2⟩ := info_parts info3i
  obtain ⟨W, hW, hb, _, x0⟩ := boxes1 w #[.slice ac cs.length cc, .int .i64 L] 24
  have hle := hX.len
  have h0 := isShare_any ac cc cs L W (by omega) (fun _ => hX.below hb (Nat.le_refl _))
  rw [hs] at h0
  have hwk := fun V => works_any V
  have hX1 := hX.below hb (Nat.le_refl _)
  have hA1 := hA.below hb (Nat.le_refl _)
  have hB1 := hB.below hb (Nat.le_refl _)
  have HRA := hid hA.2.1
  have HRB := hid hB.2.1
  obtain ⟨nn, hnn⟩ : ∃ nn, nn = cs.length := ⟨_, rfl⟩
  obtain ⟨na, hna⟩ : ∃ m, m = fs.length := ⟨_, rfl⟩
  obtain ⟨nb, hnb⟩ : ∃ m, m = bs.length := ⟨_, rfl⟩
  rw [← hnn] at h0 x0 hW ⊢
  rw [← hna] at hn ⊢
  rw [← hnb] at hn ⊢
  have HNA := hid hna; have HNB := hid hnb; have HC := hid hc
  have ew : IntKind.i64.wrap ((na : Int) + (nb : Int)) = (na : Int) + (nb : Int) := IntWalk.i64_in _ (by omega)
  have h6I : (na : Int) + (nb : Int) ≤ 6 := by omega
  clear hs hX hA hB hle hnn hna hnb hc
  have c0 := x0.cell 0 rfl; have c1 := x0.cell 1 rfl
  go_enter Try.func9, Try.ntmps9
  go_wp2_with fail
  refine (h0).mono ?_
  rintro e Vc5 ⟨rfl, hb1⟩
  clear c0 c1
  replace x0 := x0.below hb1
  replace hX1 := hX1.below hb1 (Nat.le_refl _)
  replace hA1 := hA1.below hb1 (Nat.le_refl _)
  replace hB1 := hB1.below hb1 (Nat.le_refl _)
  replace hb := hb.trans (hb1.mono hb.size)
  clear hb1 h0 hW
  have c0 := x0.cell 0 rfl; have c1 := x0.cell 1 rfl
  clear c0 c1
  have hA0 := own_lit0 Vc5 3 1
  have hbA := below_one (w := Vc5) (.cells #[] 3)
  have hcl := (hA1.below hbA (Nat.le_refl _)).cls
  have hml : (fs.map (Value.int .i64)).length = na * 1 := by rw [List.length_map, HNA.out, Nat.mul_one]
  have hmb : (bs.map (Value.int .i64)).length = nb * 1 := by rw [List.length_map, HNB.out, Nat.mul_one]
  have c0 := x0.cell 0 rfl; have c1' := x0.cell 1 rfl
  go_upto_region 5 with (first
                         | (at_builtin; refine wpList_app rfl _ _ 41 rfl Vc5.heap.size 3 j0 (.int .i64 0) 1 8 under41 hj0 jz0 jz1 jz2 rfl (by decide) _ 0 [] rfl hA0 a1 na c1 (fs.map (Value.int .i64)) rfl hml hcl (ints_one fs) (by unfold maxLen; omega) (by omega) (by simp) ?_
                            intro v1 W1 hown1 hg1
                            have hbg := hbA.grown hg1 (by simp) (own_ge hA0)
                            rw [Nat.zero_add, List.nil_append] at hown1
                            have hcb := (hB1.below hbg (Nat.le_refl _)).cls
                            have hge1 := own_ge hown1
                            have hsz1 := hbg.size)
                         | (at_builtin; refine wpList_app rfl _ _ 41 rfl Vc5.heap.size 3 j0 (.int .i64 0) 1 8 under41 hj0 jz0 jz1 jz2 rfl (by decide) v1 na (fs.map (Value.int .i64)) rfl hown1 a2 nb c2 (bs.map (Value.int .i64)) rfl hmb hcb (ints_one bs) (by unfold maxLen; omega) (by omega) hsz1 ?_
                            intro v2 W2 hown2 hg2
                            have hbg2 := hbg.grown hg2 hsz1 hge1
                            rw [← List.map_append] at hown2
                            obtain ⟨a7, c7, rfl, hT7⟩ : ∃ a7 c7, v2 = .slice a7 (na + nb) c7 ∧ Ints W2 a7 (fs ++ bs) := by
                              obtain ⟨a7, c7, q1, q2⟩ := Ints.of_own (xs := fs ++ bs) (by rw [List.length_append, ← HNA.out, ← HNB.out]; exact hown2) (by rw [List.length_append, ← HNA.out, ← HNB.out]; omega) (fun x hx => by rcases List.mem_append.1 hx with h | h; exact HRA.out x h; exact HRB.out x h)
                              rw [List.length_append, ← HNA.out, ← HNB.out] at q1
                              exact ⟨a7, c7, q1, q2⟩
                            have HXa := hid (And.intro (x0.below hbg2) (And.intro (hX1.below hbg2 (Nat.le_refl _)) (And.intro (hA1.below hbg2 (Nat.le_refl _)) (And.intro (hB1.below hbg2 (Nat.le_refl _)) (And.intro hT7 (hb.trans (hbg2.mono hb.size)))))))
                            clear hA0 hbA hcl hml hmb hown1 hg1 hbg hcb hge1 hsz1 hown2 hg2 hbg2 x0 hX1 hA1 hB1 hT7 hb c0 c1'))
  obtain ⟨x0, hX1, hA1, hB1, hT7, hb⟩ := HXa.out
  clear HXa
  have hce := fun x => IsCents_any x W2
  clear hX1 hA1 hB1 x0
  obtain ⟨n, hnE⟩ : ∃ n, n = na + nb := ⟨_, rfl⟩
  rw [← hnE]
  have hn6 : n ≤ 6 := by omega
  have HN := hid (show n = (fs ++ bs).length by rw [List.length_append, ← HNA.out, ← HNB.out, hnE])
  clear hnE
  go_loopw [6, 8] (fun v6 v8 wr => ∃ k : Nat, k ≤ n ∧ v8 = .int .i64 (k : Int) ∧ Hid (((fs ++ bs).take k).all cenB = true) ∧ wr = W2) (fun _ v8 _ => n - (intOf v8).toNat)
  case atStart => exact ⟨0, Nat.zero_le _, rfl, hid rfl, rfl⟩
  case round =>
    obtain ⟨k, hk, rfl, HA, rfl⟩ := hrel
    by_cases hlt : k < n
    · obtain ⟨b, off, y, rfl, hbl, hc, hx1, hx2, hg, _⟩ := hT7.at (k := k) (by rw [← HN.out]; exact hlt)
      have hkI : (k : Int) < n := by omega
      have hk0 : (0 : Int) ≤ (k : Int) := by omega
      have hcy := hce y
      cases he : cenB y
      · rw [he] at hcy
        clear he hg hce
        go_wp2_with fail
        refine hcy.mono ?_
        rintro e V2 ⟨rfl, rfl⟩
        go_wp2_with fail
        refine (hwk _).mono ?_
        rintro e Vw ⟨rfl, hbw9⟩
        replace hb := hb.trans (hbw9.mono hb.size)
        go_wp2
        go_ret
        exact ⟨rfl, hb⟩
      · rw [he] at hcy
        have HR := hid (show ((fs ++ bs).take (k + 1)).all cenB = true by rw [List.take_add_one, hg.out, List.all_append, HA.out]; simp [he])
        clear he hg hce
        go_wp2_with fail
        refine hcy.mono ?_
        rintro e V2 ⟨rfl, rfl⟩
        go_wp2
        go_roundw
        case rel => exact ⟨k + 1, by omega, by simp, HR, trivial⟩
        case measure => simp [intOf]; omega
    · exfalso
      have hkm : k = n := by omega
      have := HA.out
      rw [hkm, HN.out, List.take_length, HC.out] at this
      cases this
set_option maxRecDepth 100000 in
set_option maxHeartbeats 16000000 in
theorem Later_ok (ac : Option Addr) (cc : Nat) (cs : List Cl) (L : Int) (a1 : Option Addr) (c1 : Nat) (fs : List Int) (a2 : Option Addr) (c2 : Nat) (bs : List Int) (w : World) (hX : Clz w ac cs) (hA : Ints w a1 fs) (hB : Ints w a2 bs) (hs : shB cs L = true) (hn : fs.length + bs.length ≤ 6) (hc : (fs ++ bs).all cenB = true) : Calls Try.prog 9 #[.agg #[.slice ac cs.length cc, .int .i64 L], .slice a1 fs.length c1, .slice a2 bs.length c2] w fun e w' => e = .returned (.bool true) ∧ Below w.heap.size w w' := by
  obtain ⟨j0, hj0, jz0, jz1, jz2⟩ := info_parts info3i
  obtain ⟨W, hW, hb, _, x0⟩ := boxes1 w #[.slice ac cs.length cc, .int .i64 L] 24
  have hle := hX.len
  have h0 := isShare_any ac cc cs L W (by omega) (fun _ => hX.below hb (Nat.le_refl _))
  rw [hs] at h0
  have hwk := fun V => works_any V
  have hX1 := hX.below hb (Nat.le_refl _)
  have hA1 := hA.below hb (Nat.le_refl _)
  have hB1 := hB.below hb (Nat.le_refl _)
  have HRA := hid hA.2.1
  have HRB := hid hB.2.1
  have hcp := fun V hh => Copy_any ac cc cs L V hh
  obtain ⟨h5, hcs, hL⟩ := shB_ok hs
  have hca : fs.all cenB = true := by rw [List.all_append, Bool.and_eq_true] at hc; exact hc.1
  have hcb : bs.all cenB = true := by rw [List.all_append, Bool.and_eq_true] at hc; exact hc.2
  have rng : ∀ l : List Int, l.all cenB = true → ∀ t ∈ l, 0 ≤ t ∧ t ≤ 1000000 := fun l hl t ht => by
    have := List.all_eq_true.1 hl t ht
    rw [cenB_iff] at this
    omega
  obtain ⟨o1, ho1⟩ : ∃ o, o = wkO cs L fs := ⟨_, rfl⟩
  obtain ⟨o2, ho2⟩ : ∃ o, o = wkO cs o1 bs := ⟨_, rfl⟩
  obtain ⟨A, hAe⟩ : ∃ l, l = wkL cs L fs := ⟨_, rfl⟩
  obtain ⟨B, hBe⟩ : ∃ l, l = wkL cs o1 bs := ⟨_, rfl⟩
  have r1 : 0 ≤ o1 ∧ o1 ≤ L := by rw [ho1]; exact wkO_rng L fs hcs (by omega) (rng fs hca)
  have r2 : 0 ≤ o2 ∧ o2 ≤ o1 := by rw [ho2]; exact wkO_rng o1 bs hcs (by omega) (rng bs hcb)
  have hs1 : shB cs o1 = true := by
    unfold shB at hs ⊢
    simp only [Bool.and_eq_true, decide_eq_true_eq] at hs ⊢
    refine ⟨hs.1, ?_⟩
    have := hs.2
    rw [inI_iff] at this ⊢
    omega
  have eA : wkE cs L fs = 0 := wkE_zero.2 ⟨hs, by omega, hca⟩
  have eB : wkE cs o1 bs = 0 := wkE_zero.2 ⟨hs1, by omega, hcb⟩
  have eC : wkE cs L (fs ++ bs) = 0 := wkE_zero.2 ⟨hs, by rw [List.length_append]; omega, hc⟩
  have uL : wkL cs L (fs ++ bs) = A ++ B := by rw [wkL_app, ← ho1, ← hAe, ← hBe]
  have uO : wkO cs L (fs ++ bs) = o2 := by rw [wkO_app, ← ho1, ← ho2]
  have lA : A.length = fs.length := by rw [hAe, wkL_len]
  have lB : B.length = bs.length := by rw [hBe, wkL_len]
  have hw1 := fun a c V h1 h2 => Weeks_ok ac cc cs L a c fs V h1 h2 eA
  have hw2 := fun a5 c5 a c V h1 h2 => Weeks_ok a5 c5 cs o1 a c bs V h1 h2 eB
  have hw3 := fun a c V h1 h2 => Weeks_ok ac cc cs L a c (fs ++ bs) V h1 h2 eC
  rw [← hAe, ← ho1, lA] at hw1
  rw [← hBe, ← ho2, lB] at hw2
  rw [uL, uO, List.length_append, List.length_append, lA, lB] at hw3
  have hwk1 : fs.length + bs.length ≠ 0 → ∃ (t0 : Int) (u : Wk), (fs ++ bs)[0]? = some t0 ∧ (A ++ B)[0]? = some u ∧ ∀ V, Clz V ac cs → Calls Try.prog 19 #[.agg #[.slice ac cs.length cc, .int .i64 L], .int .i64 t0] V fun e w' => e = .returned (.tuple #[.agg #[.int .i64 u.op, .int .i64 u.ow, .int .i64 u.rp], .int .i64 0]) ∧ Below V.heap.size V w' := fun h0 => by
    rcases hl : fs ++ bs with _ | ⟨t0, r⟩
    · have : (fs ++ bs).length = 0 := by rw [hl]; rfl
      rw [List.length_append] at this
      omega
    · have ht0 : cenB t0 = true := by rw [hl] at hc; simp only [List.all_cons, Bool.and_eq_true] at hc; exact hc.1
      refine ⟨t0, settledW L cs t0, rfl, ?_, fun V hV => Week_ok ac cc cs L t0 V hV hs ht0 _ rfl⟩
      rw [← uL, hl]; rfl
  have hsp1 := fun (a b : Option Addr) (ca cb : Nat) V h1 h2 => sameSplits_eq a b ca cb A V h1 h2
  have hsp2 := fun (a b : Option Addr) (ca cb : Nat) V h1 h2 => sameSplits_eq a b ca cb B V h1 h2
  rw [lA] at hsp1
  rw [lB] at hsp2
  have hce := fun (y : Int) (V : World) (hy : y ∈ fs ++ bs) => (List.all_eq_true.1 hc y hy) ▸ IsCents_any y V
  clear eA eB eC uL uO hs hs1 hcs hL rng hca hcb hc h5 ho1 ho2 hAe hBe
  obtain ⟨nn, hnn⟩ : ∃ nn, nn = cs.length := ⟨_, rfl⟩
  obtain ⟨na, hna⟩ : ∃ m, m = fs.length := ⟨_, rfl⟩
  obtain ⟨nb, hnb⟩ : ∃ m, m = bs.length := ⟨_, rfl⟩
  rw [← hnn] at h0 x0 hW hw1 hw2 hw3 hwk1 hcp ⊢
  rw [← hna] at hn hw1 hw3 hwk1 hsp1 lA ⊢
  rw [← hnb] at hn hw2 hw3 hwk1 hsp2 lB ⊢
  have HNA := hid hna; have HNB := hid hnb; have HLA := hid lA; have HLB := hid lB
  have ew : IntKind.i64.wrap ((na : Int) + (nb : Int)) = (na : Int) + (nb : Int) := IntWalk.i64_in _ (by omega)
  have h6I : (na : Int) + (nb : Int) ≤ 6 := by omega
  have p1 : ¬ o1 < 0 := by omega
  have p2 : ¬ L < o1 := by omega
  have p3 : ¬ o2 < 0 := by omega
  have p4 : ¬ o1 < o2 := by omega
  have p5 : (o2 != o2) = false := by simp
  have p6 : ((na : Int) != (na : Int)) = false := by simp
  have p7 : ((nb : Int) != (nb : Int)) = false := by simp
  have p8 : ((na + nb : Nat) : Int) = (na : Int) + (nb : Int) := by omega
  have p9 : (((na : Int) + (nb : Int)) != ((na : Int) + (nb : Int))) = false := by simp
  clear hX hA hB hle hnn hna hnb lA lB r1 r2
  have c0 := x0.cell 0 rfl; have c1 := x0.cell 1 rfl
  go_enter Try.func9, Try.ntmps9
  go_wp2_with fail
  refine (h0).mono ?_
  rintro e Vc6 ⟨rfl, hb1⟩
  clear c0 c1
  replace x0 := x0.below hb1
  replace hX1 := hX1.below hb1 (Nat.le_refl _)
  replace hA1 := hA1.below hb1 (Nat.le_refl _)
  replace hB1 := hB1.below hb1 (Nat.le_refl _)
  replace hb := hb.trans (hb1.mono hb.size)
  clear hb1 h0 hW
  have c0 := x0.cell 0 rfl; have c1 := x0.cell 1 rfl
  clear c0 c1
  have hA0 := own_lit0 Vc6 3 1
  have hbA := below_one (w := Vc6) (.cells #[] 3)
  have hcl := (hA1.below hbA (Nat.le_refl _)).cls
  have hml : (fs.map (Value.int .i64)).length = na * 1 := by rw [List.length_map, HNA.out, Nat.mul_one]
  have hmb : (bs.map (Value.int .i64)).length = nb * 1 := by rw [List.length_map, HNB.out, Nat.mul_one]
  have c0 := x0.cell 0 rfl; have c1' := x0.cell 1 rfl
  go_upto_region 5 with (first
                         | (at_builtin; refine wpList_app rfl _ _ 41 rfl Vc6.heap.size 3 j0 (.int .i64 0) 1 8 under41 hj0 jz0 jz1 jz2 rfl (by decide) _ 0 [] rfl hA0 a1 na c1 (fs.map (Value.int .i64)) rfl hml hcl (ints_one fs) (by unfold maxLen; omega) (by omega) (by simp) ?_
                            intro v1 W1 hown1 hg1
                            have hbg := hbA.grown hg1 (by simp) (own_ge hA0)
                            rw [Nat.zero_add, List.nil_append] at hown1
                            have hcb := (hB1.below hbg (Nat.le_refl _)).cls
                            have hge1 := own_ge hown1
                            have hsz1 := hbg.size)
                         | (at_builtin; refine wpList_app rfl _ _ 41 rfl Vc6.heap.size 3 j0 (.int .i64 0) 1 8 under41 hj0 jz0 jz1 jz2 rfl (by decide) v1 na (fs.map (Value.int .i64)) rfl hown1 a2 nb c2 (bs.map (Value.int .i64)) rfl hmb hcb (ints_one bs) (by unfold maxLen; omega) (by omega) hsz1 ?_
                            intro v2 W2 hown2 hg2
                            have hbg2 := hbg.grown hg2 hsz1 hge1
                            rw [← List.map_append] at hown2
                            obtain ⟨a7, c7, rfl, hT7⟩ : ∃ a7 c7, v2 = .slice a7 (na + nb) c7 ∧ Ints W2 a7 (fs ++ bs) := by
                              obtain ⟨a7, c7, q1, q2⟩ := Ints.of_own (xs := fs ++ bs) (by rw [List.length_append, ← HNA.out, ← HNB.out]; exact hown2) (by rw [List.length_append, ← HNA.out, ← HNB.out]; omega) (fun x hx => by rcases List.mem_append.1 hx with h | h; exact HRA.out x h; exact HRB.out x h)
                              rw [List.length_append, ← HNA.out, ← HNB.out] at q1
                              exact ⟨a7, c7, q1, q2⟩
                            have HXa := hid (And.intro (x0.below hbg2) (And.intro (hX1.below hbg2 (Nat.le_refl _)) (And.intro (hA1.below hbg2 (Nat.le_refl _)) (And.intro (hB1.below hbg2 (Nat.le_refl _)) (And.intro hT7 (hb.trans (hbg2.mono hb.size)))))))
                            clear hA0 hbA hcl hml hmb hown1 hg1 hbg hcb hge1 hsz1 hown2 hg2 hbg2 x0 hX1 hA1 hB1 hT7 hb c0 c1'))
  obtain ⟨x0, hX1, hA1, hB1, hT7, hb⟩ := HXa.out
  clear HXa
  obtain ⟨n, hnE⟩ : ∃ n, n = na + nb := ⟨_, rfl⟩
  rw [← hnE] at hw3 hwk1 p8 ⊢
  have HN := hid (show n = (fs ++ bs).length by rw [List.length_append, ← HNA.out, ← HNB.out, hnE])
  have HNE := hid hnE
  have hn6 : n ≤ 6 := by omega
  clear hnE
  go_loopw [6, 8] (fun v6 v8 wr => ∃ k : Nat, k ≤ n ∧ v8 = .int .i64 (k : Int) ∧ wr = W2) (fun _ v8 _ => n - (intOf v8).toNat)
  case atStart => exact ⟨0, Nat.zero_le _, rfl, rfl⟩
  case round =>
    obtain ⟨k, hk, rfl, rfl⟩ := hrel
    by_cases hlt : k < n
    · obtain ⟨b, off, y, rfl, hbl, hc, hx1, hx2, hg, _⟩ := hT7.at (k := k) (by rw [← HN.out]; exact hlt)
      have hkI : (k : Int) < n := by omega
      have hk0 : (0 : Int) ≤ (k : Int) := by omega
      have hcy := hce y wr (List.mem_of_getElem? hg.out)
      clear hg hce hw1 hw2 hw3 hwk1 hsp1 hsp2 hcp hX1 hA1 hB1 x0
      go_wp2_with fail
      refine hcy.mono ?_
      rintro e V2 ⟨rfl, rfl⟩
      go_wp2
      go_roundw
      case rel => exact ⟨k + 1, by omega, by simp, trivial⟩
      case measure => simp [intOf]; omega
    · have hkI : ¬ (k : Int) < n := by omega
      clear hce hk hlt
      go_upto_region 9 with fail
      have hbd := (Below.refl wr.heap.size wr).drew
      replace x0 := x0.below hbd
      replace hX1 := hX1.below hbd (Nat.le_refl _)
      replace hA1 := hA1.below hbd (Nat.le_refl _)
      replace hB1 := hB1.below hbd (Nat.le_refl _)
      replace hT7 := hT7.below hbd (Nat.le_refl _)
      replace hb := hb.trans (hbd.mono hb.size)
      clear hbd
      refine wp_region_head 11 (fun w' => Bx w' w.heap.size #[.slice ac nn cc, .int .i64 L] 24) (by kernel_rfl) rfl ?_
      generalize wr.drew = Y0 at *
      refine HeadAt.take (i := 0) (.agg #[.slice ac nn cc, .int .i64 L]) rfl (by kernel_rfl) (.inl ⟨rfl, fun w' z => ?_⟩) x0 ?_
      · (have z0 := z.cell 0 rfl; have z1 := z.cell 1 rfl; simp [go_sem, z0, z1])
      refine HeadAt.take (i := 2) (.slice a1 na c1) rfl (by kernel_rfl) (.inl ⟨rfl, fun _ _ => by simp [go_sem]⟩) x0 ?_
      (try simp only [Act.put, List.getElem_toArray, List.getElem_cons_succ, List.getElem_cons_zero, List.setIfInBounds_toArray, List.set_cons_succ, List.set_cons_zero])
      refine HeadAt.one (i := 1) rfl (by kernel_rfl) ?_
      generalize hK : Upto _ _ = K0
      (try simp only [Act.put, List.getElem_toArray, List.getElem_cons_succ, List.getElem_cons_zero, List.setIfInBounds_toArray, List.set_cons_succ, List.set_cons_zero])
      have hbl := below_one (w := Y0) (.cells #[] 3)
      have hl0 := own_lit0 Y0 3 1
      have hcl := (hA1.below hbl (Nat.le_refl _)).cls
      have hml : (fs.map (Value.int .i64)).length = na * 1 := by rw [List.length_map, HNA.out, Nat.mul_one]
      go_wp2_with fail
      subst hK
      refine ⟨x0.below hbl, ?_⟩
      (try simp only [Act.put, List.getElem_toArray, List.getElem_cons_succ, List.getElem_cons_zero, List.setIfInBounds_toArray, List.set_cons_succ, List.set_cons_zero])
      refine HeadAt.one (i := 3) rfl (by kernel_rfl) ?_
      generalize hK : Upto _ _ = K0
      (try simp only [Act.put, List.getElem_toArray, List.getElem_cons_succ, List.getElem_cons_zero, List.setIfInBounds_toArray, List.set_cons_succ, List.set_cons_zero])
      go_wp2_with (first | (at_builtin; refine wpList_app rfl _ _ 41 rfl Y0.heap.size 3 j0 (.int .i64 0) 1 8 under41 hj0 jz0 jz1 jz2 rfl (by decide) _ 0 [] rfl hl0 a1 na c1 (fs.map (Value.int .i64)) rfl hml hcl (ints_one fs) (by unfold maxLen; omega) (by omega) (by simp) ?_; intro v3 Y2 row3 hg3) | fail)
      have hb5 := hbl.grown hg3 (by simp) (own_ge hl0)
      rw [Nat.zero_add, List.nil_append] at row3
      obtain ⟨a3, c3, rfl, hT3⟩ : ∃ a3 c3, v3 = .slice a3 na c3 ∧ Ints Y2 a3 fs := by
        obtain ⟨a3, c3, q1, q2⟩ := Ints.of_own (xs := fs) (by rw [← HNA.out]; exact row3) (by rw [← HNA.out]; omega) (HRA.out)
        rw [← HNA.out] at q1
        exact ⟨a3, c3, q1, q2⟩
      clear hl0 hcl hml row3 hg3 hbl
      replace x0 := x0.below hb5
      replace hX1 := hX1.below hb5 (Nat.le_refl _)
      replace hA1 := hA1.below hb5 (Nat.le_refl _)
      replace hB1 := hB1.below hb5 (Nat.le_refl _)
      replace hT7 := hT7.below hb5 (Nat.le_refl _)
      replace hb := hb.trans (hb5.mono hb.size)
      clear hb5
      subst hK
      refine ⟨x0, ?_⟩
      (try simp only [Act.put, List.getElem_toArray, List.getElem_cons_succ, List.getElem_cons_zero, List.setIfInBounds_toArray, List.set_cons_succ, List.set_cons_zero])
      refine HeadAt.one (i := 4) rfl (by kernel_rfl) ?_
      generalize hK : Upto _ _ = K0
      (try simp only [Act.put, List.getElem_toArray, List.getElem_cons_succ, List.getElem_cons_zero, List.setIfInBounds_toArray, List.set_cons_succ, List.set_cons_zero])
      go_wp2_with fail
      refine (hw1 a3 c3 _ hX1 hT3).mono ?_
      rintro e Y3 ⟨a9, c9, rfl, hS9, _, _, hb5⟩
      clear hT3
      replace x0 := x0.below hb5
      replace hX1 := hX1.below hb5 (Nat.le_refl _)
      replace hA1 := hA1.below hb5 (Nat.le_refl _)
      replace hB1 := hB1.below hb5 (Nat.le_refl _)
      replace hT7 := hT7.below hb5 (Nat.le_refl _)
      replace hb := hb.trans (hb5.mono hb.size)
      clear hb5 hw1
      go_wp2_with fail
      subst hK
      refine ⟨x0, ?_⟩
      (try simp only [Act.put, List.getElem_toArray, List.getElem_cons_succ, List.getElem_cons_zero, List.setIfInBounds_toArray, List.set_cons_succ, List.set_cons_zero])
      refine HeadAt.take (i := 5) (.tuple #[.slice a9 na c9, .int .i64 o1, .int .i64 0]) rfl (by kernel_rfl) (.inl ⟨rfl, fun w' z => ?_⟩) x0 ?_
      · (simp [go_sem])
      (try simp only [Act.put, List.getElem_toArray, List.getElem_cons_succ, List.getElem_cons_zero, List.setIfInBounds_toArray, List.set_cons_succ, List.set_cons_zero])
      refine HeadAt.take (i := 6) (.slice a9 na c9) rfl (by kernel_rfl) (.inl ⟨rfl, fun w' z => ?_⟩) x0 ?_
      · (simp [go_sem])
      refine HeadAt.take (i := 7) (.int .i64 o1) rfl (by kernel_rfl) (.inl ⟨rfl, fun w' z => ?_⟩) x0 ?_
      · (simp [go_sem])
      refine HeadAt.take (i := 8) (.int .i64 0) rfl (by kernel_rfl) (.inl ⟨rfl, fun w' z => ?_⟩) x0 ?_
      · (simp [go_sem])
      (try simp only [Act.put, List.getElem_toArray, List.getElem_cons_succ, List.getElem_cons_zero, List.setIfInBounds_toArray, List.set_cons_succ, List.set_cons_zero])
      refine HeadAt.take (i := 9) (.slice a9 na c9) rfl (by kernel_rfl) (.inl ⟨rfl, fun w' z => ?_⟩) x0 ?_
      · (simp [go_sem])
      refine HeadAt.take (i := 10) (.int .i64 o1) rfl (by kernel_rfl) (.inl ⟨rfl, fun w' z => ?_⟩) x0 ?_
      · (simp [go_sem])
      (try simp only [Act.put, List.getElem_toArray, List.getElem_cons_succ, List.getElem_cons_zero, List.setIfInBounds_toArray, List.set_cons_succ, List.set_cons_zero])
      refine HeadAt.done (by kernel_rfl) ?_
      (try simp only [Act.put, List.drop_succ_cons, List.drop_zero, List.getElem_toArray, List.getElem_cons_succ, List.getElem_cons_zero])
      have c0 := x0.cell 0 rfl; have c1 := x0.cell 1 rfl
      go_wp2_with fail
      refine NoPanic.normal ?_
      go_wp2_with fail
      refine (hcp _ hX1).mono ?_
      rintro e Vc7 ⟨a5, c5, rfl, hC, _, hb1⟩
      clear c0 c1
      replace x0 := x0.below hb1
      replace hX1 := hX1.below hb1 (Nat.le_refl _)
      replace hA1 := hA1.below hb1 (Nat.le_refl _)
      replace hB1 := hB1.below hb1 (Nat.le_refl _)
      replace hT7 := hT7.below hb1 (Nat.le_refl _)
      replace hS9 := hS9.below hb1 (Nat.le_refl _)
      replace hb := hb.trans (hb1.mono hb.size)
      clear hb1 hcp
      have c0 := x0.cell 0 rfl; have c1 := x0.cell 1 rfl
      have hbs := below_one (w := Vc7) (.cells #[.slice a5 nn c5, .int .i64 o1] 24)
      have xm := Bx.new Vc7 #[.slice a5 nn c5, .int .i64 o1] 24
      have HXa := hid (And.intro (x0.below hbs) (And.intro (hX1.below hbs (Nat.le_refl _)) (And.intro (hA1.below hbs (Nat.le_refl _)) (And.intro (hB1.below hbs (Nat.le_refl _)) (And.intro (hT7.below hbs (Nat.le_refl _)) (And.intro (hS9.below hbs (Nat.le_refl _)) (And.intro (hC.below hbs (Nat.le_refl _)) (And.intro (hb.trans (hbs.mono hb.size)) xm))))))))
      clear hbs xm x0 hX1 hA1 hB1 hT7 hS9 hC hb
      go_upto_region 14 with fail
      clear c0 c1
      obtain ⟨x0, hX1, hA1, hB1, hT7, hS9, hC, hb, x12⟩ := HXa.out
      clear HXa
      generalize Vc7.heap.size = s12 at *
      generalize World.alloc _ _ = V14 at *
      have hbd := (Below.refl V14.heap.size V14).drew
      replace x0 := x0.below hbd
      replace x12 := x12.below hbd
      replace hX1 := hX1.below hbd (Nat.le_refl _)
      replace hA1 := hA1.below hbd (Nat.le_refl _)
      replace hB1 := hB1.below hbd (Nat.le_refl _)
      replace hT7 := hT7.below hbd (Nat.le_refl _)
      replace hS9 := hS9.below hbd (Nat.le_refl _)
      replace hC := hC.below hbd (Nat.le_refl _)
      replace hb := hb.trans (hbd.mono hb.size)
      clear hbd
      refine wp_region_head 11 (fun w' => Bx w' s12 #[.slice a5 nn c5, .int .i64 o1] 24) (by kernel_rfl) rfl ?_
      generalize V14.drew = Y0 at *
      refine HeadAt.take (i := 0) (.agg #[.slice a5 nn c5, .int .i64 o1]) rfl (by kernel_rfl) (.inl ⟨rfl, fun w' z => ?_⟩) x12 ?_
      · (have z0 := z.cell 0 rfl; have z1 := z.cell 1 rfl; simp [go_sem, z0, z1])
      refine HeadAt.take (i := 2) (.slice a2 nb c2) rfl (by kernel_rfl) (.inl ⟨rfl, fun _ _ => by simp [go_sem]⟩) x12 ?_
      (try simp only [Act.put, List.getElem_toArray, List.getElem_cons_succ, List.getElem_cons_zero, List.setIfInBounds_toArray, List.set_cons_succ, List.set_cons_zero])
      refine HeadAt.one (i := 1) rfl (by kernel_rfl) ?_
      generalize hK : Upto _ _ = K0
      (try simp only [Act.put, List.getElem_toArray, List.getElem_cons_succ, List.getElem_cons_zero, List.setIfInBounds_toArray, List.set_cons_succ, List.set_cons_zero])
      have hbl := below_one (w := Y0) (.cells #[] 3)
      have hl0 := own_lit0 Y0 3 1
      have hcl := (hB1.below hbl (Nat.le_refl _)).cls
      have hml : (bs.map (Value.int .i64)).length = nb * 1 := by rw [List.length_map, HNB.out, Nat.mul_one]
      go_wp2_with fail
      subst hK
      refine ⟨x12.below hbl, ?_⟩
      (try simp only [Act.put, List.getElem_toArray, List.getElem_cons_succ, List.getElem_cons_zero, List.setIfInBounds_toArray, List.set_cons_succ, List.set_cons_zero])
      refine HeadAt.one (i := 3) rfl (by kernel_rfl) ?_
      generalize hK : Upto _ _ = K0
      (try simp only [Act.put, List.getElem_toArray, List.getElem_cons_succ, List.getElem_cons_zero, List.setIfInBounds_toArray, List.set_cons_succ, List.set_cons_zero])
      go_wp2_with (first | (at_builtin; refine wpList_app rfl _ _ 41 rfl Y0.heap.size 3 j0 (.int .i64 0) 1 8 under41 hj0 jz0 jz1 jz2 rfl (by decide) _ 0 [] rfl hl0 a2 nb c2 (bs.map (Value.int .i64)) rfl hml hcl (ints_one bs) (by unfold maxLen; omega) (by omega) (by simp) ?_; intro v3 Y2 row3 hg3) | fail)
      have hb5 := hbl.grown hg3 (by simp) (own_ge hl0)
      rw [Nat.zero_add, List.nil_append] at row3
      obtain ⟨a3, c3, rfl, hT3⟩ : ∃ a3 c3, v3 = .slice a3 nb c3 ∧ Ints Y2 a3 bs := by
        obtain ⟨a3, c3, q1, q2⟩ := Ints.of_own (xs := bs) (by rw [← HNB.out]; exact row3) (by rw [← HNB.out]; omega) (HRB.out)
        rw [← HNB.out] at q1
        exact ⟨a3, c3, q1, q2⟩
      clear hl0 hcl hml row3 hg3 hbl
      replace x0 := x0.below hb5
      replace x12 := x12.below hb5
      replace hX1 := hX1.below hb5 (Nat.le_refl _)
      replace hA1 := hA1.below hb5 (Nat.le_refl _)
      replace hB1 := hB1.below hb5 (Nat.le_refl _)
      replace hT7 := hT7.below hb5 (Nat.le_refl _)
      replace hS9 := hS9.below hb5 (Nat.le_refl _)
      replace hC := hC.below hb5 (Nat.le_refl _)
      replace hb := hb.trans (hb5.mono hb.size)
      clear hb5
      subst hK
      refine ⟨x12, ?_⟩
      (try simp only [Act.put, List.getElem_toArray, List.getElem_cons_succ, List.getElem_cons_zero, List.setIfInBounds_toArray, List.set_cons_succ, List.set_cons_zero])
      refine HeadAt.one (i := 4) rfl (by kernel_rfl) ?_
      generalize hK : Upto _ _ = K0
      (try simp only [Act.put, List.getElem_toArray, List.getElem_cons_succ, List.getElem_cons_zero, List.setIfInBounds_toArray, List.set_cons_succ, List.set_cons_zero])
      go_wp2_with fail
      refine (hw2 a5 c5 a3 c3 _ hC hT3).mono ?_
      rintro e Y3 ⟨a13, c13, rfl, hS13, _, _, hb5⟩
      clear hT3
      replace x0 := x0.below hb5
      replace x12 := x12.below hb5
      replace hX1 := hX1.below hb5 (Nat.le_refl _)
      replace hA1 := hA1.below hb5 (Nat.le_refl _)
      replace hB1 := hB1.below hb5 (Nat.le_refl _)
      replace hT7 := hT7.below hb5 (Nat.le_refl _)
      replace hS9 := hS9.below hb5 (Nat.le_refl _)
      replace hC := hC.below hb5 (Nat.le_refl _)
      replace hb := hb.trans (hb5.mono hb.size)
      clear hb5 hw2
      go_wp2_with fail
      subst hK
      refine ⟨x12, ?_⟩
      (try simp only [Act.put, List.getElem_toArray, List.getElem_cons_succ, List.getElem_cons_zero, List.setIfInBounds_toArray, List.set_cons_succ, List.set_cons_zero])
      refine HeadAt.take (i := 5) (.tuple #[.slice a13 nb c13, .int .i64 o2, .int .i64 0]) rfl (by kernel_rfl) (.inl ⟨rfl, fun w' z => ?_⟩) x12 ?_
      · (simp [go_sem])
      (try simp only [Act.put, List.getElem_toArray, List.getElem_cons_succ, List.getElem_cons_zero, List.setIfInBounds_toArray, List.set_cons_succ, List.set_cons_zero])
      refine HeadAt.take (i := 6) (.slice a13 nb c13) rfl (by kernel_rfl) (.inl ⟨rfl, fun w' z => ?_⟩) x12 ?_
      · (simp [go_sem])
      refine HeadAt.take (i := 7) (.int .i64 o2) rfl (by kernel_rfl) (.inl ⟨rfl, fun w' z => ?_⟩) x12 ?_
      · (simp [go_sem])
      refine HeadAt.take (i := 8) (.int .i64 0) rfl (by kernel_rfl) (.inl ⟨rfl, fun w' z => ?_⟩) x12 ?_
      · (simp [go_sem])
      (try simp only [Act.put, List.getElem_toArray, List.getElem_cons_succ, List.getElem_cons_zero, List.setIfInBounds_toArray, List.set_cons_succ, List.set_cons_zero])
      refine HeadAt.take (i := 9) (.slice a13 nb c13) rfl (by kernel_rfl) (.inl ⟨rfl, fun w' z => ?_⟩) x12 ?_
      · (simp [go_sem])
      refine HeadAt.take (i := 10) (.int .i64 o2) rfl (by kernel_rfl) (.inl ⟨rfl, fun w' z => ?_⟩) x12 ?_
      · (simp [go_sem])
      (try simp only [Act.put, List.getElem_toArray, List.getElem_cons_succ, List.getElem_cons_zero, List.setIfInBounds_toArray, List.set_cons_succ, List.set_cons_zero])
      refine HeadAt.done (by kernel_rfl) ?_
      (try simp only [Act.put, List.drop_succ_cons, List.drop_zero, List.getElem_toArray, List.getElem_cons_succ, List.getElem_cons_zero])
      go_wp2_with fail
      refine NoPanic.normal ?_
      have c0 := x0.cell 0 rfl; have c1 := x0.cell 1 rfl
      go_wp2_with fail
      refine (hw3 a7 c7 _ hX1 hT7).mono ?_
      rintro e Vc8 ⟨a16, c16, rfl, hS16, hcap16, hsh16, hb1⟩
      clear c0 c1
      replace x0 := x0.below hb1
      replace x12 := x12.below hb1
      replace hX1 := hX1.below hb1 (Nat.le_refl _)
      replace hA1 := hA1.below hb1 (Nat.le_refl _)
      replace hB1 := hB1.below hb1 (Nat.le_refl _)
      replace hT7 := hT7.below hb1 (Nat.le_refl _)
      replace hS9 := hS9.below hb1 (Nat.le_refl _)
      replace hC := hC.below hb1 (Nat.le_refl _)
      replace hS13 := hS13.below hb1 (Nat.le_refl _)
      replace hb := hb.trans (hb1.mono hb.size)
      clear hb1 hw3 x12 hA1 hB1 hC
      have c0 := x0.cell 0 rfl; have c1 := x0.cell 1 rfl
      clear c0 c1
      have c0 := x0.cell 0 rfl; have c1 := x0.cell 1 rfl
      have p10 : ((n : Int) != (n : Int)) = false := by simp
      have q2 : na ≤ c16 := by have := HNE.out; omega
      have q1 : (na : Int) ≤ (c16 : Int) := by omega
      have q4 : na ≤ n := by have := HNE.out; omega
      have q3 : (na : Int) ≤ (n : Int) := by omega
      have q5 : (0 : Int) ≤ (na : Int) := by omega
      have q6 : n - na = nb := by have := HNE.out; omega
      have eT : (A ++ B).take na = A := by rw [← HLA.out, List.take_left]
      have eD : (A ++ B).drop na = B := by rw [← HLA.out, List.drop_left]
      have HT := hid eT; have HD := hid eD
      clear eT eD p8 h6I ew p9
      rcases a16 with _ | ad16
      · have hn0 : n = 0 := by
          rcases Nat.eq_zero_or_pos (A ++ B).length with h | h
          · have := HNE.out; have h1 := HLA.out; have h2 := HLB.out; rw [List.length_append] at h; omega
          · obtain ⟨b, off, x, e, _⟩ := hS16.at h; cases e
        have hn0I : (((n : Nat) : Int) == 0) = true := by simp [hn0]
        have hB0 : B = [] := List.eq_nil_of_length_eq_zero (by have := HNE.out; have h2 := HLB.out; omega)
        have HB := hid hB0
        clear hB0 hwk1 hn0
        go_wp2_with fail
        refine (hsp1 _ a9 _ c9 _ (by have h := hS16.take na; rw [HT.out] at h; exact h) hS9).mono ?_
        rintro e Vc9 ⟨rfl, hb1⟩
        clear c0 c1
        replace x0 := x0.below hb1
        replace hX1 := hX1.below hb1 (Nat.le_refl _)
        replace hT7 := hT7.below hb1 (Nat.le_refl _)
        replace hS9 := hS9.below hb1 (Nat.le_refl _)
        replace hS13 := hS13.below hb1 (Nat.le_refl _)
        replace hS16 := hS16.below hb1 (Nat.le_refl _)
        replace hb := hb.trans (hb1.mono hb.size)
        clear hb1 hsp1
        have c0 := x0.cell 0 rfl; have c1 := x0.cell 1 rfl
        go_wp2_with fail
        refine (hsp2 _ a13 _ c13 _ (by rw [HB.out]; exact Spl.nil _ _) hS13).mono ?_
        rintro e Vz ⟨rfl, hb1⟩
        clear c0 c1
        replace x0 := x0.below hb1
        replace hX1 := hX1.below hb1 (Nat.le_refl _)
        replace hT7 := hT7.below hb1 (Nat.le_refl _)
        replace hS9 := hS9.below hb1 (Nat.le_refl _)
        replace hS13 := hS13.below hb1 (Nat.le_refl _)
        replace hS16 := hS16.below hb1 (Nat.le_refl _)
        replace hb := hb.trans (hb1.mono hb.size)
        clear hb1 hsp2
        have c0 := x0.cell 0 rfl; have c1 := x0.cell 1 rfl
        go_wp2_with fail
        refine (hwk _).mono ?_
        rintro e Vw ⟨rfl, hbw9⟩
        clear c0 c1
        replace hb := hb.trans (hbw9.mono hb.size)
        go_wp2
        go_ret
        exact ⟨rfl, hb⟩
      · have hsh := hsh16 ad16 rfl
        obtain ⟨b16, o16, s16⟩ := ad16
        simp only [Addr.mk.injEq, true_and] at hsh
        obtain ⟨rfl, rfl⟩ := hsh
        clear hsh16
        by_cases h16 : c16 = na
        · have hdr : ∀ V, Spl V (some ⟨b16, 0, none⟩) (A ++ B) → Spl V (some ⟨b16, 0, none⟩) B := fun V hV => by
            have e : B = [] := List.eq_nil_of_length_eq_zero (by have := HNE.out; have h2 := HLB.out; omega)
            rw [e]; exact Spl.nil _ _
          go_wp2_with fail
          refine (hsp1 _ a9 _ c9 _ (by have h := hS16.take na; rw [HT.out] at h; exact h) hS9).mono ?_
          rintro e Vc11 ⟨rfl, hb1⟩
          clear c0 c1
          replace x0 := x0.below hb1
          replace hX1 := hX1.below hb1 (Nat.le_refl _)
          replace hT7 := hT7.below hb1 (Nat.le_refl _)
          replace hS9 := hS9.below hb1 (Nat.le_refl _)
          replace hS13 := hS13.below hb1 (Nat.le_refl _)
          replace hS16 := hS16.below hb1 (Nat.le_refl _)
          replace hb := hb.trans (hb1.mono hb.size)
          clear hb1 hsp1
          have c0 := x0.cell 0 rfl; have c1 := x0.cell 1 rfl
          go_wp2_with fail
          refine (hsp2 _ a13 _ c13 _ (hdr _ hS16) hS13).mono ?_
          rintro e Vz ⟨rfl, hb1⟩
          clear c0 c1
          replace x0 := x0.below hb1
          replace hX1 := hX1.below hb1 (Nat.le_refl _)
          replace hT7 := hT7.below hb1 (Nat.le_refl _)
          replace hS9 := hS9.below hb1 (Nat.le_refl _)
          replace hS13 := hS13.below hb1 (Nat.le_refl _)
          replace hS16 := hS16.below hb1 (Nat.le_refl _)
          replace hb := hb.trans (hb1.mono hb.size)
          clear hb1 hsp2 hdr
          have c0 := x0.cell 0 rfl; have c1 := x0.cell 1 rfl
          rcases Nat.eq_zero_or_pos n with hn0 | hn0
          · have hn0I : (((n : Nat) : Int) == 0) = true := by simp [hn0]
            clear hn0 hwk1
            go_wp2_with fail
            refine (hwk _).mono ?_
            rintro e Vw ⟨rfl, hbw9⟩
            clear c0 c1
            replace hb := hb.trans (hbw9.mono hb.size)
            go_wp2
            go_ret
            exact ⟨rfl, hb⟩
          · have hn0I : (((n : Nat) : Int) == 0) = false := by simp; omega
            have hn1I : (0 : Int) < (n : Int) := by omega
            have hnz : ¬ n = 0 := by omega
            obtain ⟨t0, u, ht0, hu0, hwkk⟩ := hwk1 (by omega)
            obtain ⟨b7, o7, y, rfl, hbl, hcy, _, _, hg7, _⟩ := hT7.at (k := 0) (by rw [← HN.out]; exact hn0)
            obtain rfl : t0 = y := by have := hg7.out; rw [ht0] at this; injection this
            rw [Nat.add_zero] at hcy
            have HU := hid hu0
            have HPOS := hid hn0
            clear hwk1 ht0 hg7 hbl hu0 hn0
            clear c0 c1
            have c0 := x0.cell 0 rfl; have c1 := x0.cell 1 rfl
            go_upto_region 20 with fail
            have hbd := (Below.refl Vz.heap.size Vz).drew
            replace hcy := Below.keep hbd hcy
            clear c0 c1
            replace x0 := x0.below hbd
            replace hX1 := hX1.below hbd (Nat.le_refl _)
            replace hT7 := hT7.below hbd (Nat.le_refl _)
            replace hS9 := hS9.below hbd (Nat.le_refl _)
            replace hS13 := hS13.below hbd (Nat.le_refl _)
            replace hS16 := hS16.below hbd (Nat.le_refl _)
            replace hb := hb.trans (hbd.mono hb.size)
            clear hbd
            have S0 := And.intro x0 hcy
            refine wp_region_head 10 (fun w' => Bx w' w.heap.size #[.slice ac nn cc, .int .i64 L] 24 ∧ w'.cell? ⟨b7, o7, none⟩ = some (.int .i64 t0)) (by kernel_rfl) rfl ?_
            generalize Vz.drew = Y0 at *
            refine HeadAt.take (i := 0) (.agg #[.slice ac nn cc, .int .i64 L]) rfl (by kernel_rfl) (.inl ⟨rfl, fun w' z => ?_⟩) S0 ?_
            · (have z0 := z.1.cell 0 rfl; have z1 := z.1.cell 1 rfl; simp [go_sem, z0, z1])
            refine HeadAt.take (i := 1) (.slice (some ⟨b7, o7, none⟩) n c7) rfl (by kernel_rfl) (.inl ⟨rfl, fun _ _ => by simp [go_sem]⟩) S0 ?_
            (try simp only [Act.put, List.getElem_toArray, List.getElem_cons_succ, List.getElem_cons_zero, List.setIfInBounds_toArray, List.set_cons_succ, List.set_cons_zero])
            refine HeadAt.take (i := 2) (.pointer (some ⟨b7, o7, none⟩)) rfl (by kernel_rfl) (.inl ⟨rfl, fun w' z => ?_⟩) S0 ?_
            · (simp [go_sem, hn1I, hnz])
            (try simp only [Act.put, List.getElem_toArray, List.getElem_cons_succ, List.getElem_cons_zero, List.setIfInBounds_toArray, List.set_cons_succ, List.set_cons_zero])
            refine HeadAt.take (i := 3) (.int .i64 t0) rfl (by kernel_rfl) (.inl ⟨rfl, fun w' z => ?_⟩) S0 ?_
            · (have z0 := z.2; simp [go_sem, z0])
            (try simp only [Act.put, List.getElem_toArray, List.getElem_cons_succ, List.getElem_cons_zero, List.setIfInBounds_toArray, List.set_cons_succ, List.set_cons_zero])
            refine HeadAt.two (i := 4) (j := 8) rfl rfl (by kernel_rfl) ?_ ?_
            · skip
              generalize hK : Upto _ _ = K0
              (try simp only [Act.put, List.getElem_toArray, List.getElem_cons_succ, List.getElem_cons_zero, List.setIfInBounds_toArray, List.set_cons_succ, List.set_cons_zero])
              go_wp2_with fail
              refine (hwkk _ hX1).mono ?_
              rintro e Y3 ⟨rfl, hb5⟩
              replace S0 := And.intro (S0.1.below hb5) (Below.keep hb5 S0.2)
              replace hS16 := hS16.below hb5 (Nat.le_refl _)
              replace hb := hb.trans (hb5.mono hb.size)
              clear hb5 hX1 hT7 hS9 hS13 x0 hcy hwkk
              go_wp2_with fail
              subst hK
              refine ⟨S0, ?_⟩
              (try simp only [Act.put, List.getElem_toArray, List.getElem_cons_succ, List.getElem_cons_zero, List.setIfInBounds_toArray, List.set_cons_succ, List.set_cons_zero])
              refine HeadAt.take (i := 5) (.tuple #[.agg #[.int .i64 u.op, .int .i64 u.ow, .int .i64 u.rp], .int .i64 0]) rfl (by kernel_rfl) (.inl ⟨rfl, fun w' z => ?_⟩) S0 ?_
              · (simp [go_sem])
              (try simp only [Act.put, List.getElem_toArray, List.getElem_cons_succ, List.getElem_cons_zero, List.setIfInBounds_toArray, List.set_cons_succ, List.set_cons_zero])
              refine HeadAt.take (i := 6) (.agg #[.int .i64 u.op, .int .i64 u.ow, .int .i64 u.rp]) rfl (by kernel_rfl) (.inl ⟨rfl, fun w' z => ?_⟩) S0 ?_
              · (simp [go_sem])
              refine HeadAt.take (i := 7) (.int .i64 0) rfl (by kernel_rfl) (.inl ⟨rfl, fun w' z => ?_⟩) S0 ?_
              · (simp [go_sem])
              (try simp only [Act.put, List.getElem_toArray, List.getElem_cons_succ, List.getElem_cons_zero, List.setIfInBounds_toArray, List.set_cons_succ, List.set_cons_zero])
              refine HeadAt.one (i := 8) rfl (by kernel_rfl) ?_
              generalize hK : Upto _ _ = K0
              (try simp only [Act.put, List.getElem_toArray, List.getElem_cons_succ, List.getElem_cons_zero, List.setIfInBounds_toArray, List.set_cons_succ, List.set_cons_zero])
              have hba := below_one (w := Y3) (.cells #[.int .i64 0, .int .i64 0, .int .i64 0] 33)
              have xg := Bx.new Y3 #[.int .i64 0, .int .i64 0, .int .i64 0] 33
              have hbp := below_put3 hba (b := Y3.heap.size) (Nat.le_refl _) (.int .i64 u.op) (.int .i64 u.ow) (.int .i64 u.rp)
              have HY := hid (And.intro (And.intro (S0.1.below hba) (Below.keep hba S0.2)) (And.intro xg (And.intro (And.intro (S0.1.below hbp) (Below.keep hbp S0.2)) (And.intro (xg.set3 (.int .i64 u.op) (.int .i64 u.ow) (.int .i64 u.rp)) (And.intro (hS16.below hbp (Nat.le_refl _)) (hb.trans (hbp.mono hb.size)))))))
              clear hba xg hbp S0 hS16 hb
              go_wp2_with fail
              obtain ⟨S0, xg, S2, z1, hS16, hb⟩ := HY.out
              clear HY
              generalize Y3.heap.size = g9 at *
              generalize Y3.alloc _ = Y4 at *
              subst hK
              refine ⟨S0, ?_⟩
              (try simp only [Act.put, List.getElem_toArray, List.getElem_cons_succ, List.getElem_cons_zero, List.setIfInBounds_toArray, List.set_cons_succ, List.set_cons_zero])
              refine HeadAt.one (i := 9) rfl (by kernel_rfl) ?_
              generalize hK : Upto _ _ = K0
              (try simp only [Act.put, List.getElem_toArray, List.getElem_cons_succ, List.getElem_cons_zero, List.setIfInBounds_toArray, List.set_cons_succ, List.set_cons_zero])
              have d0 := xg.cell 0 rfl; have d1 := xg.cell 1 rfl; have d2 := xg.cell 2 rfl
              have f0 := xg.free 0; have f1 := xg.free 1; have f2 := xg.free 2
              have HZ := hid (And.intro z1 (And.intro hS16 hb))
              have HS2 := hid S2
              clear xg z1 hS16 hb S2
              go_wp2_with fail
              subst hK
              refine ⟨HS2.out, ?_⟩
              (try simp only [Act.put, List.getElem_toArray, List.getElem_cons_succ, List.getElem_cons_zero, List.setIfInBounds_toArray, List.set_cons_succ, List.set_cons_zero])
              clear HS2 S0
              refine HeadAt.done (by kernel_rfl) ?_
              (try simp only [Act.put, List.drop_succ_cons, List.drop_zero, List.getElem_toArray, List.getElem_cons_succ, List.getElem_cons_zero])
              go_wp2_with fail
              refine NoPanic.normal ?_
              obtain ⟨z1, hS16, hb⟩ := HZ.out
              clear HZ d0 d1 d2 f0 f1 f2
              generalize World.setCell _ _ _ = V5 at *
              go_upto_region 21 with fail
              obtain ⟨b', o', x', e', hlt', hq', hg'⟩ := hS16.at (k := 0) (by have h1 := HPOS.out; have h2 := HNE.out; have h3 := HLA.out; have h4 := HLB.out; rw [List.length_append]; omega)
              cases e'
              obtain rfl : u = x' := by have := hg'.out; rw [HU.out] at this; injection this
              rw [Nat.zero_mul, Nat.add_zero] at hq'
              have hbd := (Below.refl V5.heap.size V5).drew
              have S0 := And.intro (z1.below hbd) (hq'.eq (hbd.block b16 hlt'))
              have hl5 : b16 < V5.drew.heap.size := hlt'
              replace hb := hb.trans (hbd.mono hb.size)
              clear z1 hS16 hg' hq' hbd hlt'
              refine wp_region_head 12 (fun w' => Bx w' g9 #[.int .i64 u.op, .int .i64 u.ow, .int .i64 u.rp] 33 ∧ At3 w' b16 0 u) (by kernel_rfl) rfl ?_
              generalize V5.drew = Z0 at *
              refine HeadAt.take (i := 0) (.int .i64 0) rfl (by kernel_rfl) (.inl ⟨rfl, fun _ _ => by simp [go_sem]⟩) S0 ?_
              (try simp only [Act.put, List.getElem_toArray, List.getElem_cons_succ, List.getElem_cons_zero, List.setIfInBounds_toArray, List.set_cons_succ, List.set_cons_zero])
              refine HeadAt.take (i := 1) (.bool true) rfl (by kernel_rfl) (.inl ⟨rfl, fun w' z => ?_⟩) S0 ?_
              · (simp [go_sem])
              (try simp only [Act.put, List.getElem_toArray, List.getElem_cons_succ, List.getElem_cons_zero, List.setIfInBounds_toArray, List.set_cons_succ, List.set_cons_zero])
              refine HeadAt.take (i := 2) (.bool true) rfl (by kernel_rfl) (.inl ⟨rfl, fun w' z => ?_⟩) S0 ?_
              · (simp [go_sem])
              (try simp only [Act.put, List.getElem_toArray, List.getElem_cons_succ, List.getElem_cons_zero, List.setIfInBounds_toArray, List.set_cons_succ, List.set_cons_zero])
              refine HeadAt.take (i := 3) (.agg #[.int .i64 u.op, .int .i64 u.ow, .int .i64 u.rp]) rfl (by kernel_rfl) (.inl ⟨rfl, fun w' z => ?_⟩) S0 ?_
              · (have z0 := z.1.cell 0 rfl; have z1 := z.1.cell 1 rfl; have z2 := z.1.cell 2 rfl; simp [go_sem, z0, z1, z2])
              refine HeadAt.take (i := 4) (.slice (some ⟨b16, 0, none⟩) n na) rfl (by kernel_rfl) (.inl ⟨rfl, fun _ _ => by simp [go_sem]⟩) S0 ?_
              (try simp only [Act.put, List.getElem_toArray, List.getElem_cons_succ, List.getElem_cons_zero, List.setIfInBounds_toArray, List.set_cons_succ, List.set_cons_zero])
              refine HeadAt.take (i := 5) (.pointer (some ⟨b16, 0, none⟩)) rfl (by kernel_rfl) (.inl ⟨rfl, fun w' z => ?_⟩) S0 ?_
              · (simp [go_sem, hn1I, hnz])
              (try simp only [Act.put, List.getElem_toArray, List.getElem_cons_succ, List.getElem_cons_zero, List.setIfInBounds_toArray, List.set_cons_succ, List.set_cons_zero])
              refine HeadAt.take (i := 6) (.agg #[.int .i64 u.op, .int .i64 u.ow, .int .i64 u.rp]) rfl (by kernel_rfl) (.inl ⟨rfl, fun w' z => ?_⟩) S0 ?_
              · (obtain ⟨z0, z1, z2⟩ := z.2; simp only [Nat.zero_add] at z1 z2; simp [go_sem, z0, z1, z2])
              (try simp only [Act.put, List.getElem_toArray, List.getElem_cons_succ, List.getElem_cons_zero, List.setIfInBounds_toArray, List.set_cons_succ, List.set_cons_zero])
              refine HeadAt.take (i := 7) (.bool true) rfl (by kernel_rfl) (.inl ⟨rfl, fun w' z => ?_⟩) S0 ?_
              · (simp [go_sem])
              (try simp only [Act.put, List.getElem_toArray, List.getElem_cons_succ, List.getElem_cons_zero, List.setIfInBounds_toArray, List.set_cons_succ, List.set_cons_zero])
              refine HeadAt.take (i := 8) (.bool true) rfl (by kernel_rfl) (.inl ⟨rfl, fun w' z => ?_⟩) S0 ?_
              · (simp [go_sem])
              (try simp only [Act.put, List.getElem_toArray, List.getElem_cons_succ, List.getElem_cons_zero, List.setIfInBounds_toArray, List.set_cons_succ, List.set_cons_zero])
              refine HeadAt.take (i := 9) (.bool true) rfl (by kernel_rfl) (.inl ⟨rfl, fun w' z => ?_⟩) S0 ?_
              · (simp [go_sem])
              (try simp only [Act.put, List.getElem_toArray, List.getElem_cons_succ, List.getElem_cons_zero, List.setIfInBounds_toArray, List.set_cons_succ, List.set_cons_zero])
              refine HeadAt.one (i := 10) rfl (by kernel_rfl) ?_
              generalize hK : Upto _ _ = K0
              (try simp only [Act.put, List.getElem_toArray, List.getElem_cons_succ, List.getElem_cons_zero, List.setIfInBounds_toArray, List.set_cons_succ, List.set_cons_zero])
              go_wp2_with fail
              refine (hwk _).mono ?_
              rintro e Y9 ⟨rfl, hb9⟩
              have S1 := And.intro (S0.1.below hb9) (S0.2.eq (hb9.block b16 hl5))
              replace hb := hb.trans (hb9.mono hb.size)
              clear S0 hb9 hl5
              go_wp2_with fail
              subst hK
              refine ⟨S1, ?_⟩
              (try simp only [Act.put, List.getElem_toArray, List.getElem_cons_succ, List.getElem_cons_zero, List.setIfInBounds_toArray, List.set_cons_succ, List.set_cons_zero])
              refine HeadAt.take (i := 11) (.bool true) rfl (by kernel_rfl) (.inl ⟨rfl, fun w' z => ?_⟩) S1 ?_
              · (simp [go_sem])
              (try simp only [Act.put, List.getElem_toArray, List.getElem_cons_succ, List.getElem_cons_zero, List.setIfInBounds_toArray, List.set_cons_succ, List.set_cons_zero])
              refine HeadAt.done (by kernel_rfl) ?_
              (try simp only [Act.put, List.drop_succ_cons, List.drop_zero, List.getElem_toArray, List.getElem_cons_succ, List.getElem_cons_zero])
              go_wp2_with fail
              refine NoPanic.normal ?_
              go_wp2
              go_ret
              exact ⟨rfl, hb⟩
            · skip
              generalize hK : Upto _ _ = K0
              (try simp only [Act.put, List.getElem_toArray, List.getElem_cons_succ, List.getElem_cons_zero, List.setIfInBounds_toArray, List.set_cons_succ, List.set_cons_zero])
              have hba := below_one (w := Y0) (.cells #[.int .i64 0, .int .i64 0, .int .i64 0] 33)
              have xg := Bx.new Y0 #[.int .i64 0, .int .i64 0, .int .i64 0] 33
              have S1 := And.intro (S0.1.below hba) (Below.keep hba S0.2)
              have HY := hid (And.intro S1 (And.intro xg (And.intro (hX1.below hba (Nat.le_refl _)) hba)))
              clear S1 hba xg
              go_wp2_with fail
              obtain ⟨S1, xg, hX2, hba⟩ := HY.out
              clear HY
              generalize Y0.alloc _ = Y4 at *
              subst hK
              refine ⟨S1, ?_⟩
              (try simp only [Act.put, List.getElem_toArray, List.getElem_cons_succ, List.getElem_cons_zero, List.setIfInBounds_toArray, List.set_cons_succ, List.set_cons_zero])
              refine HeadAt.one (i := 4) rfl (by kernel_rfl) ?_
              generalize hK : Upto _ _ = K0
              (try simp only [Act.put, List.getElem_toArray, List.getElem_cons_succ, List.getElem_cons_zero, List.setIfInBounds_toArray, List.set_cons_succ, List.set_cons_zero])
              go_wp2_with fail
              refine (hwkk _ hX2).mono ?_
              rintro e Y3 ⟨rfl, hb5⟩
              have xg2 := xg.below hb5
              have S2 := And.intro (S1.1.below hb5) (Below.keep hb5 S1.2)
              have hbY := hba.trans (hb5.mono hba.size)
              have hbp := below_put3 hbY (b := Y0.heap.size) (Nat.le_refl _) (.int .i64 u.op) (.int .i64 u.ow) (.int .i64 u.rp)
              have S3 := And.intro (S0.1.below hbp) (Below.keep hbp S0.2)
              have HZ := hid (And.intro (xg2.set3 (.int .i64 u.op) (.int .i64 u.ow) (.int .i64 u.rp)) (And.intro (hS16.below hbp (Nat.le_refl _)) (hb.trans (hbp.mono hb.size))))
              have HS2 := hid S3
              clear S0 S1 S3 xg hX2 hba hbY hb5 hX1 hT7 hS9 hS13 hS16 hb x0 hcy hwkk hbp
              have S0 := S2
              clear S2
              generalize Y0.heap.size = g9 at *
              go_wp2_with fail
              subst hK
              refine ⟨S0, ?_⟩
              (try simp only [Act.put, List.getElem_toArray, List.getElem_cons_succ, List.getElem_cons_zero, List.setIfInBounds_toArray, List.set_cons_succ, List.set_cons_zero])
              refine HeadAt.take (i := 5) (.tuple #[.agg #[.int .i64 u.op, .int .i64 u.ow, .int .i64 u.rp], .int .i64 0]) rfl (by kernel_rfl) (.inl ⟨rfl, fun w' z => ?_⟩) S0 ?_
              · (simp [go_sem])
              (try simp only [Act.put, List.getElem_toArray, List.getElem_cons_succ, List.getElem_cons_zero, List.setIfInBounds_toArray, List.set_cons_succ, List.set_cons_zero])
              refine HeadAt.take (i := 6) (.agg #[.int .i64 u.op, .int .i64 u.ow, .int .i64 u.rp]) rfl (by kernel_rfl) (.inl ⟨rfl, fun w' z => ?_⟩) S0 ?_
              · (simp [go_sem])
              refine HeadAt.take (i := 7) (.int .i64 0) rfl (by kernel_rfl) (.inl ⟨rfl, fun w' z => ?_⟩) S0 ?_
              · (simp [go_sem])
              (try simp only [Act.put, List.getElem_toArray, List.getElem_cons_succ, List.getElem_cons_zero, List.setIfInBounds_toArray, List.set_cons_succ, List.set_cons_zero])
              refine HeadAt.one (i := 9) rfl (by kernel_rfl) ?_
              generalize hK : Upto _ _ = K0
              (try simp only [Act.put, List.getElem_toArray, List.getElem_cons_succ, List.getElem_cons_zero, List.setIfInBounds_toArray, List.set_cons_succ, List.set_cons_zero])
              have d0 := xg2.cell 0 rfl; have d1 := xg2.cell 1 rfl; have d2 := xg2.cell 2 rfl
              have f0 := xg2.free 0; have f1 := xg2.free 1; have f2 := xg2.free 2
              clear xg2
              go_wp2_with fail
              subst hK
              refine ⟨HS2.out, ?_⟩
              (try simp only [Act.put, List.getElem_toArray, List.getElem_cons_succ, List.getElem_cons_zero, List.setIfInBounds_toArray, List.set_cons_succ, List.set_cons_zero])
              clear HS2 S0
              refine HeadAt.done (by kernel_rfl) ?_
              (try simp only [Act.put, List.drop_succ_cons, List.drop_zero, List.getElem_toArray, List.getElem_cons_succ, List.getElem_cons_zero])
              go_wp2_with fail
              refine NoPanic.normal ?_
              obtain ⟨z1, hS16, hb⟩ := HZ.out
              clear HZ d0 d1 d2 f0 f1 f2
              generalize World.setCell _ _ _ = V5 at *
              go_upto_region 21 with fail
              obtain ⟨b', o', x', e', hlt', hq', hg'⟩ := hS16.at (k := 0) (by have h1 := HPOS.out; have h2 := HNE.out; have h3 := HLA.out; have h4 := HLB.out; rw [List.length_append]; omega)
              cases e'
              obtain rfl : u = x' := by have := hg'.out; rw [HU.out] at this; injection this
              rw [Nat.zero_mul, Nat.add_zero] at hq'
              have hbd := (Below.refl V5.heap.size V5).drew
              have S0 := And.intro (z1.below hbd) (hq'.eq (hbd.block b16 hlt'))
              have hl5 : b16 < V5.drew.heap.size := hlt'
              replace hb := hb.trans (hbd.mono hb.size)
              clear z1 hS16 hg' hq' hbd hlt'
              refine wp_region_head 12 (fun w' => Bx w' g9 #[.int .i64 u.op, .int .i64 u.ow, .int .i64 u.rp] 33 ∧ At3 w' b16 0 u) (by kernel_rfl) rfl ?_
              generalize V5.drew = Z0 at *
              refine HeadAt.take (i := 0) (.int .i64 0) rfl (by kernel_rfl) (.inl ⟨rfl, fun _ _ => by simp [go_sem]⟩) S0 ?_
              (try simp only [Act.put, List.getElem_toArray, List.getElem_cons_succ, List.getElem_cons_zero, List.setIfInBounds_toArray, List.set_cons_succ, List.set_cons_zero])
              refine HeadAt.take (i := 1) (.bool true) rfl (by kernel_rfl) (.inl ⟨rfl, fun w' z => ?_⟩) S0 ?_
              · (simp [go_sem])
              (try simp only [Act.put, List.getElem_toArray, List.getElem_cons_succ, List.getElem_cons_zero, List.setIfInBounds_toArray, List.set_cons_succ, List.set_cons_zero])
              refine HeadAt.take (i := 2) (.bool true) rfl (by kernel_rfl) (.inl ⟨rfl, fun w' z => ?_⟩) S0 ?_
              · (simp [go_sem])
              (try simp only [Act.put, List.getElem_toArray, List.getElem_cons_succ, List.getElem_cons_zero, List.setIfInBounds_toArray, List.set_cons_succ, List.set_cons_zero])
              refine HeadAt.take (i := 3) (.agg #[.int .i64 u.op, .int .i64 u.ow, .int .i64 u.rp]) rfl (by kernel_rfl) (.inl ⟨rfl, fun w' z => ?_⟩) S0 ?_
              · (have z0 := z.1.cell 0 rfl; have z1 := z.1.cell 1 rfl; have z2 := z.1.cell 2 rfl; simp [go_sem, z0, z1, z2])
              refine HeadAt.take (i := 4) (.slice (some ⟨b16, 0, none⟩) n na) rfl (by kernel_rfl) (.inl ⟨rfl, fun _ _ => by simp [go_sem]⟩) S0 ?_
              (try simp only [Act.put, List.getElem_toArray, List.getElem_cons_succ, List.getElem_cons_zero, List.setIfInBounds_toArray, List.set_cons_succ, List.set_cons_zero])
              refine HeadAt.take (i := 5) (.pointer (some ⟨b16, 0, none⟩)) rfl (by kernel_rfl) (.inl ⟨rfl, fun w' z => ?_⟩) S0 ?_
              · (simp [go_sem, hn1I, hnz])
              (try simp only [Act.put, List.getElem_toArray, List.getElem_cons_succ, List.getElem_cons_zero, List.setIfInBounds_toArray, List.set_cons_succ, List.set_cons_zero])
              refine HeadAt.take (i := 6) (.agg #[.int .i64 u.op, .int .i64 u.ow, .int .i64 u.rp]) rfl (by kernel_rfl) (.inl ⟨rfl, fun w' z => ?_⟩) S0 ?_
              · (obtain ⟨z0, z1, z2⟩ := z.2; simp only [Nat.zero_add] at z1 z2; simp [go_sem, z0, z1, z2])
              (try simp only [Act.put, List.getElem_toArray, List.getElem_cons_succ, List.getElem_cons_zero, List.setIfInBounds_toArray, List.set_cons_succ, List.set_cons_zero])
              refine HeadAt.take (i := 7) (.bool true) rfl (by kernel_rfl) (.inl ⟨rfl, fun w' z => ?_⟩) S0 ?_
              · (simp [go_sem])
              (try simp only [Act.put, List.getElem_toArray, List.getElem_cons_succ, List.getElem_cons_zero, List.setIfInBounds_toArray, List.set_cons_succ, List.set_cons_zero])
              refine HeadAt.take (i := 8) (.bool true) rfl (by kernel_rfl) (.inl ⟨rfl, fun w' z => ?_⟩) S0 ?_
              · (simp [go_sem])
              (try simp only [Act.put, List.getElem_toArray, List.getElem_cons_succ, List.getElem_cons_zero, List.setIfInBounds_toArray, List.set_cons_succ, List.set_cons_zero])
              refine HeadAt.take (i := 9) (.bool true) rfl (by kernel_rfl) (.inl ⟨rfl, fun w' z => ?_⟩) S0 ?_
              · (simp [go_sem])
              (try simp only [Act.put, List.getElem_toArray, List.getElem_cons_succ, List.getElem_cons_zero, List.setIfInBounds_toArray, List.set_cons_succ, List.set_cons_zero])
              refine HeadAt.one (i := 10) rfl (by kernel_rfl) ?_
              generalize hK : Upto _ _ = K0
              (try simp only [Act.put, List.getElem_toArray, List.getElem_cons_succ, List.getElem_cons_zero, List.setIfInBounds_toArray, List.set_cons_succ, List.set_cons_zero])
              go_wp2_with fail
              refine (hwk _).mono ?_
              rintro e Y9 ⟨rfl, hb9⟩
              have S1 := And.intro (S0.1.below hb9) (S0.2.eq (hb9.block b16 hl5))
              replace hb := hb.trans (hb9.mono hb.size)
              clear S0 hb9 hl5
              go_wp2_with fail
              subst hK
              refine ⟨S1, ?_⟩
              (try simp only [Act.put, List.getElem_toArray, List.getElem_cons_succ, List.getElem_cons_zero, List.setIfInBounds_toArray, List.set_cons_succ, List.set_cons_zero])
              refine HeadAt.take (i := 11) (.bool true) rfl (by kernel_rfl) (.inl ⟨rfl, fun w' z => ?_⟩) S1 ?_
              · (simp [go_sem])
              (try simp only [Act.put, List.getElem_toArray, List.getElem_cons_succ, List.getElem_cons_zero, List.setIfInBounds_toArray, List.set_cons_succ, List.set_cons_zero])
              refine HeadAt.done (by kernel_rfl) ?_
              (try simp only [Act.put, List.drop_succ_cons, List.drop_zero, List.getElem_toArray, List.getElem_cons_succ, List.getElem_cons_zero])
              go_wp2_with fail
              refine NoPanic.normal ?_
              go_wp2
              go_ret
              exact ⟨rfl, hb⟩
        · have hdr : ∀ V, Spl V (some ⟨b16, 0, none⟩) (A ++ B) → Spl V (some ⟨b16, na * 3, none⟩) B := fun V hV => by
            have := hV.drop na
            rw [HD.out, Nat.zero_add] at this
            exact this
          go_wp2_with fail
          refine (hsp1 _ a9 _ c9 _ (by have h := hS16.take na; rw [HT.out] at h; exact h) hS9).mono ?_
          rintro e Vc13 ⟨rfl, hb1⟩
          clear c0 c1
          replace x0 := x0.below hb1
          replace hX1 := hX1.below hb1 (Nat.le_refl _)
          replace hT7 := hT7.below hb1 (Nat.le_refl _)
          replace hS9 := hS9.below hb1 (Nat.le_refl _)
          replace hS13 := hS13.below hb1 (Nat.le_refl _)
          replace hS16 := hS16.below hb1 (Nat.le_refl _)
          replace hb := hb.trans (hb1.mono hb.size)
          clear hb1 hsp1
          have c0 := x0.cell 0 rfl; have c1 := x0.cell 1 rfl
          go_wp2_with fail
          refine (hsp2 _ a13 _ c13 _ (hdr _ hS16) hS13).mono ?_
          rintro e Vz ⟨rfl, hb1⟩
          clear c0 c1
          replace x0 := x0.below hb1
          replace hX1 := hX1.below hb1 (Nat.le_refl _)
          replace hT7 := hT7.below hb1 (Nat.le_refl _)
          replace hS9 := hS9.below hb1 (Nat.le_refl _)
          replace hS13 := hS13.below hb1 (Nat.le_refl _)
          replace hS16 := hS16.below hb1 (Nat.le_refl _)
          replace hb := hb.trans (hb1.mono hb.size)
          clear hb1 hsp2 hdr
          have c0 := x0.cell 0 rfl; have c1 := x0.cell 1 rfl
          rcases Nat.eq_zero_or_pos n with hn0 | hn0
          · have hn0I : (((n : Nat) : Int) == 0) = true := by simp [hn0]
            clear hn0 hwk1
            go_wp2_with fail
            refine (hwk _).mono ?_
            rintro e Vw ⟨rfl, hbw9⟩
            clear c0 c1
            replace hb := hb.trans (hbw9.mono hb.size)
            go_wp2
            go_ret
            exact ⟨rfl, hb⟩
          · have hn0I : (((n : Nat) : Int) == 0) = false := by simp; omega
            have hn1I : (0 : Int) < (n : Int) := by omega
            have hnz : ¬ n = 0 := by omega
            obtain ⟨t0, u, ht0, hu0, hwkk⟩ := hwk1 (by omega)
            obtain ⟨b7, o7, y, rfl, hbl, hcy, _, _, hg7, _⟩ := hT7.at (k := 0) (by rw [← HN.out]; exact hn0)
            obtain rfl : t0 = y := by have := hg7.out; rw [ht0] at this; injection this
            rw [Nat.add_zero] at hcy
            have HU := hid hu0
            have HPOS := hid hn0
            clear hwk1 ht0 hg7 hbl hu0 hn0
            clear c0 c1
            have c0 := x0.cell 0 rfl; have c1 := x0.cell 1 rfl
            go_upto_region 20 with fail
            have hbd := (Below.refl Vz.heap.size Vz).drew
            replace hcy := Below.keep hbd hcy
            clear c0 c1
            replace x0 := x0.below hbd
            replace hX1 := hX1.below hbd (Nat.le_refl _)
            replace hT7 := hT7.below hbd (Nat.le_refl _)
            replace hS9 := hS9.below hbd (Nat.le_refl _)
            replace hS13 := hS13.below hbd (Nat.le_refl _)
            replace hS16 := hS16.below hbd (Nat.le_refl _)
            replace hb := hb.trans (hbd.mono hb.size)
            clear hbd
            have S0 := And.intro x0 hcy
            refine wp_region_head 10 (fun w' => Bx w' w.heap.size #[.slice ac nn cc, .int .i64 L] 24 ∧ w'.cell? ⟨b7, o7, none⟩ = some (.int .i64 t0)) (by kernel_rfl) rfl ?_
            generalize Vz.drew = Y0 at *
            refine HeadAt.take (i := 0) (.agg #[.slice ac nn cc, .int .i64 L]) rfl (by kernel_rfl) (.inl ⟨rfl, fun w' z => ?_⟩) S0 ?_
            · (have z0 := z.1.cell 0 rfl; have z1 := z.1.cell 1 rfl; simp [go_sem, z0, z1])
            refine HeadAt.take (i := 1) (.slice (some ⟨b7, o7, none⟩) n c7) rfl (by kernel_rfl) (.inl ⟨rfl, fun _ _ => by simp [go_sem]⟩) S0 ?_
            (try simp only [Act.put, List.getElem_toArray, List.getElem_cons_succ, List.getElem_cons_zero, List.setIfInBounds_toArray, List.set_cons_succ, List.set_cons_zero])
            refine HeadAt.take (i := 2) (.pointer (some ⟨b7, o7, none⟩)) rfl (by kernel_rfl) (.inl ⟨rfl, fun w' z => ?_⟩) S0 ?_
            · (simp [go_sem, hn1I, hnz])
            (try simp only [Act.put, List.getElem_toArray, List.getElem_cons_succ, List.getElem_cons_zero, List.setIfInBounds_toArray, List.set_cons_succ, List.set_cons_zero])
            refine HeadAt.take (i := 3) (.int .i64 t0) rfl (by kernel_rfl) (.inl ⟨rfl, fun w' z => ?_⟩) S0 ?_
            · (have z0 := z.2; simp [go_sem, z0])
            (try simp only [Act.put, List.getElem_toArray, List.getElem_cons_succ, List.getElem_cons_zero, List.setIfInBounds_toArray, List.set_cons_succ, List.set_cons_zero])
            refine HeadAt.two (i := 4) (j := 8) rfl rfl (by kernel_rfl) ?_ ?_
            · skip
              generalize hK : Upto _ _ = K0
              (try simp only [Act.put, List.getElem_toArray, List.getElem_cons_succ, List.getElem_cons_zero, List.setIfInBounds_toArray, List.set_cons_succ, List.set_cons_zero])
              go_wp2_with fail
              refine (hwkk _ hX1).mono ?_
              rintro e Y3 ⟨rfl, hb5⟩
              replace S0 := And.intro (S0.1.below hb5) (Below.keep hb5 S0.2)
              replace hS16 := hS16.below hb5 (Nat.le_refl _)
              replace hb := hb.trans (hb5.mono hb.size)
              clear hb5 hX1 hT7 hS9 hS13 x0 hcy hwkk
              go_wp2_with fail
              subst hK
              refine ⟨S0, ?_⟩
              (try simp only [Act.put, List.getElem_toArray, List.getElem_cons_succ, List.getElem_cons_zero, List.setIfInBounds_toArray, List.set_cons_succ, List.set_cons_zero])
              refine HeadAt.take (i := 5) (.tuple #[.agg #[.int .i64 u.op, .int .i64 u.ow, .int .i64 u.rp], .int .i64 0]) rfl (by kernel_rfl) (.inl ⟨rfl, fun w' z => ?_⟩) S0 ?_
              · (simp [go_sem])
              (try simp only [Act.put, List.getElem_toArray, List.getElem_cons_succ, List.getElem_cons_zero, List.setIfInBounds_toArray, List.set_cons_succ, List.set_cons_zero])
              refine HeadAt.take (i := 6) (.agg #[.int .i64 u.op, .int .i64 u.ow, .int .i64 u.rp]) rfl (by kernel_rfl) (.inl ⟨rfl, fun w' z => ?_⟩) S0 ?_
              · (simp [go_sem])
              refine HeadAt.take (i := 7) (.int .i64 0) rfl (by kernel_rfl) (.inl ⟨rfl, fun w' z => ?_⟩) S0 ?_
              · (simp [go_sem])
              (try simp only [Act.put, List.getElem_toArray, List.getElem_cons_succ, List.getElem_cons_zero, List.setIfInBounds_toArray, List.set_cons_succ, List.set_cons_zero])
              refine HeadAt.one (i := 8) rfl (by kernel_rfl) ?_
              generalize hK : Upto _ _ = K0
              (try simp only [Act.put, List.getElem_toArray, List.getElem_cons_succ, List.getElem_cons_zero, List.setIfInBounds_toArray, List.set_cons_succ, List.set_cons_zero])
              have hba := below_one (w := Y3) (.cells #[.int .i64 0, .int .i64 0, .int .i64 0] 33)
              have xg := Bx.new Y3 #[.int .i64 0, .int .i64 0, .int .i64 0] 33
              have hbp := below_put3 hba (b := Y3.heap.size) (Nat.le_refl _) (.int .i64 u.op) (.int .i64 u.ow) (.int .i64 u.rp)
              have HY := hid (And.intro (And.intro (S0.1.below hba) (Below.keep hba S0.2)) (And.intro xg (And.intro (And.intro (S0.1.below hbp) (Below.keep hbp S0.2)) (And.intro (xg.set3 (.int .i64 u.op) (.int .i64 u.ow) (.int .i64 u.rp)) (And.intro (hS16.below hbp (Nat.le_refl _)) (hb.trans (hbp.mono hb.size)))))))
              clear hba xg hbp S0 hS16 hb
              go_wp2_with fail
              obtain ⟨S0, xg, S2, z1, hS16, hb⟩ := HY.out
              clear HY
              generalize Y3.heap.size = g9 at *
              generalize Y3.alloc _ = Y4 at *
              subst hK
              refine ⟨S0, ?_⟩
              (try simp only [Act.put, List.getElem_toArray, List.getElem_cons_succ, List.getElem_cons_zero, List.setIfInBounds_toArray, List.set_cons_succ, List.set_cons_zero])
              refine HeadAt.one (i := 9) rfl (by kernel_rfl) ?_
              generalize hK : Upto _ _ = K0
              (try simp only [Act.put, List.getElem_toArray, List.getElem_cons_succ, List.getElem_cons_zero, List.setIfInBounds_toArray, List.set_cons_succ, List.set_cons_zero])
              have d0 := xg.cell 0 rfl; have d1 := xg.cell 1 rfl; have d2 := xg.cell 2 rfl
              have f0 := xg.free 0; have f1 := xg.free 1; have f2 := xg.free 2
              have HZ := hid (And.intro z1 (And.intro hS16 hb))
              have HS2 := hid S2
              clear xg z1 hS16 hb S2
              go_wp2_with fail
              subst hK
              refine ⟨HS2.out, ?_⟩
              (try simp only [Act.put, List.getElem_toArray, List.getElem_cons_succ, List.getElem_cons_zero, List.setIfInBounds_toArray, List.set_cons_succ, List.set_cons_zero])
              clear HS2 S0
              refine HeadAt.done (by kernel_rfl) ?_
              (try simp only [Act.put, List.drop_succ_cons, List.drop_zero, List.getElem_toArray, List.getElem_cons_succ, List.getElem_cons_zero])
              go_wp2_with fail
              refine NoPanic.normal ?_
              obtain ⟨z1, hS16, hb⟩ := HZ.out
              clear HZ d0 d1 d2 f0 f1 f2
              generalize World.setCell _ _ _ = V5 at *
              go_upto_region 21 with fail
              obtain ⟨b', o', x', e', hlt', hq', hg'⟩ := hS16.at (k := 0) (by have h1 := HPOS.out; have h2 := HNE.out; have h3 := HLA.out; have h4 := HLB.out; rw [List.length_append]; omega)
              cases e'
              obtain rfl : u = x' := by have := hg'.out; rw [HU.out] at this; injection this
              rw [Nat.zero_mul, Nat.add_zero] at hq'
              have hbd := (Below.refl V5.heap.size V5).drew
              have S0 := And.intro (z1.below hbd) (hq'.eq (hbd.block b16 hlt'))
              have hl5 : b16 < V5.drew.heap.size := hlt'
              replace hb := hb.trans (hbd.mono hb.size)
              clear z1 hS16 hg' hq' hbd hlt'
              refine wp_region_head 12 (fun w' => Bx w' g9 #[.int .i64 u.op, .int .i64 u.ow, .int .i64 u.rp] 33 ∧ At3 w' b16 0 u) (by kernel_rfl) rfl ?_
              generalize V5.drew = Z0 at *
              refine HeadAt.take (i := 0) (.int .i64 0) rfl (by kernel_rfl) (.inl ⟨rfl, fun _ _ => by simp [go_sem]⟩) S0 ?_
              (try simp only [Act.put, List.getElem_toArray, List.getElem_cons_succ, List.getElem_cons_zero, List.setIfInBounds_toArray, List.set_cons_succ, List.set_cons_zero])
              refine HeadAt.take (i := 1) (.bool true) rfl (by kernel_rfl) (.inl ⟨rfl, fun w' z => ?_⟩) S0 ?_
              · (simp [go_sem])
              (try simp only [Act.put, List.getElem_toArray, List.getElem_cons_succ, List.getElem_cons_zero, List.setIfInBounds_toArray, List.set_cons_succ, List.set_cons_zero])
              refine HeadAt.take (i := 2) (.bool true) rfl (by kernel_rfl) (.inl ⟨rfl, fun w' z => ?_⟩) S0 ?_
              · (simp [go_sem])
              (try simp only [Act.put, List.getElem_toArray, List.getElem_cons_succ, List.getElem_cons_zero, List.setIfInBounds_toArray, List.set_cons_succ, List.set_cons_zero])
              refine HeadAt.take (i := 3) (.agg #[.int .i64 u.op, .int .i64 u.ow, .int .i64 u.rp]) rfl (by kernel_rfl) (.inl ⟨rfl, fun w' z => ?_⟩) S0 ?_
              · (have z0 := z.1.cell 0 rfl; have z1 := z.1.cell 1 rfl; have z2 := z.1.cell 2 rfl; simp [go_sem, z0, z1, z2])
              refine HeadAt.take (i := 4) (.slice (some ⟨b16, 0, none⟩) n c16) rfl (by kernel_rfl) (.inl ⟨rfl, fun _ _ => by simp [go_sem]⟩) S0 ?_
              (try simp only [Act.put, List.getElem_toArray, List.getElem_cons_succ, List.getElem_cons_zero, List.setIfInBounds_toArray, List.set_cons_succ, List.set_cons_zero])
              refine HeadAt.take (i := 5) (.pointer (some ⟨b16, 0, none⟩)) rfl (by kernel_rfl) (.inl ⟨rfl, fun w' z => ?_⟩) S0 ?_
              · (simp [go_sem, hn1I, hnz])
              (try simp only [Act.put, List.getElem_toArray, List.getElem_cons_succ, List.getElem_cons_zero, List.setIfInBounds_toArray, List.set_cons_succ, List.set_cons_zero])
              refine HeadAt.take (i := 6) (.agg #[.int .i64 u.op, .int .i64 u.ow, .int .i64 u.rp]) rfl (by kernel_rfl) (.inl ⟨rfl, fun w' z => ?_⟩) S0 ?_
              · (obtain ⟨z0, z1, z2⟩ := z.2; simp only [Nat.zero_add] at z1 z2; simp [go_sem, z0, z1, z2])
              (try simp only [Act.put, List.getElem_toArray, List.getElem_cons_succ, List.getElem_cons_zero, List.setIfInBounds_toArray, List.set_cons_succ, List.set_cons_zero])
              refine HeadAt.take (i := 7) (.bool true) rfl (by kernel_rfl) (.inl ⟨rfl, fun w' z => ?_⟩) S0 ?_
              · (simp [go_sem])
              (try simp only [Act.put, List.getElem_toArray, List.getElem_cons_succ, List.getElem_cons_zero, List.setIfInBounds_toArray, List.set_cons_succ, List.set_cons_zero])
              refine HeadAt.take (i := 8) (.bool true) rfl (by kernel_rfl) (.inl ⟨rfl, fun w' z => ?_⟩) S0 ?_
              · (simp [go_sem])
              (try simp only [Act.put, List.getElem_toArray, List.getElem_cons_succ, List.getElem_cons_zero, List.setIfInBounds_toArray, List.set_cons_succ, List.set_cons_zero])
              refine HeadAt.take (i := 9) (.bool true) rfl (by kernel_rfl) (.inl ⟨rfl, fun w' z => ?_⟩) S0 ?_
              · (simp [go_sem])
              (try simp only [Act.put, List.getElem_toArray, List.getElem_cons_succ, List.getElem_cons_zero, List.setIfInBounds_toArray, List.set_cons_succ, List.set_cons_zero])
              refine HeadAt.one (i := 10) rfl (by kernel_rfl) ?_
              generalize hK : Upto _ _ = K0
              (try simp only [Act.put, List.getElem_toArray, List.getElem_cons_succ, List.getElem_cons_zero, List.setIfInBounds_toArray, List.set_cons_succ, List.set_cons_zero])
              go_wp2_with fail
              refine (hwk _).mono ?_
              rintro e Y9 ⟨rfl, hb9⟩
              have S1 := And.intro (S0.1.below hb9) (S0.2.eq (hb9.block b16 hl5))
              replace hb := hb.trans (hb9.mono hb.size)
              clear S0 hb9 hl5
              go_wp2_with fail
              subst hK
              refine ⟨S1, ?_⟩
              (try simp only [Act.put, List.getElem_toArray, List.getElem_cons_succ, List.getElem_cons_zero, List.setIfInBounds_toArray, List.set_cons_succ, List.set_cons_zero])
              refine HeadAt.take (i := 11) (.bool true) rfl (by kernel_rfl) (.inl ⟨rfl, fun w' z => ?_⟩) S1 ?_
              · (simp [go_sem])
              (try simp only [Act.put, List.getElem_toArray, List.getElem_cons_succ, List.getElem_cons_zero, List.setIfInBounds_toArray, List.set_cons_succ, List.set_cons_zero])
              refine HeadAt.done (by kernel_rfl) ?_
              (try simp only [Act.put, List.drop_succ_cons, List.drop_zero, List.getElem_toArray, List.getElem_cons_succ, List.getElem_cons_zero])
              go_wp2_with fail
              refine NoPanic.normal ?_
              go_wp2
              go_ret
              exact ⟨rfl, hb⟩
            · skip
              generalize hK : Upto _ _ = K0
              (try simp only [Act.put, List.getElem_toArray, List.getElem_cons_succ, List.getElem_cons_zero, List.setIfInBounds_toArray, List.set_cons_succ, List.set_cons_zero])
              have hba := below_one (w := Y0) (.cells #[.int .i64 0, .int .i64 0, .int .i64 0] 33)
              have xg := Bx.new Y0 #[.int .i64 0, .int .i64 0, .int .i64 0] 33
              have S1 := And.intro (S0.1.below hba) (Below.keep hba S0.2)
              have HY := hid (And.intro S1 (And.intro xg (And.intro (hX1.below hba (Nat.le_refl _)) hba)))
              clear S1 hba xg
              go_wp2_with fail
              obtain ⟨S1, xg, hX2, hba⟩ := HY.out
              clear HY
              generalize Y0.alloc _ = Y4 at *
              subst hK
              refine ⟨S1, ?_⟩
              (try simp only [Act.put, List.getElem_toArray, List.getElem_cons_succ, List.getElem_cons_zero, List.setIfInBounds_toArray, List.set_cons_succ, List.set_cons_zero])
              refine HeadAt.one (i := 4) rfl (by kernel_rfl) ?_
              generalize hK : Upto _ _ = K0
              (try simp only [Act.put, List.getElem_toArray, List.getElem_cons_succ, List.getElem_cons_zero, List.setIfInBounds_toArray, List.set_cons_succ, List.set_cons_zero])
              go_wp2_with fail
              refine (hwkk _ hX2).mono ?_
              rintro e Y3 ⟨rfl, hb5⟩
              have xg2 := xg.below hb5
              have S2 := And.intro (S1.1.below hb5) (Below.keep hb5 S1.2)
              have hbY := hba.trans (hb5.mono hba.size)
              have hbp := below_put3 hbY (b := Y0.heap.size) (Nat.le_refl _) (.int .i64 u.op) (.int .i64 u.ow) (.int .i64 u.rp)
              have S3 := And.intro (S0.1.below hbp) (Below.keep hbp S0.2)
              have HZ := hid (And.intro (xg2.set3 (.int .i64 u.op) (.int .i64 u.ow) (.int .i64 u.rp)) (And.intro (hS16.below hbp (Nat.le_refl _)) (hb.trans (hbp.mono hb.size))))
              have HS2 := hid S3
              clear S0 S1 S3 xg hX2 hba hbY hb5 hX1 hT7 hS9 hS13 hS16 hb x0 hcy hwkk hbp
              have S0 := S2
              clear S2
              generalize Y0.heap.size = g9 at *
              go_wp2_with fail
              subst hK
              refine ⟨S0, ?_⟩
              (try simp only [Act.put, List.getElem_toArray, List.getElem_cons_succ, List.getElem_cons_zero, List.setIfInBounds_toArray, List.set_cons_succ, List.set_cons_zero])
              refine HeadAt.take (i := 5) (.tuple #[.agg #[.int .i64 u.op, .int .i64 u.ow, .int .i64 u.rp], .int .i64 0]) rfl (by kernel_rfl) (.inl ⟨rfl, fun w' z => ?_⟩) S0 ?_
              · (simp [go_sem])
              (try simp only [Act.put, List.getElem_toArray, List.getElem_cons_succ, List.getElem_cons_zero, List.setIfInBounds_toArray, List.set_cons_succ, List.set_cons_zero])
              refine HeadAt.take (i := 6) (.agg #[.int .i64 u.op, .int .i64 u.ow, .int .i64 u.rp]) rfl (by kernel_rfl) (.inl ⟨rfl, fun w' z => ?_⟩) S0 ?_
              · (simp [go_sem])
              refine HeadAt.take (i := 7) (.int .i64 0) rfl (by kernel_rfl) (.inl ⟨rfl, fun w' z => ?_⟩) S0 ?_
              · (simp [go_sem])
              (try simp only [Act.put, List.getElem_toArray, List.getElem_cons_succ, List.getElem_cons_zero, List.setIfInBounds_toArray, List.set_cons_succ, List.set_cons_zero])
              refine HeadAt.one (i := 9) rfl (by kernel_rfl) ?_
              generalize hK : Upto _ _ = K0
              (try simp only [Act.put, List.getElem_toArray, List.getElem_cons_succ, List.getElem_cons_zero, List.setIfInBounds_toArray, List.set_cons_succ, List.set_cons_zero])
              have d0 := xg2.cell 0 rfl; have d1 := xg2.cell 1 rfl; have d2 := xg2.cell 2 rfl
              have f0 := xg2.free 0; have f1 := xg2.free 1; have f2 := xg2.free 2
              clear xg2
              go_wp2_with fail
              subst hK
              refine ⟨HS2.out, ?_⟩
              (try simp only [Act.put, List.getElem_toArray, List.getElem_cons_succ, List.getElem_cons_zero, List.setIfInBounds_toArray, List.set_cons_succ, List.set_cons_zero])
              clear HS2 S0
              refine HeadAt.done (by kernel_rfl) ?_
              (try simp only [Act.put, List.drop_succ_cons, List.drop_zero, List.getElem_toArray, List.getElem_cons_succ, List.getElem_cons_zero])
              go_wp2_with fail
              refine NoPanic.normal ?_
              obtain ⟨z1, hS16, hb⟩ := HZ.out
              clear HZ d0 d1 d2 f0 f1 f2
              generalize World.setCell _ _ _ = V5 at *
              go_upto_region 21 with fail
              obtain ⟨b', o', x', e', hlt', hq', hg'⟩ := hS16.at (k := 0) (by have h1 := HPOS.out; have h2 := HNE.out; have h3 := HLA.out; have h4 := HLB.out; rw [List.length_append]; omega)
              cases e'
              obtain rfl : u = x' := by have := hg'.out; rw [HU.out] at this; injection this
              rw [Nat.zero_mul, Nat.add_zero] at hq'
              have hbd := (Below.refl V5.heap.size V5).drew
              have S0 := And.intro (z1.below hbd) (hq'.eq (hbd.block b16 hlt'))
              have hl5 : b16 < V5.drew.heap.size := hlt'
              replace hb := hb.trans (hbd.mono hb.size)
              clear z1 hS16 hg' hq' hbd hlt'
              refine wp_region_head 12 (fun w' => Bx w' g9 #[.int .i64 u.op, .int .i64 u.ow, .int .i64 u.rp] 33 ∧ At3 w' b16 0 u) (by kernel_rfl) rfl ?_
              generalize V5.drew = Z0 at *
              refine HeadAt.take (i := 0) (.int .i64 0) rfl (by kernel_rfl) (.inl ⟨rfl, fun _ _ => by simp [go_sem]⟩) S0 ?_
              (try simp only [Act.put, List.getElem_toArray, List.getElem_cons_succ, List.getElem_cons_zero, List.setIfInBounds_toArray, List.set_cons_succ, List.set_cons_zero])
              refine HeadAt.take (i := 1) (.bool true) rfl (by kernel_rfl) (.inl ⟨rfl, fun w' z => ?_⟩) S0 ?_
              · (simp [go_sem])
              (try simp only [Act.put, List.getElem_toArray, List.getElem_cons_succ, List.getElem_cons_zero, List.setIfInBounds_toArray, List.set_cons_succ, List.set_cons_zero])
              refine HeadAt.take (i := 2) (.bool true) rfl (by kernel_rfl) (.inl ⟨rfl, fun w' z => ?_⟩) S0 ?_
              · (simp [go_sem])
              (try simp only [Act.put, List.getElem_toArray, List.getElem_cons_succ, List.getElem_cons_zero, List.setIfInBounds_toArray, List.set_cons_succ, List.set_cons_zero])
              refine HeadAt.take (i := 3) (.agg #[.int .i64 u.op, .int .i64 u.ow, .int .i64 u.rp]) rfl (by kernel_rfl) (.inl ⟨rfl, fun w' z => ?_⟩) S0 ?_
              · (have z0 := z.1.cell 0 rfl; have z1 := z.1.cell 1 rfl; have z2 := z.1.cell 2 rfl; simp [go_sem, z0, z1, z2])
              refine HeadAt.take (i := 4) (.slice (some ⟨b16, 0, none⟩) n c16) rfl (by kernel_rfl) (.inl ⟨rfl, fun _ _ => by simp [go_sem]⟩) S0 ?_
              (try simp only [Act.put, List.getElem_toArray, List.getElem_cons_succ, List.getElem_cons_zero, List.setIfInBounds_toArray, List.set_cons_succ, List.set_cons_zero])
              refine HeadAt.take (i := 5) (.pointer (some ⟨b16, 0, none⟩)) rfl (by kernel_rfl) (.inl ⟨rfl, fun w' z => ?_⟩) S0 ?_
              · (simp [go_sem, hn1I, hnz])
              (try simp only [Act.put, List.getElem_toArray, List.getElem_cons_succ, List.getElem_cons_zero, List.setIfInBounds_toArray, List.set_cons_succ, List.set_cons_zero])
              refine HeadAt.take (i := 6) (.agg #[.int .i64 u.op, .int .i64 u.ow, .int .i64 u.rp]) rfl (by kernel_rfl) (.inl ⟨rfl, fun w' z => ?_⟩) S0 ?_
              · (obtain ⟨z0, z1, z2⟩ := z.2; simp only [Nat.zero_add] at z1 z2; simp [go_sem, z0, z1, z2])
              (try simp only [Act.put, List.getElem_toArray, List.getElem_cons_succ, List.getElem_cons_zero, List.setIfInBounds_toArray, List.set_cons_succ, List.set_cons_zero])
              refine HeadAt.take (i := 7) (.bool true) rfl (by kernel_rfl) (.inl ⟨rfl, fun w' z => ?_⟩) S0 ?_
              · (simp [go_sem])
              (try simp only [Act.put, List.getElem_toArray, List.getElem_cons_succ, List.getElem_cons_zero, List.setIfInBounds_toArray, List.set_cons_succ, List.set_cons_zero])
              refine HeadAt.take (i := 8) (.bool true) rfl (by kernel_rfl) (.inl ⟨rfl, fun w' z => ?_⟩) S0 ?_
              · (simp [go_sem])
              (try simp only [Act.put, List.getElem_toArray, List.getElem_cons_succ, List.getElem_cons_zero, List.setIfInBounds_toArray, List.set_cons_succ, List.set_cons_zero])
              refine HeadAt.take (i := 9) (.bool true) rfl (by kernel_rfl) (.inl ⟨rfl, fun w' z => ?_⟩) S0 ?_
              · (simp [go_sem])
              (try simp only [Act.put, List.getElem_toArray, List.getElem_cons_succ, List.getElem_cons_zero, List.setIfInBounds_toArray, List.set_cons_succ, List.set_cons_zero])
              refine HeadAt.one (i := 10) rfl (by kernel_rfl) ?_
              generalize hK : Upto _ _ = K0
              (try simp only [Act.put, List.getElem_toArray, List.getElem_cons_succ, List.getElem_cons_zero, List.setIfInBounds_toArray, List.set_cons_succ, List.set_cons_zero])
              go_wp2_with fail
              refine (hwk _).mono ?_
              rintro e Y9 ⟨rfl, hb9⟩
              have S1 := And.intro (S0.1.below hb9) (S0.2.eq (hb9.block b16 hl5))
              replace hb := hb.trans (hb9.mono hb.size)
              clear S0 hb9 hl5
              go_wp2_with fail
              subst hK
              refine ⟨S1, ?_⟩
              (try simp only [Act.put, List.getElem_toArray, List.getElem_cons_succ, List.getElem_cons_zero, List.setIfInBounds_toArray, List.set_cons_succ, List.set_cons_zero])
              refine HeadAt.take (i := 11) (.bool true) rfl (by kernel_rfl) (.inl ⟨rfl, fun w' z => ?_⟩) S1 ?_
              · (simp [go_sem])
              (try simp only [Act.put, List.getElem_toArray, List.getElem_cons_succ, List.getElem_cons_zero, List.setIfInBounds_toArray, List.set_cons_succ, List.set_cons_zero])
              refine HeadAt.done (by kernel_rfl) ?_
              (try simp only [Act.put, List.drop_succ_cons, List.drop_zero, List.getElem_toArray, List.getElem_cons_succ, List.getElem_cons_zero])
              go_wp2_with fail
              refine NoPanic.normal ?_
              go_wp2
              go_ret
              exact ⟨rfl, hb⟩
theorem sharesLater_any (ac : Option Addr) (cc : Nat) (cs : List Cl) (L : Int) (a1 : Option Addr) (c1 : Nat) (fs : List Int) (a2 : Option Addr) (c2 : Nat) (bs : List Int) (w : World) (hS : ShIn w ac cc cs) (hA : Ints w a1 fs) (hB : Ints w a2 bs) (hla : fs.length ≤ 4611686018427387903) (hlb : bs.length ≤ 4611686018427387903) : Calls Try.prog 9 #[.agg #[.slice ac cs.length cc, .int .i64 L], .slice a1 fs.length c1, .slice a2 bs.length c2] w fun e w' => e = .returned (.bool true) ∧ Below w.heap.size w w' := by
  cases hs : shB cs L
  · exact Later_far ac cc cs L a1 c1 fs a2 c2 bs w hS hla hlb (.inl hs)
  · rcases Nat.lt_or_ge 6 (fs.length + bs.length) with h | h
    · exact Later_far ac cc cs L a1 c1 fs a2 c2 bs w hS hla hlb (.inr h)
    · have hX := hS.cl (by have := (shB_ok hs).1; omega)
      cases hc : (fs ++ bs).all cenB
      · exact Later_cents ac cc cs L a1 c1 fs a2 c2 bs w hX hA hB hs h hc
      · exact Later_ok ac cc cs L a1 c1 fs a2 c2 bs w hX hA hB hs h hc
end Go.Proofs.Ythgjjlkdekfdbaa
