import Derived.Test.YthgjjlkdekfdbaaRA
import Derived.Test.YthgjjlkdekfdbaaM5
/-! SharesNothing. -/
namespace Go.Proofs.Ythgjjlkdekfdbaa
set_option linter.unusedSimpArgs false
set_option linter.unusedVariables false
open Go Go.RowKit

set_option maxRecDepth 100000 in
set_option maxHeartbeats 6000000 in
theorem Nothing_bad (ac : Option Addr) (cc : Nat) (cs : List Cl) (L : Int) (t n : Int) (w : World) (hS : ShIn w ac cc cs) (hbad : (shB cs L && cenB t && hasB cs n) = false) : Calls Try.prog 12 #[.agg #[.slice ac cs.length cc, .int .i64 L], .int .i64 t, .int .i64 n] w fun e w' => e = .returned (.bool true) ∧ Below w.heap.size w w' := by
  obtain ⟨W, hW, hb, _, x0⟩ := boxes1 w #[.slice ac cs.length cc, .int .i64 L] 24
  have hS1 := hS.below hb (Nat.le_refl _)
  have h0 := isShare_any ac cc cs L W hS1.l hS1.cl
  have h1 := fun V => IsCents_any t V
  have h2 := fun hl V => IsClause_any ac cc cs L n V hl
  have h5 : shB cs L = true → cs.length ≤ 1000 := fun h => by have := (shB_ok h).1; omega
  have hwk := fun V => works_any V
  clear hS hS1
  generalize shB cs L = r at *
  generalize cenB t = a at *
  generalize hasB cs n = b at *
  have c0 := x0.cell 0 rfl; have c1 := x0.cell 1 rfl
  go_enter Try.func12, Try.ntmps12
  cases r
  · clear hbad h2 h5
    go_wp2_with fail
    refine (h0).mono ?_
    rintro e Vc1 ⟨rfl, hb1⟩
    clear c0 c1
    replace x0 := x0.below hb1
    replace hb := hb.trans (hb1.mono hb.size)
    clear hb1
    have c0 := x0.cell 0 rfl; have c1 := x0.cell 1 rfl
    go_wp2_with fail
    refine (hwk _).mono ?_
    rintro e Vw ⟨rfl, hbw9⟩
    clear c0 c1
    replace hb := hb.trans (hbw9.mono hb.size)
    go_wp2
    go_ret
    exact ⟨rfl, hb⟩
  · cases a
    · clear hbad h2 h5
      go_wp2_with fail
      refine (h0).mono ?_
      rintro e Vc3 ⟨rfl, hb1⟩
      clear c0 c1
      replace x0 := x0.below hb1
      replace hb := hb.trans (hb1.mono hb.size)
      clear hb1
      have c0 := x0.cell 0 rfl; have c1 := x0.cell 1 rfl
      go_wp2_with fail
      refine (h1 _).mono ?_
      rintro e Vc4 ⟨rfl, rfl⟩
      go_wp2_with fail
      refine (hwk _).mono ?_
      rintro e Vw ⟨rfl, hbw9⟩
      clear c0 c1
      replace hb := hb.trans (hbw9.mono hb.size)
      go_wp2
      go_ret
      exact ⟨rfl, hb⟩
    · obtain rfl : b = false := by simpa using hbad
      have h2' := h2 (h5 rfl)
      clear hbad h2 h5
      go_wp2_with fail
      refine (h0).mono ?_
      rintro e Vc6 ⟨rfl, hb1⟩
      clear c0 c1
      replace x0 := x0.below hb1
      replace hb := hb.trans (hb1.mono hb.size)
      clear hb1
      have c0 := x0.cell 0 rfl; have c1 := x0.cell 1 rfl
      go_wp2_with fail
      refine (h1 _).mono ?_
      rintro e Vc7 ⟨rfl, rfl⟩
      go_wp2_with fail
      refine (h2' _).mono ?_
      rintro e Vc8 ⟨rfl, hb1⟩
      clear c0 c1
      replace x0 := x0.below hb1
      replace hb := hb.trans (hb1.mono hb.size)
      clear hb1
      have c0 := x0.cell 0 rfl; have c1 := x0.cell 1 rfl
      go_wp2_with fail
      refine (hwk _).mono ?_
      rintro e Vw ⟨rfl, hbw9⟩
      clear c0 c1
      replace hb := hb.trans (hbw9.mono hb.size)
      go_wp2
      go_ret
      exact ⟨rfl, hb⟩
set_option maxRecDepth 100000 in
set_option maxHeartbeats 6000000 in
theorem Nothing_ok (ac : Option Addr) (cc : Nat) (cs : List Cl) (L : Int) (t : Int) (j : Nat) (w : World) (hX : Clz w ac cs) (hcc : cs.length ≤ cc) (hs : shB cs L = true) (ht : cenB t = true) (hj : j < cs.length) (n : Int) (hn : n = (j : Int)) : Calls Try.prog 12 #[.agg #[.slice ac cs.length cc, .int .i64 L], .int .i64 t, .int .i64 n] w fun e w' => e = .returned (.bool true) ∧ Below w.heap.size w w' := by
  obtain ⟨W, hW, hb, _, x0⟩ := boxes1 w #[.slice ac cs.length cc, .int .i64 L] 24
  have hle := hX.len
  have h0 := isShare_any ac cc cs L W (by omega) (fun _ => hX.below hb (Nat.le_refl _))
  rw [hs] at h0
  have h1 := fun V => IsCents_any t V
  rw [ht] at h1
  have h2 := fun V => IsClause_any ac cc cs L n V hle
  rw [show hasB cs n = true from inI_iff.2 (by omega)] at h2
  have hwk := fun V => works_any V
  have ho := Ok.of hs ht
  have hv2 : shB (lessC cs j) L = true := by
    unfold shB at hs ⊢
    simp only [Bool.and_eq_true, decide_eq_true_eq, List.all_eq_true] at hs ⊢
    exact ⟨⟨by rw [lessC_len hj]; omega, fun x hx => hs.1.2 x (List.mem_of_mem_eraseIdx hx)⟩, hs.2⟩
  obtain ⟨u, hu⟩ : ∃ u, u = settledW L cs t := ⟨_, rfl⟩
  obtain ⟨v, hv⟩ : ∃ v, v = settledW L (lessC cs j) t := ⟨_, rfl⟩
  have hgi := fun (V : World) hh => Gives_ok ac cc cs L t j V hh hs ht hj hcc n hn
  have hwi := fun (V : World) hh => Without_ok ac cc cs L t j V hh hs ht hj hcc n hn
  have hwa := fun (V : World) hh => Week_ok ac cc cs L t V hh hs ht u hu
  have hls := fun (V : World) hh => Less_any ac cc cs L j hj V hh
  rw [← hn] at hls
  have hwb := fun (V : World) (a : Option Addr) (c : Nat) hh => Week_ok a c (lessC cs j) L t V hh hv2 ht v hv
  have hub := (hu ▸ ho.fin : Inv t L u).wb ho.t.2 ho.L.2
  have ho2 : Ok (lessC cs j) L t := ⟨lessC_ok ho.cs, ho.L, ho.t⟩
  have hvb := (hv ▸ ho2.fin : Inv t L v).wb ho.t.2 ho.L.2
  have hw0 : withoutC L cs t j = v.ow - u.ow := by unfold withoutC; rw [← hu, ← hv]
  rw [hw0] at hwi
  have hno := fun h => nothing_parts hu hv hj h
  obtain ⟨gv, hgv⟩ : ∃ gv, gv = givesC L cs t j := ⟨_, rfl⟩
  rw [← hgv] at hgi hno
  have hu1 := hub.ow; have hv1 := hvb.ow
  have ew : IntKind.i64.wrap (v.ow - u.ow) = v.ow - u.ow := IntWalk.i64_in _ (by omega)
  have hX1 := hX.below hb (Nat.le_refl _)
  obtain ⟨q, hq⟩ : ∃ q, q = (lessC cs j).length := ⟨_, rfl⟩
  rw [← hq] at hls hwb
  obtain ⟨nn, hnn⟩ : ∃ nn, nn = cs.length := ⟨_, rfl⟩
  rw [← hnn] at h0 h2 hgi hwi hwa hls x0 hW ⊢
  clear hs hv2 hu hv ht ho ho2 hub hvb hw0 hgv hn hj hcc hle hX hq hnn
  have c0 := x0.cell 0 rfl; have c1 := x0.cell 1 rfl
  go_enter Try.func12, Try.ntmps12
  go_wp2_with fail
  refine (h0).mono ?_
  rintro e Vc10 ⟨rfl, hb1⟩
  clear c0 c1
  replace x0 := x0.below hb1
  replace hX1 := hX1.below hb1 (Nat.le_refl _)
  replace hb := hb.trans (hb1.mono hb.size)
  clear hb1 h0 hW
  have c0 := x0.cell 0 rfl; have c1 := x0.cell 1 rfl
  go_wp2_with fail
  refine (h1 _).mono ?_
  rintro e Vc11 ⟨rfl, rfl⟩
  clear h1
  go_wp2_with fail
  refine (h2 _).mono ?_
  rintro e Vc12 ⟨rfl, hb1⟩
  clear c0 c1
  replace x0 := x0.below hb1
  replace hX1 := hX1.below hb1 (Nat.le_refl _)
  replace hb := hb.trans (hb1.mono hb.size)
  clear hb1 h2
  have c0 := x0.cell 0 rfl; have c1 := x0.cell 1 rfl
  go_wp2_with fail
  refine (hgi _ hX1).mono ?_
  rintro e Vc13 ⟨rfl, hb1⟩
  clear c0 c1
  replace x0 := x0.below hb1
  replace hX1 := hX1.below hb1 (Nat.le_refl _)
  replace hb := hb.trans (hb1.mono hb.size)
  clear hb1 hgi
  have c0 := x0.cell 0 rfl; have c1 := x0.cell 1 rfl
  go_wp2_with fail
  refine (hwi _ hX1).mono ?_
  rintro e Vc14 ⟨rfl, hb1⟩
  clear c0 c1
  replace x0 := x0.below hb1
  replace hX1 := hX1.below hb1 (Nat.le_refl _)
  replace hb := hb.trans (hb1.mono hb.size)
  clear hb1 hwi
  have c0 := x0.cell 0 rfl; have c1 := x0.cell 1 rfl
  go_wp2_with fail
  refine (hwa _ hX1).mono ?_
  rintro e Vc15 ⟨rfl, hb1⟩
  clear c0 c1
  replace x0 := x0.below hb1
  replace hX1 := hX1.below hb1 (Nat.le_refl _)
  replace hb := hb.trans (hb1.mono hb.size)
  clear hb1 hwa
  have c0 := x0.cell 0 rfl; have c1 := x0.cell 1 rfl
  have hba := below_one (w := Vc15) (.cells #[.int .i64 u.op, .int .i64 u.ow, .int .i64 u.rp] 33)
  have HXa := hid (And.intro (x0.below hba) (And.intro (hX1.below hba (Nat.le_refl _)) (And.intro (hb.trans (hba.mono hb.size)) (Bx.new Vc15 #[.int .i64 u.op, .int .i64 u.ow, .int .i64 u.rp] 33))))
  clear hba hb x0 hX1
  go_upto_region 6 with fail
  clear c0 c1
  obtain ⟨x0, hX1, hb, x1⟩ := HXa.out
  clear HXa
  generalize Vc15.heap.size = sa_x1 at *
  generalize World.alloc _ _ = Va16 at *
  have c0 := x0.cell 0 rfl; have c1 := x0.cell 1 rfl
  go_wp2_with fail
  refine (hls _ hX1).mono ?_
  rintro e Vc17 ⟨a9, c9, rfl, hX9, hb1⟩
  clear c0 c1
  replace x0 := x0.below hb1
  replace x1 := x1.below hb1
  replace hX1 := hX1.below hb1 (Nat.le_refl _)
  replace hb := hb.trans (hb1.mono hb.size)
  clear hb1 hls hX1
  have c0 := x0.cell 0 rfl; have c1 := x0.cell 1 rfl
  go_wp2_with fail
  refine (hwb _ a9 c9 hX9).mono ?_
  rintro e Vc18 ⟨rfl, hb1⟩
  clear c0 c1
  replace x0 := x0.below hb1
  replace x1 := x1.below hb1
  replace hX9 := hX9.below hb1 (Nat.le_refl _)
  replace hb := hb.trans (hb1.mono hb.size)
  clear hb1 hwb hX9
  have c0 := x0.cell 0 rfl; have c1 := x0.cell 1 rfl
  have hba := below_one (w := Vc18) (.cells #[.int .i64 v.op, .int .i64 v.ow, .int .i64 v.rp] 33)
  have HXa := hid (And.intro (x0.below hba) (And.intro (x1.below hba) (And.intro (hb.trans (hba.mono hb.size)) (Bx.new Vc18 #[.int .i64 v.op, .int .i64 v.ow, .int .i64 v.rp] 33))))
  clear hba hb x0 x1
  go_upto_region 7 with fail
  clear c0 c1
  obtain ⟨x0, x1, hb, x2⟩ := HXa.out
  clear HXa
  generalize Vc18.heap.size = sa_x2 at *
  generalize World.alloc _ _ = Va19 at *
  have c0 := x0.cell 0 rfl; have c1 := x0.cell 1 rfl
  have d0 := x1.cell 0 rfl; have d1 := x1.cell 1 rfl; have d2 := x1.cell 2 rfl
  have m0 := x2.cell 0 rfl; have m1 := x2.cell 1 rfl; have m2 := x2.cell 2 rfl
  by_cases hz : gv = 0
  · obtain rfl := hno hz
    have hzB : (gv != 0) = false := by simp [hz]
    have ee : (v.ow - v.ow == v.ow - v.ow) = true := by simp
    clear hz hno
    go_wp2_with fail
    refine (hwk _).mono ?_
    rintro e Vw ⟨rfl, hbw9⟩
    clear c0 c1
    clear d0 d1 d2
    clear m0 m1 m2
    replace hb := hb.trans (hbw9.mono hb.size)
    go_wp2
    go_ret
    exact ⟨rfl, hb⟩
  · have hzB : (gv != 0) = true := by simp [hz]
    clear hz hno
    go_wp2_with fail
    refine (hwk _).mono ?_
    rintro e Vw ⟨rfl, hbw9⟩
    clear c0 c1
    clear d0 d1 d2
    clear m0 m1 m2
    replace hb := hb.trans (hbw9.mono hb.size)
    go_wp2
    go_ret
    exact ⟨rfl, hb⟩
theorem sharesNothing_any (ac : Option Addr) (cc : Nat) (cs : List Cl) (L : Int) (t n : Int) (w : World) (hS : ShIn w ac cc cs) : Calls Try.prog 12 #[.agg #[.slice ac cs.length cc, .int .i64 L], .int .i64 t, .int .i64 n] w fun e w' => e = .returned (.bool true) ∧ Below w.heap.size w w' := by
  cases h : (shB cs L && cenB t && hasB cs n)
  · exact Nothing_bad ac cc cs L t n w hS h
  · simp only [Bool.and_eq_true] at h
    have hh := inI_iff.1 h.2
    obtain ⟨j, rfl⟩ := Int.eq_ofNat_of_zero_le hh.1
    exact Nothing_ok ac cc cs L t j w (hS.cl (by have := (shB_ok h.1.1).1; omega)) hS.cap h.1.1 h.1.2 (by omega) _ rfl
end Go.Proofs.Ythgjjlkdekfdbaa
