import Derived.Test.YtakodllejndfeaaT19
/-! The share of a writer with another pool, as the program says. -/
namespace Go.Proofs.Ytakodllejndfeaa
set_option linter.unusedSimpArgs false
set_option linter.unusedVariables false
open Go Go.RowKit

theorem sanB_ok {n : Nat} {l : List Int} {most : Int} (hl : l.length = n) (h : ∀ x ∈ l, 0 ≤ x ∧ x ≤ most) : sanB n l most = true := by
  unfold sanB
  rw [decide_eq_true hl, Bool.true_and, List.all_eq_true]
  exact fun x hx => inI_iff.2 (h x hx)
theorem vB_pool {p P : Int} {S : List Sd} {O : List Int} (h : vB p S O = true) (h0 : 0 ≤ P) (h9 : P ≤ 9999) : vB P S O = true := by
  unfold vB at *
  simp only [Bool.and_eq_true, inI_iff] at *
  exact ⟨h.1, h0, h9⟩
theorem askE_pool {p P : Int} {S : List Sd} {O : List Int} (h : askE p S O true = 0) (h0 : 0 ≤ P) (h9 : P ≤ 9999) : askE P S O true = 0 := by
  obtain ⟨hv, _, ha⟩ := askE_0 h
  exact askE_n (vB_pool hv h0 h9) ha
set_option maxRecDepth 100000 in
set_option maxHeartbeats 4000000 in
theorem shareOf_any (p : Int) (aS aO : Option Addr) (cS cO : Nat) (S : List Sd) (O : List Int) (i : Nat) (P : Int) (w : World) (hX : Ry w aS aO p S O) (hE : askE p S O true = 0) (hi : i < O.length) (h0 : 0 ≤ P) (h9 : P ≤ 9999) :
    Calls Try.prog 32 #[.agg #[.int .i64 p, .slice aS S.length cS, .slice aO O.length cO], .int .i64 (i : Int), .int .i64 P] w fun e w' => e = .returned (.tuple #[.int .i64 (shV P (clL S O.length) (100 * alS S) O.length (i : Nat)), .bool true]) ∧ Below w.heap.size w w' := by
  obtain ⟨W, hW, hb, _, x0⟩ := boxes1 w #[.int .i64 p, .slice aS S.length cS, .slice aO O.length cO] 25
  have hXW := hX.below hb (Nat.le_refl _)
  have hol := hX.ol; have hsl := hX.sd.len
  have hE2 := askE_pool hE h0 h9
  have hcp := Copy_any p aS aO cS cO S O W hXW
  unfold CopyP at hcp
  have hlL := shR_len hE2
  have hrL := shR_rng P S O
  have hget : (shR P S O)[i]? = some (shV P (clL S O.length) (100 * alS S) O.length (i : Nat)) := by rw [shR_ok hE2, shL_get _ _ _ hi]
  obtain ⟨s, hs⟩ : ∃ s, s = shV P (clL S O.length) (100 * alS S) O.length (i : Nat) := ⟨_, rfl⟩
  rw [← hs] at hget ⊢
  have h1 := fun (a b : Option Addr) (c d : Nat) (V : World) (h : Ry V a b P S O) => Shares_any P a b c d S O V h
  rw [hE2] at h1
  generalize shR P S O = L at *
  have s1 := fun a c V h => sane_any p aS aO cS cO S O a c L 9999 V h hol
  rw [sanB_ok hlL hrL] at s1
  rw [hlL] at h1 s1
  have HLL := hid hlL
  clear hs hE hE2 hX hrL hlL
  obtain ⟨n, hn⟩ : ∃ n, n = O.length := ⟨_, rfl⟩
  rw [← hn] at h1 s1 hi hol x0 hW hcp ⊢
  have HN := hid hn
  clear hn
  obtain ⟨m, hm⟩ : ∃ m, m = S.length := ⟨_, rfl⟩
  rw [← hm] at h1 s1 hsl x0 hW hcp ⊢
  have HM := hid hm
  clear hm
  have hiI : (i : Int) < (n : Int) := by omega
  have hi0 : (0 : Int) ≤ (i : Int) := by omega
  have c0 := x0.cell 0 rfl; have c1 := x0.cell 1 rfl; have c2 := x0.cell 2 rfl
  go_enter Try.func32, Try.ntmps32
  go_wp2_with fail
  refine hcp.mono ?_
  rintro e V1 ⟨a, b, k1, k2, rfl, hC, hb1, _⟩
  have hRy : Ry V1 a b P S O := hC.ry (by rw [← HM.out]; exact hsl) (by rw [← HN.out]; exact hol) ⟨by omega, by omega⟩
  have hba := below_one (w := V1) (.cells #[.int .i64 P, .slice a m k1, .slice b n k2] 25)
  have hbW := hb.trans (hb1.mono hb.size)
  have HX := hid (And.intro (Bx.new V1 #[.int .i64 P, .slice a m k1, .slice b n k2] 25) (And.intro ((x0.below hb1).below hba) (And.intro (hRy.below hba (Nat.le_refl _)) (hbW.trans (hba.mono hbW.size)))))
  clear hRy hC hcp hW c0 c1 c2 hbW hba hb hb1 x0 hXW
  go_upto_region 3 with fail
  obtain ⟨x8, x0, hRy, hb⟩ := HX.out
  clear HX
  generalize V1.heap.size = s8 at *
  generalize World.alloc _ _ = V2 at *
  have d0 := x8.cell 0 rfl; have d1 := x8.cell 1 rfl; have d2 := x8.cell 2 rfl
  have c0 := x0.cell 0 rfl; have c1 := x0.cell 1 rfl; have c2 := x0.cell 2 rfl
  go_wp2_with fail
  refine (h1 a b k1 k2 _ hRy).mono ?_
  rintro e V3 ⟨aL, kL, rfl, hL, hb1⟩
  have x03 := x0.below hb1
  replace hb := hb.trans (hb1.mono hb.size)
  clear c0 c1 c2 d0 d1 d2 x8 x0 hRy hb1 h1
  have c0 := x03.cell 0 rfl; have c1 := x03.cell 1 rfl; have c2 := x03.cell 2 rfl
  go_wp2_with fail
  refine (s1 aL kL _ hL).mono ?_
  rintro e V4 ⟨rfl, hb1⟩
  replace hL := hL.below hb1 (Nat.le_refl _)
  replace hb := hb.trans (hb1.mono hb.size)
  clear c0 c1 c2 x03 hb1 s1
  obtain ⟨b1, o1, s', rfl, _, q1, _, _, g1, _⟩ := hL.at (k := i) (by rw [HLL.out, ← HN.out]; exact hi)
  obtain rfl : s' = s := by have := g1.out; rw [hget] at this; injection this with this; exact this.symm
  clear g1 hget hL
  go_wp2
  go_ret2
  exact ⟨rfl, hb⟩
end Go.Proofs.Ytakodllejndfeaa
