import Derived.Test.YtmpihcencnkpbaaTO
/-! WiresMore: its walk. -/
namespace Go.Proofs.Ytmpihcencnkpbaa
set_option linter.unusedSimpArgs false
set_option linter.unusedVariables false
open Go Go.RowKit

/-- Presses of any length. -/
def Lg (w : World) (a : Option Addr) (P : List F3) : Prop := (∀ x ∈ P, x.i64) ∧ (∀ i, i < P.length → ∃ b off, a = some ⟨b, off, none⟩ ∧ b < w.heap.size ∧ At3 w b (off + i * 3) (P.getD i f30))
theorem Lg.below {w w' : World} {a : Option Addr} {P : List F3} (h : Lg w a P) {B : Nat} (hb : Below B w w') (hB : w.heap.size ≤ B) : Lg w' a P :=
  ⟨h.1, fun i hi => by
    obtain ⟨b, off, e, hl, hc⟩ := h.2 i hi
    exact ⟨b, off, e, by have := hb.size; omega, hc.eq (hb.block b (by omega))⟩⟩
theorem Lg.pz {w : World} {a : Option Addr} {P : List F3} (h : Lg w a P) (hl : P.length ≤ 5864062014805) : Pz w a P := ⟨by omega, fun k => ⟨k, h.1, h.2⟩⟩
theorem Pz.set {w : World} {a : Option Addr} {P : List F3} (h : Pz w a P) {p : Addr} (ho : ∀ ad, a = some ad → ad.block ≠ p.block) (v : Value) : Pz (w.setCell p v) a P := ⟨h.1, fun k => (h.2 k).set ho v⟩

set_option maxRecDepth 100000 in
set_option maxHeartbeats 6000000 in
theorem wiresMore_any (L N : Int) (aP : Option Addr) (cP : Nat) (P : List F3) (F : Int) (w : World) (hX : Lg w aP P) (hl : P.length ≤ 5864062014805) (hF : -9223372036854775808 ≤ F ∧ F ≤ 9223372036854775807) : Calls Try.prog 10 #[.agg #[.int .i64 L, .int .i64 N, .slice aP P.length cP, .int .i64 F]] w fun e w' => e = .returned (.bool true) ∧ Below w.heap.size w w' := by
  obtain ⟨n, hn⟩ : ∃ n, n = P.length := ⟨_, rfl⟩
  have HN := hid hn
  have hPX := hid hX.1
  obtain ⟨F1, hF1⟩ : ∃ F1, F1 = IntKind.i64.wrap (F + 1) := ⟨_, rfl⟩
  have hlaw := fun (h1 : rdB L N P F = true) (h2 : rdB L N P F1 = true) => (show _ from by
    have hv := (rdB_ok h1).1
    obtain ⟨_, _, _, hF3, _⟩ := vB_siz hv
    have e : F1 = F + 1 := by rw [hF1, IntWalk.i64_in _ (by omega)]
    rw [e] at h2
    have := more_law h1 h2
    rw [← e] at this
    exact this)
  have hcp := fun V (h : Lg V aP P) => Copy_long L N aP cP P F V (cls_at3 h.2) hl
  unfold CpP at hcp
  have hwk := works_any
  have hr1 := fun V (h : Lg V aP P) => ready_any L N aP cP P F V (h.pz hl)
  have hr2 := fun a c V (h : Pz V a P) => ready_any L N a c P F1 V h
  have hm1 := fun V (h : Lg V aP P) => Many_any L N aP cP P F V (h.pz hl)
  have hm2 := fun a c V (h : Pz V a P) => Many_any L N a c P F1 V h
  have hs1 := fun V (h : Lg V aP P) => Sure_any L N aP cP P F V (h.pz hl)
  have hs2 := fun a c V (h : Pz V a P) => Sure_any L N a c P F1 V h
  have hy1 := fun V (h : Lg V aP P) => Maybe_any L N aP cP P F V (h.pz hl)
  have hy2 := fun a c V (h : Pz V a P) => Maybe_any L N a c P F1 V h
  have hkn := fun x V => isKnown_any x V
  have har := fun a b ca cb (xs ys : List F3) V (hA : Fz V a xs) (hB : Fz V b ys) h1 h2 => areIn_any a b ca cb xs ys V hA hB h1 h2
  unfold CtP at hs1 hs2 hy1 hy2
  rw [← hn] at hcp hr1 hr2 hm1 hm2 hs1 hs2 hy1 hy2 ⊢
  obtain ⟨W, hW, hb, hs, x0⟩ := boxes1 w #[.int .i64 L, .int .i64 N, .slice aP n cP, .int .i64 F] 24
  have hP := hX.below hb (Nat.le_refl _)
  have hw : IntKind.i64.wrap (F + 1) = F1 := hF1.symm
  have HL := hid hl
  clear hX hF1 hn hl hF
  generalize rdB L N P F = r1 at *
  generalize rdB L N P F1 = r2 at *
  cases r1
  · skip
    clear hlaw hr2 hm1 hm2 hs1 hs2 hy1 hy2 hkn har
    have c0 := x0.cell 0 rfl; have c1 := x0.cell 1 rfl; have c2 := x0.cell 2 rfl; have c3 := x0.cell 3 rfl
    go_enter Try.func10, Try.ntmps10
    go_wp2_with fail
    refine (hcp _ hP).mono ?_
    rintro e V ⟨hb1, a, c, rfl, hown⟩
    clear c0 c1 c2 c3 hcp hW
    have hlt := fun g hg => (hown.lt g hg).2
    have hPo : Pz V a P := ⟨by have := HL.out; omega, fun k => cp_row hown HN.out hPX.out k⟩
    have x3 := Bx.new V #[.int .i64 L, .int .i64 N, .slice a n c, .int .i64 F] 24
    have hbb := below_one (w := V) (.cells #[.int .i64 L, .int .i64 N, .slice a n c, .int .i64 F1] 24)
    have y3 := Bx.new V #[.int .i64 L, .int .i64 N, .slice a n c, .int .i64 F1] 24
    have hbV := hb.trans (hb1.mono hb.size)
    have HXa := hid (And.intro ((x0.below hb1).below hbb) (And.intro ((hP.below hb1 (Nat.le_refl _)).below hbb (Nat.le_refl _)) (And.intro (hPo.below hbb (Nat.le_refl _)) (And.intro (hbV.trans (hbb.mono hbV.size)) y3))))
    have d3 := x3.cell 3 rfl
    have f3 := x3.free 3
    clear x3 y3 hbb hbV hb1 hb x0 hP hPo hown
    go_upto_region 3 with fail
    obtain ⟨x0, hP, hPo, hb, x3⟩ := HXa.out
    clear HXa d3 f3
    generalize World.alloc _ _ = Y at *
    obtain ⟨s3, hs3⟩ : ∃ s3, s3 = V.heap.size := ⟨_, rfl⟩
    rw [← hs3] at x3 ⊢
    clear hs3 hlt
    have c0 := x0.cell 0 rfl; have c1 := x0.cell 1 rfl; have c2 := x0.cell 2 rfl; have c3 := x0.cell 3 rfl
    have d0 := x3.cell 0 rfl; have d1 := x3.cell 1 rfl; have d2 := x3.cell 2 rfl; have d3 := x3.cell 3 rfl
    go_wp2_with fail
    refine (hr1 _ hP).mono ?_
    rintro e Vc1 ⟨rfl, hb1⟩
    clear c0 c1 c2 c3
    clear d0 d1 d2 d3
    replace x0 := x0.below hb1
    replace x3 := x3.below hb1
    replace hP := hP.below hb1 (Nat.le_refl _)
    replace hPo := hPo.below hb1 (Nat.le_refl _)
    replace hb := hb.trans (hb1.mono hb.size)
    clear hb1 hr1
    have c0 := x0.cell 0 rfl; have c1 := x0.cell 1 rfl; have c2 := x0.cell 2 rfl; have c3 := x0.cell 3 rfl
    have d0 := x3.cell 0 rfl; have d1 := x3.cell 1 rfl; have d2 := x3.cell 2 rfl; have d3 := x3.cell 3 rfl
    go_wp2_with fail
    refine (hwk _).mono ?_
    rintro e Vw ⟨rfl, hbw9⟩
    clear c0 c1 c2 c3
    clear d0 d1 d2 d3
    replace hb := hb.trans (hbw9.mono hb.size)
    go_wp2
    go_ret
    exact ⟨rfl, hb⟩
  · skip
    cases r2
    · skip
      clear hlaw hm1 hm2 hs1 hs2 hy1 hy2 hkn har
      have c0 := x0.cell 0 rfl; have c1 := x0.cell 1 rfl; have c2 := x0.cell 2 rfl; have c3 := x0.cell 3 rfl
      go_enter Try.func10, Try.ntmps10
      go_wp2_with fail
      refine (hcp _ hP).mono ?_
      rintro e V ⟨hb1, a, c, rfl, hown⟩
      clear c0 c1 c2 c3 hcp hW
      have hlt := fun g hg => (hown.lt g hg).2
      have hPo : Pz V a P := ⟨by have := HL.out; omega, fun k => cp_row hown HN.out hPX.out k⟩
      have x3 := Bx.new V #[.int .i64 L, .int .i64 N, .slice a n c, .int .i64 F] 24
      have hbb := below_one (w := V) (.cells #[.int .i64 L, .int .i64 N, .slice a n c, .int .i64 F1] 24)
      have y3 := Bx.new V #[.int .i64 L, .int .i64 N, .slice a n c, .int .i64 F1] 24
      have hbV := hb.trans (hb1.mono hb.size)
      have HXa := hid (And.intro ((x0.below hb1).below hbb) (And.intro ((hP.below hb1 (Nat.le_refl _)).below hbb (Nat.le_refl _)) (And.intro (hPo.below hbb (Nat.le_refl _)) (And.intro (hbV.trans (hbb.mono hbV.size)) y3))))
      have d3 := x3.cell 3 rfl
      have f3 := x3.free 3
      clear x3 y3 hbb hbV hb1 hb x0 hP hPo hown
      go_upto_region 3 with fail
      obtain ⟨x0, hP, hPo, hb, x3⟩ := HXa.out
      clear HXa d3 f3
      generalize World.alloc _ _ = Y at *
      obtain ⟨s3, hs3⟩ : ∃ s3, s3 = V.heap.size := ⟨_, rfl⟩
      rw [← hs3] at x3 ⊢
      clear hs3 hlt
      have c0 := x0.cell 0 rfl; have c1 := x0.cell 1 rfl; have c2 := x0.cell 2 rfl; have c3 := x0.cell 3 rfl
      have d0 := x3.cell 0 rfl; have d1 := x3.cell 1 rfl; have d2 := x3.cell 2 rfl; have d3 := x3.cell 3 rfl
      go_wp2_with fail
      refine (hr1 _ hP).mono ?_
      rintro e Vc3 ⟨rfl, hb1⟩
      clear c0 c1 c2 c3
      clear d0 d1 d2 d3
      replace x0 := x0.below hb1
      replace x3 := x3.below hb1
      replace hP := hP.below hb1 (Nat.le_refl _)
      replace hPo := hPo.below hb1 (Nat.le_refl _)
      replace hb := hb.trans (hb1.mono hb.size)
      clear hb1 hr1
      have c0 := x0.cell 0 rfl; have c1 := x0.cell 1 rfl; have c2 := x0.cell 2 rfl; have c3 := x0.cell 3 rfl
      have d0 := x3.cell 0 rfl; have d1 := x3.cell 1 rfl; have d2 := x3.cell 2 rfl; have d3 := x3.cell 3 rfl
      go_wp2_with fail
      refine (hr2 _ _ _ hPo).mono ?_
      rintro e Vc4 ⟨rfl, hb1⟩
      clear c0 c1 c2 c3
      clear d0 d1 d2 d3
      replace x0 := x0.below hb1
      replace x3 := x3.below hb1
      replace hP := hP.below hb1 (Nat.le_refl _)
      replace hPo := hPo.below hb1 (Nat.le_refl _)
      replace hb := hb.trans (hb1.mono hb.size)
      clear hb1 hr2
      have c0 := x0.cell 0 rfl; have c1 := x0.cell 1 rfl; have c2 := x0.cell 2 rfl; have c3 := x0.cell 3 rfl
      have d0 := x3.cell 0 rfl; have d1 := x3.cell 1 rfl; have d2 := x3.cell 2 rfl; have d3 := x3.cell 3 rfl
      go_wp2_with fail
      refine (hwk _).mono ?_
      rintro e Vw ⟨rfl, hbw9⟩
      clear c0 c1 c2 c3
      clear d0 d1 d2 d3
      replace hb := hb.trans (hbw9.mono hb.size)
      go_wp2
      go_ret
      exact ⟨rfl, hb⟩
    · skip
      obtain ⟨⟨l1, l2, l3, l4⟩, hD⟩ := hlaw rfl rfl
      clear hlaw
      generalize akE L N P F true = E at *
      generalize akE L N P F1 true = E1 at *
      generalize (akT L N P F true).length = m at *
      generalize (akT L N P F1 true).length = m1 at *
      generalize ctR sureS L N P F = A0 at *
      generalize ctR sureS L N P F1 = A1 at *
      generalize ctR maybeS L N P F = B0 at *
      generalize ctR maybeS L N P F1 = B1 at *
      have HD := hid hD
      have HL4 := hid (And.intro (And.intro l1 l2) (And.intro l3 l4))
      clear hD l1 l2 l3 l4
      obtain ⟨q0, hq0⟩ : ∃ q, q = A0.length := ⟨_, rfl⟩
      obtain ⟨q1, hq1⟩ : ∃ q, q = A1.length := ⟨_, rfl⟩
      obtain ⟨t0, ht0⟩ : ∃ q, q = B0.length := ⟨_, rfl⟩
      obtain ⟨t1, ht1⟩ : ∃ q, q = B1.length := ⟨_, rfl⟩
      rw [← hq0] at hs1
      rw [← hq1] at hs2
      rw [← ht0] at hy1
      rw [← ht1] at hy2
      have hk0 := hkn 0
      replace hkn := hkn 3
      rw [show knB 3 = true from rfl] at hkn
      rw [show knB 0 = true from rfl] at hk0
      have HQ := hid (And.intro (And.intro hq0 hq1) (And.intro ht0 ht1))
      clear hq0 hq1 ht0 ht1
      rcases HD.out with ⟨rfl, rfl | rfl⟩ | ⟨rfl, rfl, hmm, hu1, hu2⟩
      · skip
        clear HD har
        have c0 := x0.cell 0 rfl; have c1 := x0.cell 1 rfl; have c2 := x0.cell 2 rfl; have c3 := x0.cell 3 rfl
        go_enter Try.func10, Try.ntmps10
        go_wp2_with fail
        refine (hcp _ hP).mono ?_
        rintro e V ⟨hb1, a, c, rfl, hown⟩
        clear c0 c1 c2 c3 hcp hW
        have hlt := fun g hg => (hown.lt g hg).2
        have hPo : Pz V a P := ⟨by have := HL.out; omega, fun k => cp_row hown HN.out hPX.out k⟩
        have x3 := Bx.new V #[.int .i64 L, .int .i64 N, .slice a n c, .int .i64 F] 24
        have hbb := below_one (w := V) (.cells #[.int .i64 L, .int .i64 N, .slice a n c, .int .i64 F1] 24)
        have y3 := Bx.new V #[.int .i64 L, .int .i64 N, .slice a n c, .int .i64 F1] 24
        have hbV := hb.trans (hb1.mono hb.size)
        have HXa := hid (And.intro ((x0.below hb1).below hbb) (And.intro ((hP.below hb1 (Nat.le_refl _)).below hbb (Nat.le_refl _)) (And.intro (hPo.below hbb (Nat.le_refl _)) (And.intro (hbV.trans (hbb.mono hbV.size)) y3))))
        have d3 := x3.cell 3 rfl
        have f3 := x3.free 3
        clear x3 y3 hbb hbV hb1 hb x0 hP hPo hown
        go_upto_region 3 with fail
        obtain ⟨x0, hP, hPo, hb, x3⟩ := HXa.out
        clear HXa d3 f3
        generalize World.alloc _ _ = Y at *
        obtain ⟨s3, hs3⟩ : ∃ s3, s3 = V.heap.size := ⟨_, rfl⟩
        rw [← hs3] at x3 ⊢
        clear hs3 hlt
        have c0 := x0.cell 0 rfl; have c1 := x0.cell 1 rfl; have c2 := x0.cell 2 rfl; have c3 := x0.cell 3 rfl
        have d0 := x3.cell 0 rfl; have d1 := x3.cell 1 rfl; have d2 := x3.cell 2 rfl; have d3 := x3.cell 3 rfl
        go_wp2_with fail
        refine (hr1 _ hP).mono ?_
        rintro e Vc6 ⟨rfl, hb1⟩
        clear c0 c1 c2 c3
        clear d0 d1 d2 d3
        replace x0 := x0.below hb1
        replace x3 := x3.below hb1
        replace hP := hP.below hb1 (Nat.le_refl _)
        replace hPo := hPo.below hb1 (Nat.le_refl _)
        replace hb := hb.trans (hb1.mono hb.size)
        clear hb1 hr1
        have c0 := x0.cell 0 rfl; have c1 := x0.cell 1 rfl; have c2 := x0.cell 2 rfl; have c3 := x0.cell 3 rfl
        have d0 := x3.cell 0 rfl; have d1 := x3.cell 1 rfl; have d2 := x3.cell 2 rfl; have d3 := x3.cell 3 rfl
        go_wp2_with fail
        refine (hr2 _ _ _ hPo).mono ?_
        rintro e Vc7 ⟨rfl, hb1⟩
        clear c0 c1 c2 c3
        clear d0 d1 d2 d3
        replace x0 := x0.below hb1
        replace x3 := x3.below hb1
        replace hP := hP.below hb1 (Nat.le_refl _)
        replace hPo := hPo.below hb1 (Nat.le_refl _)
        replace hb := hb.trans (hb1.mono hb.size)
        clear hb1 hr2
        have c0 := x0.cell 0 rfl; have c1 := x0.cell 1 rfl; have c2 := x0.cell 2 rfl; have c3 := x0.cell 3 rfl
        have d0 := x3.cell 0 rfl; have d1 := x3.cell 1 rfl; have d2 := x3.cell 2 rfl; have d3 := x3.cell 3 rfl
        go_wp2_with fail
        refine (hm1 _ hP).mono ?_
        rintro e Vc8 ⟨rfl, hb1⟩
        clear c0 c1 c2 c3
        clear d0 d1 d2 d3
        replace x0 := x0.below hb1
        replace x3 := x3.below hb1
        replace hP := hP.below hb1 (Nat.le_refl _)
        replace hPo := hPo.below hb1 (Nat.le_refl _)
        replace hb := hb.trans (hb1.mono hb.size)
        clear hb1 hm1
        have c0 := x0.cell 0 rfl; have c1 := x0.cell 1 rfl; have c2 := x0.cell 2 rfl; have c3 := x0.cell 3 rfl
        have d0 := x3.cell 0 rfl; have d1 := x3.cell 1 rfl; have d2 := x3.cell 2 rfl; have d3 := x3.cell 3 rfl
        go_wp2_with fail
        refine (hm2 _ _ _ hPo).mono ?_
        rintro e Vc9 ⟨rfl, hb1⟩
        clear c0 c1 c2 c3
        clear d0 d1 d2 d3
        replace x0 := x0.below hb1
        replace x3 := x3.below hb1
        replace hP := hP.below hb1 (Nat.le_refl _)
        replace hPo := hPo.below hb1 (Nat.le_refl _)
        replace hb := hb.trans (hb1.mono hb.size)
        clear hb1 hm2
        have c0 := x0.cell 0 rfl; have c1 := x0.cell 1 rfl; have c2 := x0.cell 2 rfl; have c3 := x0.cell 3 rfl
        have d0 := x3.cell 0 rfl; have d1 := x3.cell 1 rfl; have d2 := x3.cell 2 rfl; have d3 := x3.cell 3 rfl
        go_wp2_with fail
        refine (hs1 _ hP).mono ?_
        rintro e Vc10 ⟨hb1, ahA0, chA0, rfl, hA0⟩
        clear c0 c1 c2 c3
        clear d0 d1 d2 d3
        replace x0 := x0.below hb1
        replace x3 := x3.below hb1
        replace hP := hP.below hb1 (Nat.le_refl _)
        replace hPo := hPo.below hb1 (Nat.le_refl _)
        replace hb := hb.trans (hb1.mono hb.size)
        clear hb1 hs1
        have c0 := x0.cell 0 rfl; have c1 := x0.cell 1 rfl; have c2 := x0.cell 2 rfl; have c3 := x0.cell 3 rfl
        have d0 := x3.cell 0 rfl; have d1 := x3.cell 1 rfl; have d2 := x3.cell 2 rfl; have d3 := x3.cell 3 rfl
        go_wp2_with fail
        refine (hs2 _ _ _ hPo).mono ?_
        rintro e Vc11 ⟨hb1, ahA1, chA1, rfl, hA1⟩
        clear c0 c1 c2 c3
        clear d0 d1 d2 d3
        replace x0 := x0.below hb1
        replace x3 := x3.below hb1
        replace hP := hP.below hb1 (Nat.le_refl _)
        replace hPo := hPo.below hb1 (Nat.le_refl _)
        replace hA0 := hA0.below hb1 (Nat.le_refl _)
        replace hb := hb.trans (hb1.mono hb.size)
        clear hb1 hs2
        have c0 := x0.cell 0 rfl; have c1 := x0.cell 1 rfl; have c2 := x0.cell 2 rfl; have c3 := x0.cell 3 rfl
        have d0 := x3.cell 0 rfl; have d1 := x3.cell 1 rfl; have d2 := x3.cell 2 rfl; have d3 := x3.cell 3 rfl
        go_wp2_with fail
        refine (hy1 _ hP).mono ?_
        rintro e Vc12 ⟨hb1, ahB0, chB0, rfl, hB0⟩
        clear c0 c1 c2 c3
        clear d0 d1 d2 d3
        replace x0 := x0.below hb1
        replace x3 := x3.below hb1
        replace hP := hP.below hb1 (Nat.le_refl _)
        replace hPo := hPo.below hb1 (Nat.le_refl _)
        replace hA0 := hA0.below hb1 (Nat.le_refl _)
        replace hA1 := hA1.below hb1 (Nat.le_refl _)
        replace hb := hb.trans (hb1.mono hb.size)
        clear hb1 hy1
        have c0 := x0.cell 0 rfl; have c1 := x0.cell 1 rfl; have c2 := x0.cell 2 rfl; have c3 := x0.cell 3 rfl
        have d0 := x3.cell 0 rfl; have d1 := x3.cell 1 rfl; have d2 := x3.cell 2 rfl; have d3 := x3.cell 3 rfl
        go_wp2_with fail
        refine (hy2 _ _ _ hPo).mono ?_
        rintro e Vc13 ⟨hb1, ahB1, chB1, rfl, hB1⟩
        clear c0 c1 c2 c3
        clear d0 d1 d2 d3
        replace x0 := x0.below hb1
        replace x3 := x3.below hb1
        replace hP := hP.below hb1 (Nat.le_refl _)
        replace hPo := hPo.below hb1 (Nat.le_refl _)
        replace hA0 := hA0.below hb1 (Nat.le_refl _)
        replace hA1 := hA1.below hb1 (Nat.le_refl _)
        replace hB0 := hB0.below hb1 (Nat.le_refl _)
        replace hb := hb.trans (hb1.mono hb.size)
        clear hb1 hy2
        have c0 := x0.cell 0 rfl; have c1 := x0.cell 1 rfl; have c2 := x0.cell 2 rfl; have c3 := x0.cell 3 rfl
        have d0 := x3.cell 0 rfl; have d1 := x3.cell 1 rfl; have d2 := x3.cell 2 rfl; have d3 := x3.cell 3 rfl
        go_wp2_with fail
        refine (hkn _).mono ?_
        rintro e Vc14 ⟨rfl, rfl⟩
        go_wp2_with fail
        refine (hk0 _).mono ?_
        rintro e Vc15 ⟨rfl, rfl⟩
        go_wp2_with fail
        refine (hwk _).mono ?_
        rintro e Vw ⟨rfl, hbw9⟩
        clear c0 c1 c2 c3
        clear d0 d1 d2 d3
        replace hb := hb.trans (hbw9.mono hb.size)
        go_wp2
        go_ret
        exact ⟨rfl, hb⟩
      · skip
        clear HD har
        have c0 := x0.cell 0 rfl; have c1 := x0.cell 1 rfl; have c2 := x0.cell 2 rfl; have c3 := x0.cell 3 rfl
        go_enter Try.func10, Try.ntmps10
        go_wp2_with fail
        refine (hcp _ hP).mono ?_
        rintro e V ⟨hb1, a, c, rfl, hown⟩
        clear c0 c1 c2 c3 hcp hW
        have hlt := fun g hg => (hown.lt g hg).2
        have hPo : Pz V a P := ⟨by have := HL.out; omega, fun k => cp_row hown HN.out hPX.out k⟩
        have x3 := Bx.new V #[.int .i64 L, .int .i64 N, .slice a n c, .int .i64 F] 24
        have hbb := below_one (w := V) (.cells #[.int .i64 L, .int .i64 N, .slice a n c, .int .i64 F1] 24)
        have y3 := Bx.new V #[.int .i64 L, .int .i64 N, .slice a n c, .int .i64 F1] 24
        have hbV := hb.trans (hb1.mono hb.size)
        have HXa := hid (And.intro ((x0.below hb1).below hbb) (And.intro ((hP.below hb1 (Nat.le_refl _)).below hbb (Nat.le_refl _)) (And.intro (hPo.below hbb (Nat.le_refl _)) (And.intro (hbV.trans (hbb.mono hbV.size)) y3))))
        have d3 := x3.cell 3 rfl
        have f3 := x3.free 3
        clear x3 y3 hbb hbV hb1 hb x0 hP hPo hown
        go_upto_region 3 with fail
        obtain ⟨x0, hP, hPo, hb, x3⟩ := HXa.out
        clear HXa d3 f3
        generalize World.alloc _ _ = Y at *
        obtain ⟨s3, hs3⟩ : ∃ s3, s3 = V.heap.size := ⟨_, rfl⟩
        rw [← hs3] at x3 ⊢
        clear hs3 hlt
        have c0 := x0.cell 0 rfl; have c1 := x0.cell 1 rfl; have c2 := x0.cell 2 rfl; have c3 := x0.cell 3 rfl
        have d0 := x3.cell 0 rfl; have d1 := x3.cell 1 rfl; have d2 := x3.cell 2 rfl; have d3 := x3.cell 3 rfl
        go_wp2_with fail
        refine (hr1 _ hP).mono ?_
        rintro e Vc17 ⟨rfl, hb1⟩
        clear c0 c1 c2 c3
        clear d0 d1 d2 d3
        replace x0 := x0.below hb1
        replace x3 := x3.below hb1
        replace hP := hP.below hb1 (Nat.le_refl _)
        replace hPo := hPo.below hb1 (Nat.le_refl _)
        replace hb := hb.trans (hb1.mono hb.size)
        clear hb1 hr1
        have c0 := x0.cell 0 rfl; have c1 := x0.cell 1 rfl; have c2 := x0.cell 2 rfl; have c3 := x0.cell 3 rfl
        have d0 := x3.cell 0 rfl; have d1 := x3.cell 1 rfl; have d2 := x3.cell 2 rfl; have d3 := x3.cell 3 rfl
        go_wp2_with fail
        refine (hr2 _ _ _ hPo).mono ?_
        rintro e Vc18 ⟨rfl, hb1⟩
        clear c0 c1 c2 c3
        clear d0 d1 d2 d3
        replace x0 := x0.below hb1
        replace x3 := x3.below hb1
        replace hP := hP.below hb1 (Nat.le_refl _)
        replace hPo := hPo.below hb1 (Nat.le_refl _)
        replace hb := hb.trans (hb1.mono hb.size)
        clear hb1 hr2
        have c0 := x0.cell 0 rfl; have c1 := x0.cell 1 rfl; have c2 := x0.cell 2 rfl; have c3 := x0.cell 3 rfl
        have d0 := x3.cell 0 rfl; have d1 := x3.cell 1 rfl; have d2 := x3.cell 2 rfl; have d3 := x3.cell 3 rfl
        go_wp2_with fail
        refine (hm1 _ hP).mono ?_
        rintro e Vc19 ⟨rfl, hb1⟩
        clear c0 c1 c2 c3
        clear d0 d1 d2 d3
        replace x0 := x0.below hb1
        replace x3 := x3.below hb1
        replace hP := hP.below hb1 (Nat.le_refl _)
        replace hPo := hPo.below hb1 (Nat.le_refl _)
        replace hb := hb.trans (hb1.mono hb.size)
        clear hb1 hm1
        have c0 := x0.cell 0 rfl; have c1 := x0.cell 1 rfl; have c2 := x0.cell 2 rfl; have c3 := x0.cell 3 rfl
        have d0 := x3.cell 0 rfl; have d1 := x3.cell 1 rfl; have d2 := x3.cell 2 rfl; have d3 := x3.cell 3 rfl
        go_wp2_with fail
        refine (hm2 _ _ _ hPo).mono ?_
        rintro e Vc20 ⟨rfl, hb1⟩
        clear c0 c1 c2 c3
        clear d0 d1 d2 d3
        replace x0 := x0.below hb1
        replace x3 := x3.below hb1
        replace hP := hP.below hb1 (Nat.le_refl _)
        replace hPo := hPo.below hb1 (Nat.le_refl _)
        replace hb := hb.trans (hb1.mono hb.size)
        clear hb1 hm2
        have c0 := x0.cell 0 rfl; have c1 := x0.cell 1 rfl; have c2 := x0.cell 2 rfl; have c3 := x0.cell 3 rfl
        have d0 := x3.cell 0 rfl; have d1 := x3.cell 1 rfl; have d2 := x3.cell 2 rfl; have d3 := x3.cell 3 rfl
        go_wp2_with fail
        refine (hs1 _ hP).mono ?_
        rintro e Vc21 ⟨hb1, ahA0, chA0, rfl, hA0⟩
        clear c0 c1 c2 c3
        clear d0 d1 d2 d3
        replace x0 := x0.below hb1
        replace x3 := x3.below hb1
        replace hP := hP.below hb1 (Nat.le_refl _)
        replace hPo := hPo.below hb1 (Nat.le_refl _)
        replace hb := hb.trans (hb1.mono hb.size)
        clear hb1 hs1
        have c0 := x0.cell 0 rfl; have c1 := x0.cell 1 rfl; have c2 := x0.cell 2 rfl; have c3 := x0.cell 3 rfl
        have d0 := x3.cell 0 rfl; have d1 := x3.cell 1 rfl; have d2 := x3.cell 2 rfl; have d3 := x3.cell 3 rfl
        go_wp2_with fail
        refine (hs2 _ _ _ hPo).mono ?_
        rintro e Vc22 ⟨hb1, ahA1, chA1, rfl, hA1⟩
        clear c0 c1 c2 c3
        clear d0 d1 d2 d3
        replace x0 := x0.below hb1
        replace x3 := x3.below hb1
        replace hP := hP.below hb1 (Nat.le_refl _)
        replace hPo := hPo.below hb1 (Nat.le_refl _)
        replace hA0 := hA0.below hb1 (Nat.le_refl _)
        replace hb := hb.trans (hb1.mono hb.size)
        clear hb1 hs2
        have c0 := x0.cell 0 rfl; have c1 := x0.cell 1 rfl; have c2 := x0.cell 2 rfl; have c3 := x0.cell 3 rfl
        have d0 := x3.cell 0 rfl; have d1 := x3.cell 1 rfl; have d2 := x3.cell 2 rfl; have d3 := x3.cell 3 rfl
        go_wp2_with fail
        refine (hy1 _ hP).mono ?_
        rintro e Vc23 ⟨hb1, ahB0, chB0, rfl, hB0⟩
        clear c0 c1 c2 c3
        clear d0 d1 d2 d3
        replace x0 := x0.below hb1
        replace x3 := x3.below hb1
        replace hP := hP.below hb1 (Nat.le_refl _)
        replace hPo := hPo.below hb1 (Nat.le_refl _)
        replace hA0 := hA0.below hb1 (Nat.le_refl _)
        replace hA1 := hA1.below hb1 (Nat.le_refl _)
        replace hb := hb.trans (hb1.mono hb.size)
        clear hb1 hy1
        have c0 := x0.cell 0 rfl; have c1 := x0.cell 1 rfl; have c2 := x0.cell 2 rfl; have c3 := x0.cell 3 rfl
        have d0 := x3.cell 0 rfl; have d1 := x3.cell 1 rfl; have d2 := x3.cell 2 rfl; have d3 := x3.cell 3 rfl
        go_wp2_with fail
        refine (hy2 _ _ _ hPo).mono ?_
        rintro e Vc24 ⟨hb1, ahB1, chB1, rfl, hB1⟩
        clear c0 c1 c2 c3
        clear d0 d1 d2 d3
        replace x0 := x0.below hb1
        replace x3 := x3.below hb1
        replace hP := hP.below hb1 (Nat.le_refl _)
        replace hPo := hPo.below hb1 (Nat.le_refl _)
        replace hA0 := hA0.below hb1 (Nat.le_refl _)
        replace hA1 := hA1.below hb1 (Nat.le_refl _)
        replace hB0 := hB0.below hb1 (Nat.le_refl _)
        replace hb := hb.trans (hb1.mono hb.size)
        clear hb1 hy2
        have c0 := x0.cell 0 rfl; have c1 := x0.cell 1 rfl; have c2 := x0.cell 2 rfl; have c3 := x0.cell 3 rfl
        have d0 := x3.cell 0 rfl; have d1 := x3.cell 1 rfl; have d2 := x3.cell 2 rfl; have d3 := x3.cell 3 rfl
        go_wp2_with fail
        refine (hkn _).mono ?_
        rintro e Vc25 ⟨rfl, rfl⟩
        go_wp2_with fail
        refine (hkn _).mono ?_
        rintro e Vc26 ⟨rfl, rfl⟩
        go_wp2_with fail
        refine (hwk _).mono ?_
        rintro e Vw ⟨rfl, hbw9⟩
        clear c0 c1 c2 c3
        clear d0 d1 d2 d3
        replace hb := hb.trans (hbw9.mono hb.size)
        go_wp2
        go_ret
        exact ⟨rfl, hb⟩
      · skip
        clear HD
        have hmI : (m : Int) ≤ (m1 : Int) := by omega
        have hr1' := fun a b ca cb V hA hB => har a b ca cb A1 A0 V hA hB HL4.out.1.2 HL4.out.1.1
        have hr2' := fun a b ca cb V hA hB => har a b ca cb B0 B1 V hA hB HL4.out.2.1 HL4.out.2.2
        rw [hu1, ← HQ.out.1.1, ← HQ.out.1.2] at hr1'
        rw [hu2, ← HQ.out.2.1, ← HQ.out.2.2] at hr2'
        clear har hu1 hu2 hmm
        have c0 := x0.cell 0 rfl; have c1 := x0.cell 1 rfl; have c2 := x0.cell 2 rfl; have c3 := x0.cell 3 rfl
        go_enter Try.func10, Try.ntmps10
        go_wp2_with fail
        refine (hcp _ hP).mono ?_
        rintro e V ⟨hb1, a, c, rfl, hown⟩
        clear c0 c1 c2 c3 hcp hW
        have hlt := fun g hg => (hown.lt g hg).2
        have hPo : Pz V a P := ⟨by have := HL.out; omega, fun k => cp_row hown HN.out hPX.out k⟩
        have x3 := Bx.new V #[.int .i64 L, .int .i64 N, .slice a n c, .int .i64 F] 24
        have hbb := below_one (w := V) (.cells #[.int .i64 L, .int .i64 N, .slice a n c, .int .i64 F1] 24)
        have y3 := Bx.new V #[.int .i64 L, .int .i64 N, .slice a n c, .int .i64 F1] 24
        have hbV := hb.trans (hb1.mono hb.size)
        have HXa := hid (And.intro ((x0.below hb1).below hbb) (And.intro ((hP.below hb1 (Nat.le_refl _)).below hbb (Nat.le_refl _)) (And.intro (hPo.below hbb (Nat.le_refl _)) (And.intro (hbV.trans (hbb.mono hbV.size)) y3))))
        have d3 := x3.cell 3 rfl
        have f3 := x3.free 3
        clear x3 y3 hbb hbV hb1 hb x0 hP hPo hown
        go_upto_region 3 with fail
        obtain ⟨x0, hP, hPo, hb, x3⟩ := HXa.out
        clear HXa d3 f3
        generalize World.alloc _ _ = Y at *
        obtain ⟨s3, hs3⟩ : ∃ s3, s3 = V.heap.size := ⟨_, rfl⟩
        rw [← hs3] at x3 ⊢
        clear hs3 hlt
        have c0 := x0.cell 0 rfl; have c1 := x0.cell 1 rfl; have c2 := x0.cell 2 rfl; have c3 := x0.cell 3 rfl
        have d0 := x3.cell 0 rfl; have d1 := x3.cell 1 rfl; have d2 := x3.cell 2 rfl; have d3 := x3.cell 3 rfl
        go_wp2_with fail
        refine (hr1 _ hP).mono ?_
        rintro e Vc28 ⟨rfl, hb1⟩
        clear c0 c1 c2 c3
        clear d0 d1 d2 d3
        replace x0 := x0.below hb1
        replace x3 := x3.below hb1
        replace hP := hP.below hb1 (Nat.le_refl _)
        replace hPo := hPo.below hb1 (Nat.le_refl _)
        replace hb := hb.trans (hb1.mono hb.size)
        clear hb1 hr1
        have c0 := x0.cell 0 rfl; have c1 := x0.cell 1 rfl; have c2 := x0.cell 2 rfl; have c3 := x0.cell 3 rfl
        have d0 := x3.cell 0 rfl; have d1 := x3.cell 1 rfl; have d2 := x3.cell 2 rfl; have d3 := x3.cell 3 rfl
        go_wp2_with fail
        refine (hr2 _ _ _ hPo).mono ?_
        rintro e Vc29 ⟨rfl, hb1⟩
        clear c0 c1 c2 c3
        clear d0 d1 d2 d3
        replace x0 := x0.below hb1
        replace x3 := x3.below hb1
        replace hP := hP.below hb1 (Nat.le_refl _)
        replace hPo := hPo.below hb1 (Nat.le_refl _)
        replace hb := hb.trans (hb1.mono hb.size)
        clear hb1 hr2
        have c0 := x0.cell 0 rfl; have c1 := x0.cell 1 rfl; have c2 := x0.cell 2 rfl; have c3 := x0.cell 3 rfl
        have d0 := x3.cell 0 rfl; have d1 := x3.cell 1 rfl; have d2 := x3.cell 2 rfl; have d3 := x3.cell 3 rfl
        go_wp2_with fail
        refine (hm1 _ hP).mono ?_
        rintro e Vc30 ⟨rfl, hb1⟩
        clear c0 c1 c2 c3
        clear d0 d1 d2 d3
        replace x0 := x0.below hb1
        replace x3 := x3.below hb1
        replace hP := hP.below hb1 (Nat.le_refl _)
        replace hPo := hPo.below hb1 (Nat.le_refl _)
        replace hb := hb.trans (hb1.mono hb.size)
        clear hb1 hm1
        have c0 := x0.cell 0 rfl; have c1 := x0.cell 1 rfl; have c2 := x0.cell 2 rfl; have c3 := x0.cell 3 rfl
        have d0 := x3.cell 0 rfl; have d1 := x3.cell 1 rfl; have d2 := x3.cell 2 rfl; have d3 := x3.cell 3 rfl
        go_wp2_with fail
        refine (hm2 _ _ _ hPo).mono ?_
        rintro e Vc31 ⟨rfl, hb1⟩
        clear c0 c1 c2 c3
        clear d0 d1 d2 d3
        replace x0 := x0.below hb1
        replace x3 := x3.below hb1
        replace hP := hP.below hb1 (Nat.le_refl _)
        replace hPo := hPo.below hb1 (Nat.le_refl _)
        replace hb := hb.trans (hb1.mono hb.size)
        clear hb1 hm2
        have c0 := x0.cell 0 rfl; have c1 := x0.cell 1 rfl; have c2 := x0.cell 2 rfl; have c3 := x0.cell 3 rfl
        have d0 := x3.cell 0 rfl; have d1 := x3.cell 1 rfl; have d2 := x3.cell 2 rfl; have d3 := x3.cell 3 rfl
        go_wp2_with fail
        refine (hs1 _ hP).mono ?_
        rintro e Vc32 ⟨hb1, ahA0, chA0, rfl, hA0⟩
        clear c0 c1 c2 c3
        clear d0 d1 d2 d3
        replace x0 := x0.below hb1
        replace x3 := x3.below hb1
        replace hP := hP.below hb1 (Nat.le_refl _)
        replace hPo := hPo.below hb1 (Nat.le_refl _)
        replace hb := hb.trans (hb1.mono hb.size)
        clear hb1 hs1
        have c0 := x0.cell 0 rfl; have c1 := x0.cell 1 rfl; have c2 := x0.cell 2 rfl; have c3 := x0.cell 3 rfl
        have d0 := x3.cell 0 rfl; have d1 := x3.cell 1 rfl; have d2 := x3.cell 2 rfl; have d3 := x3.cell 3 rfl
        go_wp2_with fail
        refine (hs2 _ _ _ hPo).mono ?_
        rintro e Vc33 ⟨hb1, ahA1, chA1, rfl, hA1⟩
        clear c0 c1 c2 c3
        clear d0 d1 d2 d3
        replace x0 := x0.below hb1
        replace x3 := x3.below hb1
        replace hP := hP.below hb1 (Nat.le_refl _)
        replace hPo := hPo.below hb1 (Nat.le_refl _)
        replace hA0 := hA0.below hb1 (Nat.le_refl _)
        replace hb := hb.trans (hb1.mono hb.size)
        clear hb1 hs2
        have c0 := x0.cell 0 rfl; have c1 := x0.cell 1 rfl; have c2 := x0.cell 2 rfl; have c3 := x0.cell 3 rfl
        have d0 := x3.cell 0 rfl; have d1 := x3.cell 1 rfl; have d2 := x3.cell 2 rfl; have d3 := x3.cell 3 rfl
        go_wp2_with fail
        refine (hy1 _ hP).mono ?_
        rintro e Vc34 ⟨hb1, ahB0, chB0, rfl, hB0⟩
        clear c0 c1 c2 c3
        clear d0 d1 d2 d3
        replace x0 := x0.below hb1
        replace x3 := x3.below hb1
        replace hP := hP.below hb1 (Nat.le_refl _)
        replace hPo := hPo.below hb1 (Nat.le_refl _)
        replace hA0 := hA0.below hb1 (Nat.le_refl _)
        replace hA1 := hA1.below hb1 (Nat.le_refl _)
        replace hb := hb.trans (hb1.mono hb.size)
        clear hb1 hy1
        have c0 := x0.cell 0 rfl; have c1 := x0.cell 1 rfl; have c2 := x0.cell 2 rfl; have c3 := x0.cell 3 rfl
        have d0 := x3.cell 0 rfl; have d1 := x3.cell 1 rfl; have d2 := x3.cell 2 rfl; have d3 := x3.cell 3 rfl
        go_wp2_with fail
        refine (hy2 _ _ _ hPo).mono ?_
        rintro e Vc35 ⟨hb1, ahB1, chB1, rfl, hB1⟩
        clear c0 c1 c2 c3
        clear d0 d1 d2 d3
        replace x0 := x0.below hb1
        replace x3 := x3.below hb1
        replace hP := hP.below hb1 (Nat.le_refl _)
        replace hPo := hPo.below hb1 (Nat.le_refl _)
        replace hA0 := hA0.below hb1 (Nat.le_refl _)
        replace hA1 := hA1.below hb1 (Nat.le_refl _)
        replace hB0 := hB0.below hb1 (Nat.le_refl _)
        replace hb := hb.trans (hb1.mono hb.size)
        clear hb1 hy2
        have c0 := x0.cell 0 rfl; have c1 := x0.cell 1 rfl; have c2 := x0.cell 2 rfl; have c3 := x0.cell 3 rfl
        have d0 := x3.cell 0 rfl; have d1 := x3.cell 1 rfl; have d2 := x3.cell 2 rfl; have d3 := x3.cell 3 rfl
        go_wp2_with fail
        refine (hk0 _).mono ?_
        rintro e Vc36 ⟨rfl, rfl⟩
        go_wp2_with fail
        refine (hk0 _).mono ?_
        rintro e Vc37 ⟨rfl, rfl⟩
        go_wp2_with fail
        refine (hr1' _ _ _ _ _ hA1 hA0).mono ?_
        rintro e Vc38 ⟨rfl, hb1⟩
        clear c0 c1 c2 c3
        clear d0 d1 d2 d3
        replace x0 := x0.below hb1
        replace x3 := x3.below hb1
        replace hP := hP.below hb1 (Nat.le_refl _)
        replace hPo := hPo.below hb1 (Nat.le_refl _)
        replace hA0 := hA0.below hb1 (Nat.le_refl _)
        replace hA1 := hA1.below hb1 (Nat.le_refl _)
        replace hB0 := hB0.below hb1 (Nat.le_refl _)
        replace hB1 := hB1.below hb1 (Nat.le_refl _)
        replace hb := hb.trans (hb1.mono hb.size)
        clear hb1 hr1'
        have c0 := x0.cell 0 rfl; have c1 := x0.cell 1 rfl; have c2 := x0.cell 2 rfl; have c3 := x0.cell 3 rfl
        have d0 := x3.cell 0 rfl; have d1 := x3.cell 1 rfl; have d2 := x3.cell 2 rfl; have d3 := x3.cell 3 rfl
        go_wp2_with fail
        refine (hr2' _ _ _ _ _ hB0 hB1).mono ?_
        rintro e Vc39 ⟨rfl, hb1⟩
        clear c0 c1 c2 c3
        clear d0 d1 d2 d3
        replace x0 := x0.below hb1
        replace x3 := x3.below hb1
        replace hP := hP.below hb1 (Nat.le_refl _)
        replace hPo := hPo.below hb1 (Nat.le_refl _)
        replace hA0 := hA0.below hb1 (Nat.le_refl _)
        replace hA1 := hA1.below hb1 (Nat.le_refl _)
        replace hB0 := hB0.below hb1 (Nat.le_refl _)
        replace hB1 := hB1.below hb1 (Nat.le_refl _)
        replace hb := hb.trans (hb1.mono hb.size)
        clear hb1 hr2'
        have c0 := x0.cell 0 rfl; have c1 := x0.cell 1 rfl; have c2 := x0.cell 2 rfl; have c3 := x0.cell 3 rfl
        have d0 := x3.cell 0 rfl; have d1 := x3.cell 1 rfl; have d2 := x3.cell 2 rfl; have d3 := x3.cell 3 rfl
        go_wp2_with fail
        refine (hwk _).mono ?_
        rintro e Vw ⟨rfl, hbw9⟩
        clear c0 c1 c2 c3
        clear d0 d1 d2 d3
        replace hb := hb.trans (hbw9.mono hb.size)
        go_wp2
        go_ret
        exact ⟨rfl, hb⟩
end Go.Proofs.Ytmpihcencnkpbaa
