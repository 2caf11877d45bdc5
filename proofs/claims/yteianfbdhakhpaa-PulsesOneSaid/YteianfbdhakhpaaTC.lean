import Derived.Test.YteianfbdhakhpaaTB
/-! Many, Read, Fewest. -/
namespace Go.Proofs.Yteianfbdhakhpaa
set_option linter.unusedSimpArgs false
set_option linter.unusedVariables false
open Go Go.RowKit

attribute [local go_sem] Oper.semAt_some

/-- All readings of a train. -/
def RS (X : Pu) : List Rd := rdL X X.sp.toNat
def erX (X : Pu) (o : Bool) : Int := erO (chkE X o) (RS X)
def manN (X : Pu) : Nat := if erX X true = 0 then (RS X).length else 0
set_option maxRecDepth 100000 in
set_option maxHeartbeats 2000000 in
theorem Many_any (aT : Option Addr) (cT : Nat) (X : Pu) (w : World) (hX : Ints w aT X.ts) : Calls Try.prog 24 #[.agg #[.int .i64 X.l, .int .i64 X.n, .int .i64 X.pi, .int .i64 X.sl, .int .i64 X.ga, .int .i64 X.pa, .int .i64 X.sp, .slice aT X.ts.length cT]] w fun e w' => e = .returned (.tuple #[.int .i64 (manN X), .int .i64 (erX X true)]) ∧ Below w.heap.size w w' := by
  obtain ⟨W, hW, hb, _, x0⟩ := boxes1 w #[.int .i64 X.l, .int .i64 X.n, .int .i64 X.pi, .int .i64 X.sl, .int .i64 X.ga, .int .i64 X.pa, .int .i64 X.sp, .slice aT X.ts.length cT] 24
  have hk1 := ask_bad aT cT X true W (hX.below hb (Nat.le_refl _))
  have hk2 := ask_ok aT cT X true W (hX.below hb (Nat.le_refl _))
  have e1 : erO (chkE X true) (rdL X X.sp.toNat) = erX X true := rfl
  have e2 : rdL X X.sp.toNat = RS X := rfl
  rw [e1] at hk1 hk2
  rw [e2] at hk2
  have HM := hid (show manN X = if erX X true = 0 then (RS X).length else 0 from rfl)
  generalize manN X = M at *
  generalize erX X true = er at *
  generalize (RS X).length = N at *
  generalize X.ts.length = n at *
  clear hX e1 e2
  have c0 := x0.cell 0 rfl; have c1 := x0.cell 1 rfl; have c2 := x0.cell 2 rfl; have c3 := x0.cell 3 rfl; have c4 := x0.cell 4 rfl; have c5 := x0.cell 5 rfl; have c6 := x0.cell 6 rfl; have c7 := x0.cell 7 rfl
  by_cases he : er = 0
  · have hc := hk2 he
    have HR := hid (show M = N by rw [HM.out, if_pos he])
    have HE := hid he
    clear hk1 hk2 HM he
    go_enter Try.func24, Try.ntmps24
    go_wp2_with fail
    refine hc.mono ?_
    rintro e V ⟨hb1, a, c, vs, rfl, -⟩
    replace hb := hb.trans (hb1.mono hb.size)
    clear hb1 hc hW c0 c1 c2 c3 c4 c5 c6 c7 x0
    go_wp2
    go_ret2
    exact ⟨by rw [HR.out, HE.out]; rfl, hb⟩
  · have hc := hk1 he
    have HR := hid (show M = 0 by rw [HM.out, if_neg he])
    clear hk1 hk2 HM he
    go_enter Try.func24, Try.ntmps24
    go_wp2_with fail
    refine hc.mono ?_
    rintro e V ⟨rfl, hb1⟩
    replace hb := hb.trans (hb1.mono hb.size)
    clear hb1 hc hW c0 c1 c2 c3 c4 c5 c6 c7 x0
    go_wp2
    go_ret2
    exact ⟨by rw [HR.out]; rfl, hb⟩

def sameB (rs : List Rd) : Bool := match rs with | [] => true | r0 :: _ => decide (cntR (slB r0) rs = rs.length)
/-- The error of read, and the list that it hands back. -/
def rdE (X : Pu) (o : Bool) : Int := if erX X o = 0 then (if sameB (RS X) = true then 0 else 2) else erX X o
def rdLi (X : Pu) (o : Bool) : List Int := if rdE X o = 0 then ((RS X).headD ([], [])).2 else []
def ReP (E : Int) (L : List Int) (w : World) (e : Ending) (w' : World) : Prop := Below w.heap.size w w' ∧ ∃ (a : Option Addr) (c : Nat), e = .returned (.tuple #[.slice a L.length c, .int .i64 E]) ∧ Iz w.heap.size w' a L
set_option maxRecDepth 100000 in
set_option maxHeartbeats 4000000 in
theorem read_any (aT : Option Addr) (cT : Nat) (X : Pu) (o : Bool) (w : World) (hX : Ints w aT X.ts) : Calls Try.prog 65 #[.agg #[.int .i64 X.l, .int .i64 X.n, .int .i64 X.pi, .int .i64 X.sl, .int .i64 X.ga, .int .i64 X.pa, .int .i64 X.sp, .slice aT X.ts.length cT], .bool o] w (ReP (rdE X o) (rdLi X o) w) := by
  obtain ⟨W, hW, hb, _, x0⟩ := boxes1 w #[.int .i64 X.l, .int .i64 X.n, .int .i64 X.pi, .int .i64 X.sl, .int .i64 X.ga, .int .i64 X.pa, .int .i64 X.sp, .slice aT X.ts.length cT] 24
  have hk1 := ask_bad aT cT X o W (hX.below hb (Nat.le_refl _))
  have hk2 := ask_ok aT cT X o W (hX.below hb (Nat.le_refl _))
  have hz := fun h => erO_zero (X := X) (o := o) h
  have hln := fun h => erO_len (X := X) h
  have e1 : erO (chkE X o) (rdL X X.sp.toNat) = erX X o := rfl
  have e2 : rdL X X.sp.toNat = RS X := rfl
  rw [e1] at hk1 hk2 hz
  rw [e2] at hk2 hz hln
  have HE := hid (show rdE X o = if erX X o = 0 then (if sameB (RS X) = true then 0 else 2) else erX X o from rfl)
  have HL := hid (show rdLi X o = if rdE X o = 0 then ((RS X).headD ([], [])).2 else [] from rfl)
  generalize rdE X o = E at *
  generalize rdLi X o = L at *
  generalize erX X o = er at *
  generalize X.ts.length = n at *
  by_cases he : er = 0
  rotate_left
  · skip
    have hc := hk1 he
    have HR := hid (show E = er by rw [HE.out, if_neg he])
    have HR2 := hid (show L = [] by rw [HL.out, HR.out, if_neg he])
    have hne : (er != 0) = true := by rw [bne_iff_ne]; exact he
    clear hk1 hk2 HE HL he hz hln e1 e2
    have c0 := x0.cell 0 rfl; have c1 := x0.cell 1 rfl; have c2 := x0.cell 2 rfl; have c3 := x0.cell 3 rfl; have c4 := x0.cell 4 rfl; have c5 := x0.cell 5 rfl; have c6 := x0.cell 6 rfl; have c7 := x0.cell 7 rfl
    go_enter Try.func65, Try.ntmps65
    go_wp2_with fail
    refine hc.mono ?_
    rintro e V ⟨rfl, hb1⟩
    replace hb := hb.trans (hb1.mono hb.size)
    clear hb1 hc hW c0 c1 c2 c3 c4 c5 c6 c7 x0
    have hba := hb.trans ((below_one (w := V) (.cells #[.slice none 0 0] 67)).mono hb.size)
    clear hb
    go_wp2
    go_ret2
    exact ⟨hba, none, 0, by rw [HR.out, HR2.out]; rfl, by rw [HR2.out]; exact Iz.none_ _ _⟩
  obtain ⟨hv, -, hne⟩ := hz he
  have hl := hln hv
  have hc := hk2 he
  obtain ⟨r0, rest, hrs⟩ : ∃ r0 rest, RS X = r0 :: rest := by
    rcases hh : RS X with _ | ⟨r0, rest⟩
    · exact absurd hh hne
    · exact ⟨r0, rest, rfl⟩
  have h0 : (RS X)[0]? = some r0 := by rw [hrs]; rfl
  have hsb : sameB (RS X) = decide (cntR (slB r0) (RS X) = (RS X).length) := by rw [hrs]; rfl
  have hhd : ((RS X).headD ([], [])).2 = r0.2 := by rw [hrs]; rfl
  have HE2 := hid (show E = if sameB (RS X) = true then 0 else 2 by rw [HE.out, if_pos he])
  rw [hsb] at HE2
  rw [hhd] at HL
  have hal := fun (B g : Nat) a c V (hR : Rds B V a (RS X)) x0 => all91_any B g a c (RS X) r0 h0 V hl hR x0
  generalize decide (cntR (slB r0) (RS X) = (RS X).length) = sm at *
  have hpos : 0 < (RS X).length := by rw [hrs]; simp
  have H0 := hid h0
  obtain ⟨N, hN⟩ : ∃ N, N = (RS X).length := ⟨_, rfl⟩
  rw [← hN] at hc hal hpos
  have HN := hid hN
  have hNI : (0 : Int) < (N : Int) := by omega
  have hz0 : ¬ N = 0 := by omega
  have hee : ((0 : Int) != 0) = false := by simp
  have hbw := hb.size
  clear hk1 hk2 HE he hz hln e1 e2 hv hne hrs h0 hsb hhd hN hX hl
  have c0 := x0.cell 0 rfl; have c1 := x0.cell 1 rfl; have c2 := x0.cell 2 rfl; have c3 := x0.cell 3 rfl; have c4 := x0.cell 4 rfl; have c5 := x0.cell 5 rfl; have c6 := x0.cell 6 rfl; have c7 := x0.cell 7 rfl
  cases sm with
  | false =>
    have HE3 := hid (show E = 2 by rw [HE2.out]; rfl)
    have HL3 := hid (show L = [] by rw [HL.out, HE3.out]; rfl)
    clear HE2 HL
    go_enter Try.func65, Try.ntmps65
    go_wp2_with fail
    refine hc.mono ?_
    rintro e V ⟨hb1, a, c, vs, rfl, hown, hrv⟩
    replace hb := hb.trans (hb1.mono hb.size)
    have hR := (Rds.of (by rw [← HN.out]; exact hown) hrv).below (below_one (w := V) (.cells #[.slice a N c] 67))
    have y0 := Bx.new V #[.slice a N c] 67
    have hba := hb.trans ((below_one (w := V) (.cells #[.slice a N c] 67)).mono hb.size)
    have hall := hal _ _ a c _ hR y0
    clear hb1 hc hW c0 c1 c2 c3 c4 c5 c6 c7 x0 hb hown hrv hal
    have HY := hid (And.intro hR (And.intro y0 hba))
    have yc := y0.cell 0 rfl
    clear hR y0 hba
    go_wp2_with fail
    refine hall.mono ?_
    rintro e V2 ⟨rfl, hb2⟩
    obtain ⟨hR, y0, hba⟩ := HY.out
    replace hR := hR.below hb2
    replace y0 := y0.below hb2
    replace hba := hba.trans (hb2.mono hba.size)
    clear hall hb2 HY yc
    clear hR y0
    go_wp2
    go_ret2
    exact ⟨hba, none, 0, by rw [HE3.out, HL3.out]; rfl, by rw [HL3.out]; exact Iz.none_ _ _⟩
  | true =>
    have HE3 := hid (show E = 0 by rw [HE2.out]; rfl)
    have HL3 := hid (show L = r0.2 by rw [HL.out, HE3.out]; rfl)
    clear HE2 HL
    go_enter Try.func65, Try.ntmps65
    go_wp2_with fail
    refine hc.mono ?_
    rintro e V ⟨hb1, a, c, vs, rfl, hown, hrv⟩
    replace hb := hb.trans (hb1.mono hb.size)
    have hR := (Rds.of (by rw [← HN.out]; exact hown) hrv).below (below_one (w := V) (.cells #[.slice a N c] 67))
    have y0 := Bx.new V #[.slice a N c] 67
    have hba := hb.trans ((below_one (w := V) (.cells #[.slice a N c] 67)).mono hb.size)
    have hall := hal _ _ a c _ hR y0
    clear hb1 hc hW c0 c1 c2 c3 c4 c5 c6 c7 x0 hb hown hrv hal
    have HY := hid (And.intro hR (And.intro y0 hba))
    have yc := y0.cell 0 rfl
    clear hR y0 hba
    go_wp2_with fail
    refine hall.mono ?_
    rintro e V2 ⟨rfl, hb2⟩
    obtain ⟨hR, y0, hba⟩ := HY.out
    replace hR := hR.below hb2
    replace y0 := y0.below hb2
    replace hba := hba.trans (hb2.mono hba.size)
    clear hall hb2 HY yc
    obtain ⟨b, off, a1, c1, a2, c2, rfl, hbl, q1, q2, i1, i2⟩ := hR 0 r0 H0.out
    have q2' : V2.cell? ⟨b, off + 1, none⟩ = some (.slice a2 r0.2.length c2) := by simpa using q2
    have yc := y0.cell 0 rfl
    have HI2 := hid i2
    obtain ⟨m2, hm2⟩ : ∃ m2, m2 = r0.2.length := ⟨_, rfl⟩
    rw [← hm2] at q2'
    have HM2 := hid hm2
    clear hR y0 q1 q2 i1 i2 hm2
    go_wp2
    go_ret2
    exact ⟨hba, a2, c2, by rw [HE3.out, HL3.out, HM2.out]; rfl, by rw [HL3.out]; exact HI2.out.mono (by omega)⟩
set_option maxRecDepth 100000 in
set_option maxHeartbeats 4000000 in
theorem Read_any (aT : Option Addr) (cT : Nat) (X : Pu) (w : World) (hX : Ints w aT X.ts) : Calls Try.prog 28 #[.agg #[.int .i64 X.l, .int .i64 X.n, .int .i64 X.pi, .int .i64 X.sl, .int .i64 X.ga, .int .i64 X.pa, .int .i64 X.sp, .slice aT X.ts.length cT]] w (ReP (rdE X true) (rdLi X true) w) := by
  obtain ⟨W, hW, hb, _, x0⟩ := boxes1 w #[.int .i64 X.l, .int .i64 X.n, .int .i64 X.pi, .int .i64 X.sl, .int .i64 X.ga, .int .i64 X.pa, .int .i64 X.sp, .slice aT X.ts.length cT] 24
  have hc := read_any aT cT X true W (hX.below hb (Nat.le_refl _))
  generalize rdE X true = E at *
  generalize rdLi X true = L at *
  generalize X.ts.length = n at *
  have hs := hb.size
  clear hX
  have c0 := x0.cell 0 rfl; have c1 := x0.cell 1 rfl; have c2 := x0.cell 2 rfl; have c3 := x0.cell 3 rfl; have c4 := x0.cell 4 rfl; have c5 := x0.cell 5 rfl; have c6 := x0.cell 6 rfl; have c7 := x0.cell 7 rfl
  go_enter Try.func28, Try.ntmps28
  go_wp2_with fail
  refine hc.mono ?_
  rintro e V ⟨hb1, a, c, rfl, hz⟩
  replace hb := hb.trans (hb1.mono hb.size)
  have HZ := hid hz
  obtain ⟨m, hm⟩ : ∃ m, m = L.length := ⟨_, rfl⟩
  rw [← hm]
  have HM := hid hm
  clear hb1 hc hW c0 c1 c2 c3 c4 c5 c6 c7 x0 hz hm
  go_wp2
  go_ret2
  exact ⟨hb, a, c, by rw [HM.out]; rfl, HZ.out.mono (by omega)⟩
end Go.Proofs.Yteianfbdhakhpaa
