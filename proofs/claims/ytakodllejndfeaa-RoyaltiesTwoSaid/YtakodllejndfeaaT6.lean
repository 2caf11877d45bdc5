import Derived.Test.YtakodllejndfeaaT5
import Derived.Test.YtakodllejndfeaaM2
/-! The claims of a royal that is asked about; rests and how they are compared. -/
namespace Go.Proofs.Ytakodllejndfeaa
set_option linter.unusedSimpArgs false
set_option linter.unusedVariables false
open Go Go.RowKit

set_option maxRecDepth 100000 in
set_option maxHeartbeats 1000000 in
theorem ask_bad (p : Int) (aS aO : Option Addr) (cS cO : Nat) (S : List Sd) (O : List Int) (o : Bool) (w : World) (hX : Ry w aS aO p S O) (hE : askE p S O o ≠ 0) : Calls Try.prog 45 #[.agg #[.int .i64 p, .slice aS S.length cS, .slice aO O.length cO], .bool o] w fun e w' => e = .returned (.tuple #[.agg #[.slice none 0 0, .int .i64 0], .int .i64 (askE p S O o)]) ∧ Below w.heap.size w w' := by
  obtain ⟨W, hW, hb, hs, x0, x1⟩ := boxes2 w #[.int .i64 p, .slice aS S.length cS, .slice aO O.length cO] 25 #[.slice none 0 0, .int .i64 0] 66
  have hX1 := hX.below hb (Nat.le_refl _)
  have hv := valid_any p aS aO cS cO S O W hX1
  have hp := fun V h1 h2 => claimsOf_any p aS aO cS cO S O V h1 h2
  have hvo := fun h => vB_ok (p := p) (S := S) (O := O) h
  have e1 := fun h => askE_v (p := p) (S := S) (O := O) (o := o) h
  have e2 := fun h => askE_o (p := p) (S := S) (O := O) h
  have e3 := fun h => askE_z (p := p) (S := S) (O := O) h
  have e4 := fun h => askE_n (p := p) (S := S) (O := O) h
  obtain ⟨E, hE0⟩ : ∃ E, E = askE p S O o := ⟨_, rfl⟩
  rw [← hE0] at e1 hE ⊢
  generalize vB p S O = r at *
  have c0 := x0.cell 0 rfl; have c1 := x0.cell 1 rfl; have c2 := x0.cell 2 rfl
  go_enter Try.func45, Try.ntmps45
  go_wp2_with fail
  refine hv.mono ?_
  rintro e W1 ⟨rfl, hb1⟩
  replace hb := hb.trans (hb1.mono hb.size)
  replace x0 := x0.below hb1
  replace x1 := x1.below hb1
  replace hX1 := hX1.below hb1 (Nat.le_refl _)
  clear c0 c1 c2 hW hv hX hb1 hs
  have HE := hid hE0
  clear hE0
  cases r
  · have HR := hid (e1 rfl)
    clear e1 e2 e3 e4 hp hvo hX1 x0
    have f0 := x1.free 0; have f1 := x1.free 1
    have d0 := x1.cell 0 rfl; have d1 := x1.cell 1 rfl
    have z1 := x1.set2 (.slice none 0 0) (.int .i64 0)
    have z2 := (hb.setCell (p := ⟨w.heap.size + 1, 0, none⟩) (by show w.heap.size ≤ w.heap.size + 1; omega) (.slice none 0 0)).setCell (p := ⟨w.heap.size + 1, 1, none⟩) (by show w.heap.size ≤ w.heap.size + 1; omega) (.int .i64 0)
    have HZ := hid (And.intro z1 z2)
    clear z1 z2 x1 hb
    go_wp2_with fail
    obtain ⟨z1, z2⟩ := HZ.out
    generalize World.setCell _ _ _ = VV at *
    have k0 := z1.cell 0 rfl; have k1 := z1.cell 1 rfl
    refine bodyPost_ret (v := .tuple #[.agg #[.slice none 0 0, .int .i64 0], .int .i64 100]) ?_ rfl ⟨by rw [HR.out], z2⟩
    simp [results, Try.results45, go_sem, k0, k1]
  · cases o
    · have HR := hid (HE.out.trans (e2 rfl))
      clear e1 e2 e3 e4 hp hvo hX1 x0
      have f0 := x1.free 0; have f1 := x1.free 1
      have d0 := x1.cell 0 rfl; have d1 := x1.cell 1 rfl
      have z1 := x1.set2 (.slice none 0 0) (.int .i64 0)
      have z2 := (hb.setCell (p := ⟨w.heap.size + 1, 0, none⟩) (by show w.heap.size ≤ w.heap.size + 1; omega) (.slice none 0 0)).setCell (p := ⟨w.heap.size + 1, 1, none⟩) (by show w.heap.size ≤ w.heap.size + 1; omega) (.int .i64 0)
      have HZ := hid (And.intro z1 z2)
      clear z1 z2 x1 hb
      go_wp2_with fail
      obtain ⟨z1, z2⟩ := HZ.out
      generalize World.setCell _ _ _ = VV at *
      have k0 := z1.cell 0 rfl; have k1 := z1.cell 1 rfl
      refine bodyPost_ret (v := .tuple #[.agg #[.slice none 0 0, .int .i64 0], .int .i64 1]) ?_ rfl ⟨by rw [HR.out], z2⟩
      simp [results, Try.results45, go_sem, k0, k1]
    · have hpl := hp W1 hX1 (hvo rfl)
      have ha0 : alS S = 0 := by
        by_cases h : alS S = 0
        · exact h
        · exact absurd (HE.out.trans (e4 rfl h)) hE
      have HR := hid (HE.out.trans (e3 rfl ha0))
      unfold ClP at hpl
      rw [ha0, Int.mul_zero] at hpl
      generalize clL S O.length = row at *
      clear e1 e2 e3 e4 hp hvo hX1 ha0
      have c0 := x0.cell 0 rfl; have c1 := x0.cell 1 rfl; have c2 := x0.cell 2 rfl
      go_wp2_with fail
      refine hpl.mono ?_
      rintro e W2 ⟨g, rfl, y, hb1, hg⟩
      have hba := below_one (w := W2) (.cells #[.slice (some ⟨g, 0, none⟩) O.length O.length, .int .i64 0] 66)
      have HXa := hid (And.intro ((x1.below hb1).below hba) (And.intro ((hb.trans (hb1.mono hb.size)).trans (hba.mono (hb.trans (hb1.mono hb.size)).size)) (Bx.new W2 #[.slice (some ⟨g, 0, none⟩) O.length O.length, .int .i64 0] 66)))
      clear hb hb1 hba x1 y c0 c1 c2 x0 hpl hg
      go_upto_region 6 with fail
      obtain ⟨x1, hb, x6⟩ := HXa.out
      clear HXa
      generalize W2.heap.size = sa at *
      generalize World.alloc _ _ = wa at *
      have f0 := x1.free 0; have f1 := x1.free 1
      have d0 := x1.cell 0 rfl; have d1 := x1.cell 1 rfl
      have c0 := x6.cell 0 rfl; have c1 := x6.cell 1 rfl
      have z1 := x1.set2 (.slice none 0 0) (.int .i64 0)
      have z2 := (hb.setCell (p := ⟨w.heap.size + 1, 0, none⟩) (by show w.heap.size ≤ w.heap.size + 1; omega) (.slice none 0 0)).setCell (p := ⟨w.heap.size + 1, 1, none⟩) (by show w.heap.size ≤ w.heap.size + 1; omega) (.int .i64 0)
      have HZ := hid (And.intro z1 z2)
      clear z1 z2 x1 hb x6
      go_wp2_with fail
      obtain ⟨z1, z2⟩ := HZ.out
      generalize World.setCell _ _ _ = VV at *
      have k0 := z1.cell 0 rfl; have k1 := z1.cell 1 rfl
      refine bodyPost_ret (v := .tuple #[.agg #[.slice none 0 0, .int .i64 0], .int .i64 3]) ?_ rfl ⟨by rw [HR.out], z2⟩
      simp [results, Try.results45, go_sem, k0, k1]

/-- What claims that are asked for are in memory. -/
def AkP (S : List Sd) (n : Nat) (w : World) (e : Ending) (w' : World) : Prop :=
  ∃ g : Nat, e = .returned (.tuple #[.agg #[.slice (some ⟨g, 0, none⟩) n n, .int .i64 (100 * alS S)], .int .i64 0]) ∧ Bx w' g (vrow (clL S n)) 3 ∧ Below w.heap.size w w' ∧ w.heap.size ≤ g
theorem askE_0 {p : Int} {S : List Sd} {O : List Int} {o : Bool} (h : askE p S O o = 0) : vB p S O = true ∧ o = true ∧ alS S ≠ 0 := by
  unfold askE at h
  by_cases h1 : vB p S O = true
  · rw [if_pos h1] at h
    cases o
    · simp at h
    · by_cases h2 : alS S = 0
      · rw [if_pos rfl, if_pos h2] at h; cases h
      · exact ⟨h1, rfl, h2⟩
  · rw [if_neg h1] at h; cases h
set_option maxRecDepth 100000 in
set_option maxHeartbeats 1000000 in
theorem ask_ok (p : Int) (aS aO : Option Addr) (cS cO : Nat) (S : List Sd) (O : List Int) (w : World) (hX : Ry w aS aO p S O) (hE : askE p S O true = 0) : Calls Try.prog 45 #[.agg #[.int .i64 p, .slice aS S.length cS, .slice aO O.length cO], .bool true] w (AkP S O.length w) := by
  obtain ⟨W, hW, hb, hs, x0, x1⟩ := boxes2 w #[.int .i64 p, .slice aS S.length cS, .slice aO O.length cO] 25 #[.slice none 0 0, .int .i64 0] 66
  have hX1 := hX.below hb (Nat.le_refl _)
  have hv := valid_any p aS aO cS cO S O W hX1
  have hp := fun V h1 h2 => claimsOf_any p aS aO cS cO S O V h1 h2
  obtain ⟨hv1, _, ha⟩ := askE_0 hE
  have hvo := vB_ok hv1
  rw [hv1] at hv
  clear hv1 hE
  have hr := VOk.al hvo
  obtain ⟨A, hA⟩ : ∃ A, A = 100 * alS S := ⟨_, rfl⟩
  unfold ClP at hp
  unfold AkP
  rw [← hA] at hp ⊢
  have hAne : ¬ A = 0 := by omega
  have hB : (A == 0) = false := by simp [hAne]
  generalize clL S O.length = row at *
  clear hA hr ha hAne
  have c0 := x0.cell 0 rfl; have c1 := x0.cell 1 rfl; have c2 := x0.cell 2 rfl
  go_enter Try.func45, Try.ntmps45
  go_wp2_with fail
  refine hv.mono ?_
  rintro e W1 ⟨rfl, hb1⟩
  replace hb := hb.trans (hb1.mono hb.size)
  replace x0 := x0.below hb1
  replace x1 := x1.below hb1
  have hpl := hp W1 (hX1.below hb1 (Nat.le_refl _)) hvo
  clear c0 c1 c2 hW hv hX hb1 hs hX1 hp hvo
  have c0 := x0.cell 0 rfl; have c1 := x0.cell 1 rfl; have c2 := x0.cell 2 rfl
  go_wp2_with fail
  refine hpl.mono ?_
  rintro e W2 ⟨g, rfl, y, hb1, hg⟩
  have hba := below_one (w := W2) (.cells #[.slice (some ⟨g, 0, none⟩) O.length O.length, .int .i64 A] 66)
  have hgw : w.heap.size + 2 ≤ g := by
    have h1 := x1.lt; have h2 := x0.lt; omega
  have HXa := hid (And.intro ((x1.below hb1).below hba) (And.intro ((hb.trans (hb1.mono hb.size)).trans (hba.mono (hb.trans (hb1.mono hb.size)).size)) (And.intro (Bx.new W2 #[.slice (some ⟨g, 0, none⟩) O.length O.length, .int .i64 A] 66) (y.below hba))))
  clear hb hb1 hba x1 y c0 c1 c2 x0 hpl hg
  go_upto_region 6 with fail
  obtain ⟨x1, hb, x6, y⟩ := HXa.out
  clear HXa
  generalize W2.heap.size = sa at *
  generalize World.alloc _ _ = wa at *
  have f0 := x1.free 0; have f1 := x1.free 1
  have d0 := x1.cell 0 rfl; have d1 := x1.cell 1 rfl
  have c0 := x6.cell 0 rfl; have c1 := x6.cell 1 rfl
  have z1 := x1.set2 (.slice (some ⟨g, 0, none⟩) O.length O.length) (.int .i64 A)
  have z2 := (hb.setCell (p := ⟨w.heap.size + 1, 0, none⟩) (by show w.heap.size ≤ w.heap.size + 1; omega) (.slice (some ⟨g, 0, none⟩) O.length O.length)).setCell (p := ⟨w.heap.size + 1, 1, none⟩) (by show w.heap.size ≤ w.heap.size + 1; omega) (.int .i64 A)
  have z3 := (y.other (a := ⟨w.heap.size + 1, 0, none⟩) (by show g ≠ w.heap.size + 1; omega) (.slice (some ⟨g, 0, none⟩) O.length O.length)).other (a := ⟨w.heap.size + 1, 1, none⟩) (by show g ≠ w.heap.size + 1; omega) (.int .i64 A)
  have HZ := hid (And.intro z1 (And.intro z2 z3))
  clear z1 z2 z3 x1 hb x6 y
  go_wp2_with fail
  obtain ⟨z1, z2, z3⟩ := HZ.out
  generalize World.setCell _ _ _ = VV at *
  have k0 := z1.cell 0 rfl; have k1 := z1.cell 1 rfl
  refine bodyPost_ret (v := .tuple #[.agg #[.slice (some ⟨g, 0, none⟩) O.length O.length, .int .i64 A], .int .i64 0]) ?_ rfl ⟨g, rfl, z3, z2, by omega⟩
  simp [results, Try.results45, go_sem, k0, k1]

/-- Claims and a pool that the program reckons with. -/
structure QOk (P : Int) (E : List Int) (A : Int) (n : Nat) : Prop extends COk P E A n where
  p9 : P ≤ 9999
  len : E.length = n
  n6 : n ≤ 6
  e9 : ∀ i, i < n → E.getD i 0 ≤ 6000000
  a9 : A ≤ 6000000
theorem QOk.get {P : Int} {E : List Int} {A : Int} {n : Nat} (h : QOk P E A n) {i : Nat} (hi : i < n) : E[i]? = some (E.getD i 0) := get_of_lt 0 (by rw [h.len]; exact hi)
theorem QOk.mul {P : Int} {E : List Int} {A : Int} {n : Nat} (h : QOk P E A n) {i : Nat} (hi : i < n) : 0 ≤ P * E.getD i 0 ∧ P * E.getD i 0 ≤ 59994000000 := by
  have h1 := h.e0 i hi; have h2 := h.e9 i hi; have h3 := h.p0; have h4 := h.p9
  exact ⟨Int.mul_nonneg h3 h1, Int.mul_le_mul (c := 9999) (d := 6000000) h4 h2 h1 (by omega)⟩

set_option maxRecDepth 100000 in
set_option maxHeartbeats 2000000 in
theorem rest_any (g n : Nat) (P : Int) (E : List Int) (A : Int) (i : Nat) (hQ : QOk P E A n) (hi : i < n) (w : World) (y : Bx w g (vrow E) 3) :
    Calls Try.prog 73 #[.agg #[.slice (some ⟨g, 0, none⟩) n n, .int .i64 A], .int .i64 P, .int .i64 (i : Int)] w fun e w' => e = .returned (.int .i64 (rsV P E A i)) ∧ Below w.heap.size w w' := by
  obtain ⟨W, hW, hb, hs, x0⟩ := boxes1 w #[.slice (some ⟨g, 0, none⟩) n n, .int .i64 A] 66
  have hm := hQ.mul hi
  have hg := hQ.get hi
  have ha := hQ.a0; have ha9 := hQ.a9
  unfold rsV
  rw [Int.toNat_natCast]
  obtain ⟨x, hx⟩ : ∃ x, x = E.getD i 0 := ⟨_, rfl⟩
  rw [← hx] at hm hg ⊢
  have hmod : (P * x).tmod A = P * x % A := Int.tmod_eq_emod_of_nonneg hm.1
  have hr1 := Int.emod_nonneg (P * x) (show A ≠ 0 by omega)
  have hr2 := Int.emod_lt_of_pos (P * x) ha
  obtain ⟨r, hr⟩ : ∃ r, r = P * x % A := ⟨_, rfl⟩
  rw [← hr] at hmod hr1 hr2 ⊢
  have ew : IntKind.i64.wrap (P * x) = P * x := IntWalk.i64_in _ (by omega)
  have ew2 : IntKind.i64.wrap r = r := IntWalk.i64_in _ (by omega)
  have hne : ¬ A = 0 := by omega
  have d0 := x0.ext 0 rfl; have d1 := x0.ext 1 rfl
  have f0 := (y.below hb).ext i (vrow_at hg)
  have hiI : (i : Int) < (n : Int) := by omega
  have hi0 : (0 : Int) ≤ (i : Int) := by omega
  clear hx hr hg hQ hm x0 y hs
  go_enter Try.func73, Try.ntmps73
  go_upto_region 1 with fail
  clear hW
  refine wp_region_ext_lit (by kernel_rfl) (by kernel_rfl) ?_
  repeat (quiet_step (fail))
  refine wpQuiet_nil ?_
  intro _ hw'
  obtain ⟨t, rfl⟩ := hw'
  replace hb := hb.trans (t.below.mono hb.size)
  go_wp2
  go_ret
  exact ⟨rfl, hb⟩

/-- Which of two numbers comes first. -/
def cmpI (x y : Int) : Int := if x < y then -1 else if y < x then 1 else 0
set_option maxRecDepth 100000 in
set_option maxHeartbeats 1000000 in
theorem isNaN_any (x : Int) (w : World) : Calls Try.prog 76 #[.int .i64 x] w fun e w' => e = .returned (.bool false) ∧ w = w' := by
  have hB : (x != x) = false := by simp
  go_enter Try.func76, Try.ntmps76
  go_wp2
  go_ret
  exact ⟨rfl, rfl⟩
set_option maxRecDepth 100000 in
set_option maxHeartbeats 1000000 in
theorem Compare_any (x y : Int) (w : World) : Calls Try.prog 72 #[.int .i64 x, .int .i64 y] w fun e w' => e = .returned (.int .i64 (cmpI x y)) ∧ w = w' := by
  have h1 := fun v => isNaN_any x v
  have h2 := fun v => isNaN_any y v
  have HC := hid (show cmpI x y = if x < y then -1 else if y < x then 1 else 0 from rfl)
  generalize cmpI x y = r at *
  go_enter Try.func72, Try.ntmps72
  go_wp2_with fail
  refine (h1 _).mono ?_
  rintro e W1 ⟨rfl, rfl⟩
  go_wp2_with fail
  refine (h2 _).mono ?_
  rintro e W1 ⟨rfl, rfl⟩
  by_cases hlt : x < y
  · have HR := hid (show r = -1 by rw [HC.out, if_pos hlt])
    clear HC
    go_wp2
    go_ret
    exact ⟨ret_int HR.out.symm, rfl⟩
  · by_cases hgt : y < x
    · have HR := hid (show r = 1 by rw [HC.out, if_neg hlt, if_pos hgt])
      clear HC
      go_wp2
      go_ret
      exact ⟨ret_int HR.out.symm, rfl⟩
    · have HR := hid (show r = 0 by rw [HC.out, if_neg hlt, if_neg hgt])
      clear HC
      go_wp2
      go_ret
      exact ⟨ret_int HR.out.symm, rfl⟩
def orI (x y : Int) : Int := if x = 0 then y else x
set_option maxRecDepth 100000 in
set_option maxHeartbeats 1000000 in
theorem Or_any (b : Nat) (x y : Int) (w : World) (x0 : Bx w b #[.int .i64 x, .int .i64 y] 3) : Calls Try.prog 71 #[.slice (some ⟨b, 0, none⟩) 2 2] w fun e w' => e = .returned (.int .i64 (orI x y)) ∧ w = w' := by
  have c0 := x0.cell 0 rfl; have c1 := x0.cell 1 rfl
  have HC := hid (show orI x y = if x = 0 then y else x from rfl)
  generalize orI x y = r at *
  clear x0
  go_enter Try.func71, Try.ntmps71
  go_wp2
  go_loopw [8] (fun v8 wr => wr = w ∧ (v8 = .int .i64 0 ∨ (v8 = .int .i64 1 ∧ x = 0) ∨ (v8 = .int .i64 2 ∧ x = 0 ∧ y = 0))) (fun v8 _ => 2 - (intOf v8).toNat)
  case atStart => exact ⟨rfl, .inl rfl⟩
  case round =>
    obtain ⟨rfl, rfl | ⟨rfl, h0⟩ | ⟨rfl, h0, h1⟩⟩ := hrel
    · by_cases h : x = 0
      · have hB : (x != 0) = false := by simp [h]
        have H0 := hid h
        clear h HC
        go_wp2
        go_roundw
        case rel => exact ⟨trivial, .inr (.inl ⟨by simp, H0.out⟩)⟩
        case measure => simp [intOf]
      · have hB : (x != 0) = true := by simp [h]
        have HR := hid (show r = x by rw [HC.out, if_neg h])
        clear h HC
        go_wp2
        go_ret
        exact ⟨ret_int HR.out.symm, rfl⟩
    · have HR := hid (show r = y by rw [HC.out, if_pos h0])
      have H0 := hid h0
      clear h0 HC
      by_cases h : y = 0
      · have hB : (y != 0) = false := by simp [h]
        have H1 := hid h
        clear h
        go_wp2
        go_roundw
        case rel => exact ⟨trivial, .inr (.inr ⟨by simp, H0.out, H1.out⟩)⟩
        case measure => simp [intOf]
      · have hB : (y != 0) = true := by simp [h]
        clear h
        go_wp2
        go_ret
        exact ⟨ret_int HR.out.symm, rfl⟩
    · have HR := hid (show r = 0 by rw [HC.out, if_pos h0, h1])
      clear h0 h1 HC
      go_wp2
      go_ret
      exact ⟨ret_int HR.out.symm, rfl⟩
end Go.Proofs.Ytakodllejndfeaa
