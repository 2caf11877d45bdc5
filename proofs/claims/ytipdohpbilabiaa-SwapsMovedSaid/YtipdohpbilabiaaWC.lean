import Derived.Test.YtipdohpbilabiaaNC
import Derived.Test.YtipdohpbilabiaaN9
import Derived.Test.YtipdohpbilabiaaN4
import Derived.Test.YtipdohpbilabiaaM9
import Derived.Test.YtipdohpbilabiaaW2
/-! SwapsMoved. -/
namespace Go.Proofs.Ytipdohpbilabiaa
set_option linter.unusedSimpArgs false
set_option linter.unusedVariables false
open Go Go.RowKit

set_option maxRecDepth 100000 in
set_option maxHeartbeats 4000000 in
theorem Moved_bad (ab ast ae ak : Option Addr) (cb cs ce ck : Nat) (X : Sw) (xb xk xt : Int) (w : World) (rb : Bool) (hrd : ∀ V, Below w.heap.size w V → Calls Try.prog 44 #[.agg #[.slice ab X.bs.length cb, .slice ast X.st.length cs, .slice ae X.er.length ce, .slice ak X.ks.length ck, .int .i64 X.ch]] V fun e w' => e = .returned (.bool rb) ∧ Below V.heap.size V w') (h : ¬ (rb = true ∧ 0 ≤ xb ∧ xb < (X.bs.length : Int) ∧ 0 ≤ xk ∧ xk ≤ 999)) : Calls Try.prog 9 #[.agg #[.slice ab X.bs.length cb, .slice ast X.st.length cs, .slice ae X.er.length ce, .slice ak X.ks.length ck, .int .i64 X.ch], .agg #[.int .i64 xb, .int .i64 xk, .int .i64 xt]] w fun e w' => e = .returned (.bool true) ∧ Below w.heap.size w w' := by
  obtain ⟨W, hWW, hb, _, x0, y0⟩ := boxes2 w #[.slice ab X.bs.length cb, .slice ast X.st.length cs, .slice ae X.er.length ce, .slice ak X.ks.length ck, .int .i64 X.ch] 26 #[.int .i64 xb, .int .i64 xk, .int .i64 xt] 62
  have hW := works_any
  have c0 := x0.cell 0 rfl; have c1 := x0.cell 1 rfl; have c2 := x0.cell 2 rfl; have c3 := x0.cell 3 rfl; have c4 := x0.cell 4 rfl; have d0 := y0.cell 0 rfl; have d1 := y0.cell 1 rfl; have d2 := y0.cell 2 rfl
  cases rb
  · go_enter Try.func9, Try.ntmps9
    go_wp2_with fail
    refine (hrd _ hb).mono ?_
    rintro e V1 ⟨rfl, hb1⟩
    replace hb := hb.trans (hb1.mono hb.size)
    replace x0 := x0.below hb1
    replace y0 := y0.below hb1
    clear c0 c1 c2 c3 c4 d0 d1 d2 hb1 hrd
    have c0 := x0.cell 0 rfl; have c1 := x0.cell 1 rfl; have c2 := x0.cell 2 rfl; have c3 := x0.cell 3 rfl; have c4 := x0.cell 4 rfl; have d0 := y0.cell 0 rfl; have d1 := y0.cell 1 rfl; have d2 := y0.cell 2 rfl
    go_wp2_with fail
    refine (hW _).mono ?_
    rintro e Vw ⟨rfl, hb1⟩
    replace hb := hb.trans (hb1.mono hb.size)
    go_wp2
    go_ret
    exact ⟨rfl, hb⟩
  · by_cases h1 : 0 ≤ xb
    · by_cases h2 : xb < (X.bs.length : Int)
      · by_cases h3 : 0 ≤ xk
        · have h4 : (999 : Int) < xk := by
            have : ¬ xk ≤ 999 := fun h4 => h ⟨rfl, h1, h2, h3, h4⟩
            omega
          clear h 
          go_enter Try.func9, Try.ntmps9
          go_wp2_with fail
          refine (hrd _ hb).mono ?_
          rintro e V1 ⟨rfl, hb1⟩
          replace hb := hb.trans (hb1.mono hb.size)
          replace x0 := x0.below hb1
          replace y0 := y0.below hb1
          clear c0 c1 c2 c3 c4 d0 d1 d2 hb1 hrd
          have c0 := x0.cell 0 rfl; have c1 := x0.cell 1 rfl; have c2 := x0.cell 2 rfl; have c3 := x0.cell 3 rfl; have c4 := x0.cell 4 rfl; have d0 := y0.cell 0 rfl; have d1 := y0.cell 1 rfl; have d2 := y0.cell 2 rfl
          go_wp2_with fail
          refine (hW _).mono ?_
          rintro e Vw ⟨rfl, hb1⟩
          replace hb := hb.trans (hb1.mono hb.size)
          go_wp2
          go_ret
          exact ⟨rfl, hb⟩
        · have h3' : xk < 0 := by omega
          clear h h3
          go_enter Try.func9, Try.ntmps9
          go_wp2_with fail
          refine (hrd _ hb).mono ?_
          rintro e V1 ⟨rfl, hb1⟩
          replace hb := hb.trans (hb1.mono hb.size)
          replace x0 := x0.below hb1
          replace y0 := y0.below hb1
          clear c0 c1 c2 c3 c4 d0 d1 d2 hb1 hrd
          have c0 := x0.cell 0 rfl; have c1 := x0.cell 1 rfl; have c2 := x0.cell 2 rfl; have c3 := x0.cell 3 rfl; have c4 := x0.cell 4 rfl; have d0 := y0.cell 0 rfl; have d1 := y0.cell 1 rfl; have d2 := y0.cell 2 rfl
          go_wp2_with fail
          refine (hW _).mono ?_
          rintro e Vw ⟨rfl, hb1⟩
          replace hb := hb.trans (hb1.mono hb.size)
          go_wp2
          go_ret
          exact ⟨rfl, hb⟩
      · have h2' : (X.bs.length : Int) ≤ xb := by omega
        clear h h2
        go_enter Try.func9, Try.ntmps9
        go_wp2_with fail
        refine (hrd _ hb).mono ?_
        rintro e V1 ⟨rfl, hb1⟩
        replace hb := hb.trans (hb1.mono hb.size)
        replace x0 := x0.below hb1
        replace y0 := y0.below hb1
        clear c0 c1 c2 c3 c4 d0 d1 d2 hb1 hrd
        have c0 := x0.cell 0 rfl; have c1 := x0.cell 1 rfl; have c2 := x0.cell 2 rfl; have c3 := x0.cell 3 rfl; have c4 := x0.cell 4 rfl; have d0 := y0.cell 0 rfl; have d1 := y0.cell 1 rfl; have d2 := y0.cell 2 rfl
        go_wp2_with fail
        refine (hW _).mono ?_
        rintro e Vw ⟨rfl, hb1⟩
        replace hb := hb.trans (hb1.mono hb.size)
        go_wp2
        go_ret
        exact ⟨rfl, hb⟩
    · have h1' : xb < 0 := by omega
      clear h h1
      go_enter Try.func9, Try.ntmps9
      go_wp2_with fail
      refine (hrd _ hb).mono ?_
      rintro e V1 ⟨rfl, hb1⟩
      replace hb := hb.trans (hb1.mono hb.size)
      replace x0 := x0.below hb1
      replace y0 := y0.below hb1
      clear c0 c1 c2 c3 c4 d0 d1 d2 hb1 hrd
      have c0 := x0.cell 0 rfl; have c1 := x0.cell 1 rfl; have c2 := x0.cell 2 rfl; have c3 := x0.cell 3 rfl; have c4 := x0.cell 4 rfl; have d0 := y0.cell 0 rfl; have d1 := y0.cell 1 rfl; have d2 := y0.cell 2 rfl
      go_wp2_with fail
      refine (hW _).mono ?_
      rintro e Vw ⟨rfl, hb1⟩
      replace hb := hb.trans (hb1.mono hb.size)
      go_wp2
      go_ret
      exact ⟨rfl, hb⟩

theorem copy_two {X Y : Sw} (hvX : vB X = true) (hvY : vB Y = true) (hn : ntI Y = ntI X) (he : ∀ t, copyV Y.vz t = copyV X.vz t) (t : Int) : ∃ cv ce : Int,
    (∀ (ab ast ae ak : Option Addr) (cb cs ce' ck : Nat) V, Swp V ab ast ae ak X → Calls Try.prog 40 #[.agg #[.slice ab X.bs.length cb, .slice ast X.st.length cs, .slice ae X.er.length ce', .slice ak X.ks.length ck, .int .i64 X.ch], .int .i64 t] V fun e w' => e = .returned (.tuple #[.int .i64 cv, .int .i64 ce]) ∧ Below V.heap.size V w') ∧
    (∀ (ab ast ae ak : Option Addr) (cb cs ce' ck : Nat) V, Swp V ab ast ae ak Y → Calls Try.prog 40 #[.agg #[.slice ab Y.bs.length cb, .slice ast Y.st.length cs, .slice ae Y.er.length ce', .slice ak Y.ks.length ck, .int .i64 Y.ch], .int .i64 t] V fun e w' => e = .returned (.tuple #[.int .i64 cv, .int .i64 ce]) ∧ Below V.heap.size V w') := by
  cases hi : inI 0 t (ntI X)
  · exact ⟨0, 1, fun ab ast ae ak cb cs ce ck V hX => Copy_bad ab ast ae ak cb cs ce ck X t V hX 1 (by rw [hvX]; rfl) (fun _ => hi), fun ab ast ae ak cb cs ce ck V hX => Copy_bad ab ast ae ak cb cs ce ck Y t V hX 1 (by rw [hvY]; rfl) (fun _ => by rw [hn]; exact hi)⟩
  · refine ⟨copyV X.vz t.toNat, 0, fun ab ast ae ak cb cs ce ck V hX => Copy_ok ab ast ae ak cb cs ce ck X t V hX hvX hi, fun ab ast ae ak cb cs ce ck V hX => ?_⟩
    have := Copy_ok ab ast ae ak cb cs ce ck Y t V hX hvY (by rw [hn]; exact hi)
    rw [he] at this
    exact this

set_option maxRecDepth 100000 in
set_option maxHeartbeats 8000000 in
theorem swapsMoved_any (ab ast ae ak : Option Addr) (cb cs ce ck : Nat) (X : Sw) (b : Nat) (xk xt : Int) (w : World) (hX : Swp w ab ast ae ak X) (hr : rdB X = true) (hbn : b < X.bs.length) (k0 : 0 ≤ xk) (k9 : xk ≤ 999) : Calls Try.prog 9 #[.agg #[.slice ab X.bs.length cb, .slice ast X.st.length cs, .slice ae X.er.length ce, .slice ak X.ks.length ck, .int .i64 X.ch], .agg #[.int .i64 (b : Int), .int .i64 xk, .int .i64 xt]] w fun e w' => e = .returned (.bool true) ∧ Below w.heap.size w w' := by
  have hv := (rdB_iff hr).1
  have hok := vB_iff hv
  obtain ⟨W, hWW, hb, _, x0, y0⟩ := boxes2 w #[.slice ab X.bs.length cb, .slice ast X.st.length cs, .slice ae X.er.length ce, .slice ak X.ks.length ck, .int .i64 X.ch] 26 #[.int .i64 (b : Int), .int .i64 xk, .int .i64 xt] 62
  have hgX := fun V (h : Below w.heap.size w V) => hX.below h (Nat.le_refl _)
  have hrd := fun V h => ready_any ab ast ae ak cb cs ce ck X V (hgX V h)
  rw [hr] at hrd
  have hW := works_any
  have hbl : ∀ l ∈ X.bs, l.length ≤ 1000 := fun l hl => by
    obtain ⟨i, hi, rfl⟩ := mem_getD [] hl
    have := (hok.b3 i hi).1; omega
  have hel : ∀ l ∈ X.er, l.length ≤ 1000 := fun l hl => by
    obtain ⟨i, hi, rfl⟩ := mem_getD [] hl
    have := (hok.er2 i hi).1; have := hok.nb3; omega
  have hcl := fun V h => CloneM_any ab ast ae ak cb cs ce ck X V (hgX V h) (by have := hok.nb3; omega) hbl (by have := hok.t6; omega) (by have := hok.er1; have := hok.t6; omega) hel (by have := hok.k4; omega)
  have h0b : (0 : Int) ≤ (b : Int) := by omega
  have hbI : (b : Int) < (X.bs.length : Int) := by omega
  have he6 : X.er.length ≤ 6 := by rw [hok.er1]; exact hok.t6
  have HOK := hid hok
  have c0 := x0.cell 0 rfl; have c1 := x0.cell 1 rfl; have c2 := x0.cell 2 rfl; have c3 := x0.cell 3 rfl; have c4 := x0.cell 4 rfl; have d0 := y0.cell 0 rfl; have d1 := y0.cell 1 rfl; have d2 := y0.cell 2 rfl
  clear hX hr hbl hel hok
  go_enter Try.func9, Try.ntmps9
  go_wp2_with fail
  refine (hrd _ hb).mono ?_
  rintro e V1 ⟨rfl, hb1⟩
  replace hb := hb.trans (hb1.mono hb.size)
  replace x0 := x0.below hb1
  replace y0 := y0.below hb1
  clear c0 c1 c2 c3 c4 d0 d1 d2 hb1 hrd
  have c0 := x0.cell 0 rfl; have c1 := x0.cell 1 rfl; have c2 := x0.cell 2 rfl; have c3 := x0.cell 3 rfl; have c4 := x0.cell 4 rfl; have d0 := y0.cell 0 rfl; have d1 := y0.cell 1 rfl; have d2 := y0.cell 2 rfl
  have hB : w.heap.size + 2 ≤ V1.heap.size := by have := y0.lt; omega
  go_wp2_with fail
  refine (hcl _ hb).mono ?_
  rintro e Vn ⟨hb1, oab, oast, oae, oak, ocb, ocs, oce, ock, rfl, hM⟩
  replace hb := hb.trans (hb1.mono hb.size)
  replace x0 := x0.below hb1
  replace y0 := y0.below hb1
  have hbA := below_one (w := Vn) (.cells #[.slice oab X.bs.length ocb, .slice oast X.st.length ocs, .slice oae X.er.length oce, .slice oak X.ks.length ock, .int .i64 X.ch] 26)
  have z0 := Bx.new Vn #[.slice oab X.bs.length ocb, .slice oast X.st.length ocs, .slice oae X.er.length oce, .slice oak X.ks.length ock, .int .i64 X.ch] 26
  have hgw : w.heap.size + 2 ≤ Vn.heap.size := Nat.le_trans hB hb1.size
  have HH := hid (And.intro (hb.trans (hbA.mono hb.size)) (And.intro (x0.below hbA) (And.intro (y0.below hbA) (And.intro z0 (hM.below hbA)))))
  clear hb x0 y0 z0 hbA hb1 c0 c1 c2 c3 c4 d0 d1 d2 hcl hM
  go_upto_region 4 with fail
  obtain ⟨hb, x0, y0, z0, hM⟩ := HH.out
  clear HH
  obtain ⟨g, hg⟩ : ∃ g, g = Vn.heap.size := ⟨_, rfl⟩
  rw [← hg] at z0 hgw ⊢
  clear hg
  generalize Vn.alloc _ = Vn at *
  go_wp2
  go_loopw [6] (fun v6 wr => ∃ k : Nat, k ≤ X.er.length ∧ v6 = .int .i64 (k : Int) ∧ Below w.heap.size w wr ∧ Bx wr w.heap.size #[.slice ab X.bs.length cb, .slice ast X.st.length cs, .slice ae X.er.length ce, .slice ak X.ks.length ck, .int .i64 X.ch] 26 ∧ Bx wr (w.heap.size + 1) #[.int .i64 (b : Int), .int .i64 xk, .int .i64 xt] 62 ∧ Bx wr g #[.slice oab X.bs.length ocb, .slice oast X.st.length ocs, .slice oae X.er.length oce, .slice oak X.ks.length ock, .int .i64 X.ch] 26 ∧ CMem wr (V1.heap.size + 2) (.slice oab X.bs.length ocb) (.slice oast X.st.length ocs) (.slice oae X.er.length oce) (.slice oak X.ks.length ock) { X with er := movE b xk X.er k }) (fun v6 _ => X.er.length - (intOf v6).toNat)
  case atStart => exact ⟨0, Nat.zero_le _, rfl, hb, x0, y0, z0, by rw [movE_zero]; exact hM⟩
  case round =>
    clear hb x0 y0 z0 hM
    obtain ⟨k, hk, rfl, hb, x0, y0, z0, hM⟩ := hrel
    obtain ⟨Vn, rfl⟩ : ∃ V : World, V = wr := ⟨_, rfl⟩
    by_cases hlt : k < X.er.length
    · obtain ⟨ks, hks0⟩ : ∃ ks, X.er[k]? = some ks := ⟨_, List.getElem?_eq_getElem hlt⟩
      have hks : (movE b xk X.er k)[k]? = some ks := by rw [movE_at, hks0]; simp
      have hkd : X.er.getD k [] = ks := by rw [List.getD_eq_getElem?_getD, hks0]; rfl
      obtain ⟨hkl2, hk9⟩ := HOK.out.er2 k hlt
      rw [hkd] at hkl2 hk9
      have hjk : b < ks.length := by omega
      obtain ⟨o2, ho2⟩ : ∃ o, o = ks.getD b 0 := ⟨_, rfl⟩
      have hs9 := hk9 (ks.getD b 0) (getD_mem' _ 0 hjk)
      rw [← ho2] at hs9
      have hwt : IntKind.i64.wrap (o2 + xk) = o2 + xk := IntWalk.i64_in _ (by omega)
      have hbd := (Below.refl Vn.heap.size Vn).drew
      have hn3' := HOK.out.nb3
      obtain ⟨ge, gi, ci, hge, hce, hgB, hgl, hcs, hfs, hcur, hM1⟩ := CMem.setEarn (X := { X with er := movE b xk X.er k }) (a9 := oae) (c9 := oce) (by show CMem _ _ _ _ (.slice oae (movE b xk X.er k).length oce) _ _; rw [movE_len]; exact hM.below hbd) hks hjk (by omega) (o2 + xk) (by omega)
      have HGE := hid hge
      rw [← ho2] at hcs
      have hM2 : CMem (Vn.drew.setCell ⟨gi, b, none⟩ (.int .i64 (o2 + xk))) (V1.heap.size + 2) (.slice oab X.bs.length ocb) (.slice oast X.st.length ocs) (.slice oae X.er.length oce) (.slice oak X.ks.length ock) { X with er := movE b xk X.er (k + 1) } := by
        rw [movE_succ b xk X.er hks0, ← ho2]
        have := hM1
        rw [show ({ X with er := movE b xk X.er k } : Sw).er.length = X.er.length from movE_len _ _ _ _] at this
        exact this
      have hx1 := x0.below hbd
      have hy1 := y0.below hbd
      have hz1 := z0.below hbd
      have hb1 := hb.trans (hbd.mono hb.size)
      have hne : g ≠ gi := fun e => by
        obtain ⟨cur, hc⟩ := hcur
        rw [← e] at hc
        unfold Bx at hz1
        rw [hz1] at hc; cases hc
      have HN := hid (And.intro hb1 (And.intro hx1 hM2))
      have S0 := And.intro hy1 (And.intro hz1 (And.intro hce hcs))
      have HFS := hid hfs
      have htE : (k : Int) < (X.er.length : Int) := by omega
      have hk6 : (k : Int) < 6 := by omega
      have hjI : (b : Int) < (ks.length : Int) := by omega
      have d0 := y0.cell 0 rfl; have d1 := y0.cell 1 rfl; have d2 := y0.cell 2 rfl; have e0 := z0.cell 0 rfl; have e1 := z0.cell 1 rfl; have e2 := z0.cell 2 rfl; have e3 := z0.cell 3 rfl; have e4 := z0.cell 4 rfl
      clear hM hbd hx1 hy1 hz1 hb1 hM1 hM2 hcur hcs hfs hs9 hge hce hks hks0 hkd hkl2 hk9 hn3' ho2
      go_upto_region 7 with fail
      clear d0 d1 d2 e0 e1 e2 e3 e4 x0 y0 z0 hb
      refine wp_region_head 13 (fun w' => Bx w' (w.heap.size + 1) #[.int .i64 (b : Int), .int .i64 xk, .int .i64 xt] 62 ∧ Bx w' g #[.slice oab X.bs.length ocb, .slice oast X.st.length ocs, .slice oae X.er.length oce, .slice oak X.ks.length ock, .int .i64 X.ch] 26 ∧ w'.cell? ⟨ge, k, none⟩ = some (.slice (some ⟨gi, 0, none⟩) ks.length ci) ∧ w'.cell? ⟨gi, b, none⟩ = some (.int .i64 o2)) (by kernel_rfl) rfl ?_
      generalize Vn.drew = Yw at *
      refine HeadAt.take (i := 0) (.pointer (some ⟨g, 2, none⟩)) rfl (by kernel_rfl) (.inl ⟨rfl, fun _ _ => by simp [go_sem]⟩) S0 ?_
      (try simp only [Act.put, List.getElem_toArray, List.getElem_cons_succ, List.getElem_cons_zero, List.setIfInBounds_toArray, List.set_cons_succ, List.set_cons_zero])
      refine HeadAt.take (i := 1) (.slice oae X.er.length oce) rfl (by kernel_rfl) (.inl ⟨rfl, fun w' z => ?_⟩) S0 ?_
      · (have z0 := z.2.1.cell 2 rfl; simp [go_sem, z0])
      refine HeadAt.take (i := 2) (.int .i64 (k : Int)) rfl (by kernel_rfl) (.inl ⟨rfl, fun _ _ => by simp [go_sem]⟩) S0 ?_
      (try simp only [Act.put, List.getElem_toArray, List.getElem_cons_succ, List.getElem_cons_zero, List.setIfInBounds_toArray, List.set_cons_succ, List.set_cons_zero])
      refine HeadAt.take (i := 3) (.pointer (some ⟨ge, k, none⟩)) rfl (by kernel_rfl) (.inl ⟨rfl, fun w' z => ?_⟩) S0 ?_
      · (have hge' := HGE.out; simp [go_sem, htE, hge'])
      (try simp only [Act.put, List.getElem_toArray, List.getElem_cons_succ, List.getElem_cons_zero, List.setIfInBounds_toArray, List.set_cons_succ, List.set_cons_zero])
      refine HeadAt.take (i := 4) (.slice (some ⟨gi, 0, none⟩) ks.length ci) rfl (by kernel_rfl) (.inl ⟨rfl, fun w' z => ?_⟩) S0 ?_
      · (have z2 := z.2.2.1; simp [go_sem, z2])
      refine HeadAt.take (i := 5) (.pointer (some ⟨w.heap.size + 1, 0, none⟩)) rfl (by kernel_rfl) (.inl ⟨rfl, fun _ _ => by simp [go_sem]⟩) S0 ?_
      (try simp only [Act.put, List.getElem_toArray, List.getElem_cons_succ, List.getElem_cons_zero, List.setIfInBounds_toArray, List.set_cons_succ, List.set_cons_zero])
      refine HeadAt.take (i := 6) (.int .i64 (b : Int)) rfl (by kernel_rfl) (.inl ⟨rfl, fun w' z => ?_⟩) S0 ?_
      · (have z0 := z.1.cell 0 rfl; simp [go_sem, z0])
      (try simp only [Act.put, List.getElem_toArray, List.getElem_cons_succ, List.getElem_cons_zero, List.setIfInBounds_toArray, List.set_cons_succ, List.set_cons_zero])
      refine HeadAt.take (i := 7) (.pointer (some ⟨gi, b, none⟩)) rfl (by kernel_rfl) (.inl ⟨rfl, fun w' z => ?_⟩) S0 ?_
      · (simp [go_sem, hjI])
      (try simp only [Act.put, List.getElem_toArray, List.getElem_cons_succ, List.getElem_cons_zero, List.setIfInBounds_toArray, List.set_cons_succ, List.set_cons_zero])
      refine HeadAt.take (i := 8) (.int .i64 o2) rfl (by kernel_rfl) (.inl ⟨rfl, fun w' z => ?_⟩) S0 ?_
      · (have z2 := z.2.2.2; simp [go_sem, z2])
      refine HeadAt.take (i := 9) (.pointer (some ⟨w.heap.size + 1, 1, none⟩)) rfl (by kernel_rfl) (.inl ⟨rfl, fun _ _ => by simp [go_sem]⟩) S0 ?_
      (try simp only [Act.put, List.getElem_toArray, List.getElem_cons_succ, List.getElem_cons_zero, List.setIfInBounds_toArray, List.set_cons_succ, List.set_cons_zero])
      refine HeadAt.take (i := 10) (.int .i64 xk) rfl (by kernel_rfl) (.inl ⟨rfl, fun w' z => ?_⟩) S0 ?_
      · (have z0 := z.1.cell 1 rfl; simp [go_sem, z0])
      (try simp only [Act.put, List.getElem_toArray, List.getElem_cons_succ, List.getElem_cons_zero, List.setIfInBounds_toArray, List.set_cons_succ, List.set_cons_zero])
      refine HeadAt.take (i := 11) (.int .i64 (o2 + xk)) rfl (by kernel_rfl) (.inl ⟨rfl, fun w' z => ?_⟩) S0 ?_
      · (simp [go_sem, hwt])
      refine HeadAt.take (i := 12) (.pointer (some ⟨gi, b, none⟩)) rfl (by kernel_rfl) (.inl ⟨rfl, fun w' z => ?_⟩) S0 ?_
      · (simp [go_sem, hjI])
      refine HeadAt.done (by kernel_rfl) ?_
      (try simp only [Act.put, List.drop_succ_cons, List.drop_zero, List.getElem_toArray, List.getElem_cons_succ, List.getElem_cons_zero])
      obtain ⟨y0, z0, hce, hcs⟩ := S0
      obtain ⟨hb, x0, hM2⟩ := HN.out
      have hfs := HFS.out
      have hx2 := x0.other (a := ⟨gi, b, none⟩) (by show w.heap.size ≠ gi; omega) (.int .i64 (o2 + xk))
      have hy2 := y0.other (a := ⟨gi, b, none⟩) (by show w.heap.size + 1 ≠ gi; omega) (.int .i64 (o2 + xk))
      have hz2 := z0.other (a := ⟨gi, b, none⟩) hne (.int .i64 (o2 + xk))
      have hb2 := hb.setCell (p := ⟨gi, b, none⟩) (by show w.heap.size ≤ gi; omega) (.int .i64 (o2 + xk))
      have HN2 := hid (And.intro hb2 (And.intro hx2 (And.intro hy2 (And.intro hz2 hM2))))
      clear HN HFS hb x0 y0 z0 hM2 hx2 hy2 hz2 hb2
      go_wp2_with fail
      refine NoPanic.normal ?_
      obtain ⟨hb, x0, y0, z0, hM⟩ := HN2.out
      clear HN2 hcs hfs hwt hce hjI
      generalize World.setCell _ _ _ = Vn at *
      go_wp2
      go_roundw
      case rel => exact ⟨k + 1, by omega, by simp, hb, x0, y0, z0, hM⟩
      case measure => simp [intOf]; omega
    · have hkn : k = X.er.length := by omega
      rw [hkn] at hM
      have hkI : ¬ (k : Int) < (X.er.length : Int) := by omega
      obtain ⟨Y, hYd⟩ : ∃ Y : Sw, Y = { X with er := movE b xk X.er X.er.length } := ⟨_, rfl⟩
      obtain ⟨b1, b2, b3, b4, k1, k2, k3, k4, q1, q2, q3, q4, hO⟩ := hM.swp (by show X.bs.length ≤ 1000; have := HOK.out.nb3; omega) (by show X.st.length ≤ 1000; have := HOK.out.t6; omega) (by show (movE b xk X.er X.er.length).length ≤ 1000; rw [movE_len]; omega) (by show X.ks.length ≤ 1000; have := HOK.out.k4; omega) (fun x hx => by have := HOK.out.st9 x hx; omega) (fun x hx => by
        have := HOK.out.keep x hx
        have := HOK.out.nb3; have := HOK.out.t6
        omega)
      injection q1 with r1 n1 r2
      injection q2 with r3 n2 r4
      injection q3 with r5 n3 r6
      injection q4 with r7 n4 r8
      subst r1 r2 r3 r4 r5 r6 r7 r8
      clear n1 n2 n3 n4
      rw [← hYd] at hO
      have eqs : Y.bs.length = X.bs.length ∧ Y.st.length = X.st.length ∧ Y.er.length = X.er.length ∧ Y.ks.length = X.ks.length ∧ Y.ch = X.ch := by rw [hYd]; exact ⟨rfl, rfl, movE_len _ _ _ _, rfl, rfl⟩
      have z1 : Bx Vn g #[.slice oab Y.bs.length ocb, .slice oast Y.st.length ocs, .slice oae Y.er.length oce, .slice oak Y.ks.length ock, .int .i64 Y.ch] 26 := by rw [eqs.1, eqs.2.1, eqs.2.2.1, eqs.2.2.2.1, eqs.2.2.2.2]; exact z0
      have HYD := hid hYd
      clear hM hYd eqs hkn
      have e0 := z0.cell 0 rfl; have e1 := z0.cell 1 rfl; have e2 := z0.cell 2 rfl; have e3 := z0.cell 3 rfl; have e4 := z0.cell 4 rfl
      go_upto_region 8 with fail
      clear e0 e1 e2 e3 e4 z0
      have z0 := z1
      clear z1
      have c0 := x0.cell 0 rfl; have c1 := x0.cell 1 rfl; have c2 := x0.cell 2 rfl; have c3 := x0.cell 3 rfl; have c4 := x0.cell 4 rfl; have e0 := z0.cell 0 rfl; have e1 := z0.cell 1 rfl; have e2 := z0.cell 2 rfl; have e3 := z0.cell 3 rfl; have e4 := z0.cell 4 rfl; have d0 := y0.cell 0 rfl; have d1 := y0.cell 1 rfl; have d2 := y0.cell 2 rfl
      have hYv : Y.vz = X.vz.erd (movE b xk X.er X.er.length) := by rw [HYD.out]; rfl
      have hsh := moved_shf (K := xk) HOK.out hbn
      cases hrY : rdB Y
      · have hry := fun V h => ready_any oab oast oae oak ocb ocs oce ock Y V h
        rw [hrY] at hry
        go_wp2_with fail
        refine (hry _ hO).mono ?_
        rintro e Vn ⟨rfl, hb1⟩
        replace hb := hb.trans (hb1.mono hb.size)
        replace x0 := x0.below hb1
        replace y0 := y0.below hb1
        replace z0 := z0.below hb1
        replace hO := hO.below hb1 (Nat.le_refl _)
        clear hb1 c0 c1 c2 c3 c4 d0 d1 d2 e0 e1 e2 e3 e4
        have c0 := x0.cell 0 rfl; have c1 := x0.cell 1 rfl; have c2 := x0.cell 2 rfl; have c3 := x0.cell 3 rfl; have c4 := x0.cell 4 rfl; have e0 := z0.cell 0 rfl; have e1 := z0.cell 1 rfl; have e2 := z0.cell 2 rfl; have e3 := z0.cell 3 rfl; have e4 := z0.cell 4 rfl; have d0 := y0.cell 0 rfl; have d1 := y0.cell 1 rfl; have d2 := y0.cell 2 rfl
        go_wp2_with fail
        refine (hW _).mono ?_
        rintro e Vw ⟨rfl, hb1⟩
        replace hb := hb.trans (hb1.mono hb.size)
        go_wp2
        go_ret
        exact ⟨rfl, hb⟩
      · have hry := fun V h => ready_any oab oast oae oak ocb ocs oce ock Y V h
        rw [hrY] at hry
        have hvY := (rdB_iff hrY).1
        have hbe0 := earn_le (vz_ok HOK.out) (bestP X.vz)
        have hlb := (HOK.out.b3 b hbn).1
        have hbeX := fun V h => Best_ok ab ast ae ak cb cs ce ck X V h hv
        have hbeY := fun V h => Best_ok oab oast oae oak ocb ocs oce ock Y V h hvY
        rw [hYv, shf_bestE hsh, now_cnt HOK.out hbn] at hbeY
        obtain ⟨L, hL⟩ : ∃ L, L = keepL (alwP X.vz) := ⟨_, rfl⟩
        have halX := fun V h => Always_ok ab ast ae ak cb cs ce ck X V h hv L hL
        have halY := fun V h => Always_ok oab oast oae oak ocb ocs oce ock Y V h hvY L (by rw [hYv, shf_alw hsh]; exact hL)
        obtain ⟨cv, ce', hcX, hcY⟩ := copy_two hv hvY (by rw [HYD.out]; rfl) (fun t => by rw [hYv]; exact moved_copy HOK.out hbn t) xt
        generalize earn X.vz (bestP X.vz) = be at *
        obtain ⟨lb, hlbd⟩ : ∃ lb, lb = (X.bs.getD b []).length := ⟨_, rfl⟩
        rw [← hlbd] at hbeY hlb
        have hkm0 : 0 ≤ xk * (lb : Int) := Int.mul_nonneg k0 (by omega)
        have hkm1 : xk * (lb : Int) ≤ 999 * 3 := Int.mul_le_mul k9 (by omega) (by omega) (by omega)
        obtain ⟨km, hkm⟩ : ∃ km, km = xk * (lb : Int) := ⟨_, rfl⟩
        rw [← hkm] at hbeY hkm0 hkm1
        have hwm : IntKind.i64.wrap (xk * (lb : Int)) = km := by rw [← hkm]; exact IntWalk.i64_in _ (by omega)
        have hwa : IntKind.i64.wrap (be + km) = be + km := IntWalk.i64_in _ (by omega)
        have HLB := hid hlbd
        clear hrY hvY hYv hsh hL HYD hkm hlbd hkm0 hkm1 hbe0 hlb
        go_wp2_with fail
        refine (hry _ hO).mono ?_
        rintro e Vn ⟨rfl, hb1⟩
        replace hb := hb.trans (hb1.mono hb.size)
        replace x0 := x0.below hb1
        replace y0 := y0.below hb1
        replace z0 := z0.below hb1
        replace hO := hO.below hb1 (Nat.le_refl _)
        clear hb1 c0 c1 c2 c3 c4 d0 d1 d2 e0 e1 e2 e3 e4
        have c0 := x0.cell 0 rfl; have c1 := x0.cell 1 rfl; have c2 := x0.cell 2 rfl; have c3 := x0.cell 3 rfl; have c4 := x0.cell 4 rfl; have e0 := z0.cell 0 rfl; have e1 := z0.cell 1 rfl; have e2 := z0.cell 2 rfl; have e3 := z0.cell 3 rfl; have e4 := z0.cell 4 rfl; have d0 := y0.cell 0 rfl; have d1 := y0.cell 1 rfl; have d2 := y0.cell 2 rfl
        go_wp2_with fail
        refine (hbeX _ (hgX _ hb)).mono ?_
        rintro e Vn ⟨rfl, hb1⟩
        replace hb := hb.trans (hb1.mono hb.size)
        replace x0 := x0.below hb1
        replace y0 := y0.below hb1
        replace z0 := z0.below hb1
        replace hO := hO.below hb1 (Nat.le_refl _)
        clear hb1 c0 c1 c2 c3 c4 d0 d1 d2 e0 e1 e2 e3 e4
        have c0 := x0.cell 0 rfl; have c1 := x0.cell 1 rfl; have c2 := x0.cell 2 rfl; have c3 := x0.cell 3 rfl; have c4 := x0.cell 4 rfl; have e0 := z0.cell 0 rfl; have e1 := z0.cell 1 rfl; have e2 := z0.cell 2 rfl; have e3 := z0.cell 3 rfl; have e4 := z0.cell 4 rfl; have d0 := y0.cell 0 rfl; have d1 := y0.cell 1 rfl; have d2 := y0.cell 2 rfl
        go_wp2_with fail
        refine (hbeY _ hO).mono ?_
        rintro e Vn ⟨rfl, hb1⟩
        replace hb := hb.trans (hb1.mono hb.size)
        replace x0 := x0.below hb1
        replace y0 := y0.below hb1
        replace z0 := z0.below hb1
        replace hO := hO.below hb1 (Nat.le_refl _)
        clear hb1 c0 c1 c2 c3 c4 d0 d1 d2 e0 e1 e2 e3 e4
        have c0 := x0.cell 0 rfl; have c1 := x0.cell 1 rfl; have c2 := x0.cell 2 rfl; have c3 := x0.cell 3 rfl; have c4 := x0.cell 4 rfl; have e0 := z0.cell 0 rfl; have e1 := z0.cell 1 rfl; have e2 := z0.cell 2 rfl; have e3 := z0.cell 3 rfl; have e4 := z0.cell 4 rfl; have d0 := y0.cell 0 rfl; have d1 := y0.cell 1 rfl; have d2 := y0.cell 2 rfl
        go_wp2_with fail
        refine (halX _ (hgX _ hb)).mono ?_
        rintro e Vn ⟨hb1, p1, pc1, rfl, hP1⟩
        replace hb := hb.trans (hb1.mono hb.size)
        replace x0 := x0.below hb1
        replace y0 := y0.below hb1
        replace z0 := z0.below hb1
        replace hO := hO.below hb1 (Nat.le_refl _)
        clear hb1 c0 c1 c2 c3 c4 d0 d1 d2 e0 e1 e2 e3 e4
        have c0 := x0.cell 0 rfl; have c1 := x0.cell 1 rfl; have c2 := x0.cell 2 rfl; have c3 := x0.cell 3 rfl; have c4 := x0.cell 4 rfl; have e0 := z0.cell 0 rfl; have e1 := z0.cell 1 rfl; have e2 := z0.cell 2 rfl; have e3 := z0.cell 3 rfl; have e4 := z0.cell 4 rfl; have d0 := y0.cell 0 rfl; have d1 := y0.cell 1 rfl; have d2 := y0.cell 2 rfl
        go_wp2_with fail
        refine (halY _ hO).mono ?_
        rintro e Vn ⟨hb1, p2, pc2, rfl, hP2⟩
        replace hb := hb.trans (hb1.mono hb.size)
        replace x0 := x0.below hb1
        replace y0 := y0.below hb1
        replace z0 := z0.below hb1
        replace hO := hO.below hb1 (Nat.le_refl _)
        replace hP1 := hP1.below hb1 (Nat.le_refl _)
        clear hb1 c0 c1 c2 c3 c4 d0 d1 d2 e0 e1 e2 e3 e4
        have c0 := x0.cell 0 rfl; have c1 := x0.cell 1 rfl; have c2 := x0.cell 2 rfl; have c3 := x0.cell 3 rfl; have c4 := x0.cell 4 rfl; have e0 := z0.cell 0 rfl; have e1 := z0.cell 1 rfl; have e2 := z0.cell 2 rfl; have e3 := z0.cell 3 rfl; have e4 := z0.cell 4 rfl; have d0 := y0.cell 0 rfl; have d1 := y0.cell 1 rfl; have d2 := y0.cell 2 rfl
        go_wp2_with fail
        refine (hcX _ _ _ _ _ _ _ _ _ (hgX _ hb)).mono ?_
        rintro e Vn ⟨rfl, hb1⟩
        replace hb := hb.trans (hb1.mono hb.size)
        replace x0 := x0.below hb1
        replace y0 := y0.below hb1
        replace z0 := z0.below hb1
        replace hO := hO.below hb1 (Nat.le_refl _)
        replace hP1 := hP1.below hb1 (Nat.le_refl _)
        replace hP2 := hP2.below hb1 (Nat.le_refl _)
        clear hb1 c0 c1 c2 c3 c4 d0 d1 d2 e0 e1 e2 e3 e4
        have c0 := x0.cell 0 rfl; have c1 := x0.cell 1 rfl; have c2 := x0.cell 2 rfl; have c3 := x0.cell 3 rfl; have c4 := x0.cell 4 rfl; have e0 := z0.cell 0 rfl; have e1 := z0.cell 1 rfl; have e2 := z0.cell 2 rfl; have e3 := z0.cell 3 rfl; have e4 := z0.cell 4 rfl; have d0 := y0.cell 0 rfl; have d1 := y0.cell 1 rfl; have d2 := y0.cell 2 rfl
        go_wp2_with fail
        refine (hcY _ _ _ _ _ _ _ _ _ hO).mono ?_
        rintro e Vn ⟨rfl, hb1⟩
        replace hb := hb.trans (hb1.mono hb.size)
        replace x0 := x0.below hb1
        replace y0 := y0.below hb1
        replace z0 := z0.below hb1
        replace hO := hO.below hb1 (Nat.le_refl _)
        replace hP1 := hP1.below hb1 (Nat.le_refl _)
        replace hP2 := hP2.below hb1 (Nat.le_refl _)
        clear hb1 c0 c1 c2 c3 c4 d0 d1 d2 e0 e1 e2 e3 e4
        have c0 := x0.cell 0 rfl; have c1 := x0.cell 1 rfl; have c2 := x0.cell 2 rfl; have c3 := x0.cell 3 rfl; have c4 := x0.cell 4 rfl; have e0 := z0.cell 0 rfl; have e1 := z0.cell 1 rfl; have e2 := z0.cell 2 rfl; have e3 := z0.cell 3 rfl; have e4 := z0.cell 4 rfl; have d0 := y0.cell 0 rfl; have d1 := y0.cell 1 rfl; have d2 := y0.cell 2 rfl
        obtain ⟨bb, ob, ab', cb', hab, hbbl, hcb, _⟩ := (hgX _ hb).1.at (k := b) hbn
        rw [← HLB.out] at hcb
        have f1 := fun t => Ext.cell hcb t
        have f2 := x0.ext 0 rfl
        have f3 := y0.ext 0 rfl
        have f4 := y0.ext 1 rfl
        have hsk := fun (t : Ext Vn) => SameKeeps_eq p1 p2 pc1 pc2 L t.w (hP1.below t.below (Nat.le_refl _)) (hP2.below t.below (Nat.le_refl _))
        clear hbeX hbeY halX halY hcX hcY hry hO hP1 hP2 z0 x0 y0 hgX hcb
        go_upto_region 16 with fail
        clear c0 c1 c2 c3 c4 d0 d1 d2 e0 e1 e2 e3 e4
        refine wp_region_ext_lit (by kernel_rfl) (by kernel_rfl) ?_
        repeat (quiet_step (first | (go_at_call 34; exact quiet_ext (hsk _)) | (go_at_call 14; exact quiet_ext (hW _))))
        refine wpQuiet_nil ?_
        intro _ hw'
        obtain ⟨t, rfl⟩ := hw'
        go_wp2
        go_ret
        exact ⟨rfl, hb.trans (t.below.mono hb.size)⟩

theorem swapsMoved_row (ab ast ae ak : Option Addr) (cb cs ce ck : Nat) (X : Sw) (xb xk xt : Int) (w : World) (hX : SwIn w ab ast ae ak X) : Calls Try.prog 9 #[.agg #[.slice ab X.bs.length cb, .slice ast X.st.length cs, .slice ae X.er.length ce, .slice ak X.ks.length ck, .int .i64 X.ch], .agg #[.int .i64 xb, .int .i64 xk, .int .i64 xt]] w fun e w' => e = .returned (.bool true) ∧ Below w.heap.size w w' := by
  by_cases hk : X.ks.length ≤ 1000
  · have hs := hX.swp hk
    by_cases h : rdB X = true ∧ 0 ≤ xb ∧ xb < (X.bs.length : Int) ∧ 0 ≤ xk ∧ xk ≤ 999
    · obtain ⟨b, rfl⟩ := Int.eq_ofNat_of_zero_le h.2.1
      exact swapsMoved_any ab ast ae ak cb cs ce ck X b xk xt w hs h.1 (by omega) h.2.2.2.1 h.2.2.2.2
    · exact Moved_bad ab ast ae ak cb cs ce ck X xb xk xt w (rdB X) (fun V hV => ready_any ab ast ae ak cb cs ce ck X V (hs.below hV (Nat.le_refl _))) h
  · exact Moved_bad ab ast ae ak cb cs ce ck X xb xk xt w false (fun V hV => ready_huge ab ast ae ak cb cs ce ck X V (hX.below hV (Nat.le_refl _)) (by omega)) (fun h => by cases h.1)
end Go.Proofs.Ytipdohpbilabiaa
