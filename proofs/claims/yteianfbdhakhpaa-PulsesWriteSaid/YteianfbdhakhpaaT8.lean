import Derived.Test.YteianfbdhakhpaaT6
import Derived.ArgAppend
import Derived.RangeFuncBound
import Derived.Shelf.Abstract
import Derived.Shelf.RegionOpen
import Derived.OwnWalkIn
import Derived.TacticsInMore
import Derived.LoopNIn
import Derived.LoopIn
/-! The list of clean pulses. -/
namespace Go.Proofs.Yteianfbdhakhpaa
set_option linter.unusedSimpArgs false
set_option linter.unusedVariables false
open Go Go.RowKit

theorem prt_mem (d : Int) : ∀ (r cur : List Int), ∀ p ∈ prt d cur r, ∀ x ∈ p, x ∈ cur ∨ x ∈ r
  | [], _, p, h, _, _ => by simp [prt] at h
  | [y], cur, p, h, x, hx => by
    simp only [prt, List.mem_singleton] at h
    subst h
    simpa using hx
  | y :: z :: r, cur, p, h, x, hx => by
    rw [prt] at h
    split at h
    · rcases List.mem_cons.1 h with rfl | h
      · rcases List.mem_append.1 hx with h' | h'
        · exact .inl h'
        · rw [List.mem_singleton.1 h']; exact .inr (by simp)
      · rcases prt_mem d (z :: r) [] p h x hx with h' | h'
        · simp at h'
        · exact .inr (List.mem_cons_of_mem _ h')
    · rcases prt_mem d (z :: r) (cur ++ [y]) p h x hx with h' | h'
      · rcases List.mem_append.1 h' with h' | h'
        · exact .inl h'
        · rw [List.mem_singleton.1 h']; exact .inr (by simp)
      · exact .inr (List.mem_cons_of_mem _ h')
/-- What a part of times is. -/
theorem prtL_all {d : Int} {l p : List Int} (h : p ∈ prtL d l) : 1 ≤ p.length ∧ p.length ≤ l.length ∧ ∀ x ∈ p, x ∈ l := by
  obtain ⟨h1, h2⟩ := prt_sum d l [] p h
  refine ⟨List.length_pos_iff.2 h2, by simpa using h1, fun x hx => ?_⟩
  rcases prt_mem d l [] p h x hx with h' | h'
  · simp at h'
  · exact h'
theorem selO_ne {X : Pu} {p : List Int} (h : (prtL X.ga p).length ≠ 2) : selO X p = none := by
  unfold selO
  split
  next g0 g1 e => rw [e] at h; simp at h
  next => rfl
theorem selO_two {X : Pu} {p g0 g1 : List Int} (h : prtL X.ga p = [g0, g1]) : selO X p = if grB X g0 X.l && grB X g1 X.n then some (((g0.length : Int) - 1) * X.n + ((g1.length : Int) - 1)) else none := by
  unfold selO; rw [h]
theorem lofA_none {X : Pu} {p : List Int} {ps : List (List Int)} {acc : List Int} (h : selO X p = none) : lofA X (p :: ps) acc = none := by rw [lofA, h]
theorem lofA_some {X : Pu} {p : List Int} {ps : List (List Int)} {acc : List Int} {v : Int} (h : selO X p = some v) : lofA X (p :: ps) acc = lofA X ps (acc ++ [v]) := by rw [lofA, h]
theorem list_two {α : Type} {l : List α} (h : l.length = 2) : ∃ a b, l = [a, b] := by
  rcases l with _ | ⟨a, _ | ⟨b, _ | ⟨c, r⟩⟩⟩
  · simp at h
  · simp at h
  · exact ⟨a, b, rfl⟩
  · simp at h
/-- What listOf hands back. -/
def LoP (o : Option (List Int)) (w : World) (e : Ending) (w' : World) : Prop :=
  Below w.heap.size w w' ∧ ((o = none ∧ e = .returned (.tuple #[.slice none 0 0, .bool false])) ∨ ∃ (L : List Int) (a : Option Addr) (c : Nat), o = some L ∧ e = .returned (.tuple #[.slice a L.length c, .bool true]) ∧ Iz w.heap.size w' a L)

set_option maxRecDepth 100000 in
set_option maxHeartbeats 6000000 in
theorem listOf_any (aT : Option Addr) (cT : Nat) (X : Pu) (ok : POk X) (a : Option Addr) (c : Nat) (l : List Int) (w : World) (hI : Ints w a l) (h24 : l.length ≤ 24) (hcap : l.length ≤ c) (hcm : c ≤ 9223372036854775807) (hr : ∀ x ∈ l, 0 ≤ x ∧ x ≤ 99999) : Calls Try.prog 83 #[.agg #[.int .i64 X.l, .int .i64 X.n, .int .i64 X.pi, .int .i64 X.sl, .int .i64 X.ga, .int .i64 X.pa, .int .i64 X.sp, .slice aT X.ts.length cT], .slice a l.length c] w (LoP (lof X l) w) := by
  obtain ⟨j0, hj0, jz0, jz1, jz2⟩ := info_parts info3i
  obtain ⟨W, hW, hb, _, x0⟩ := boxes1 w #[.int .i64 X.l, .int .i64 X.n, .int .i64 X.pi, .int .i64 X.sl, .int .i64 X.ga, .int .i64 X.pa, .int .i64 X.sp, .slice aT X.ts.length cT] 24
  have hp1 := parts_any a c l X.pa W (hI.below hb (Nat.le_refl _)) h24 hcap hcm hr
  have hpl : (prtL X.pa l).length ≤ l.length := prt_len X.pa l []
  have HPA := hid (show ∀ (k : Nat) (p : List Int), (prtL X.pa l)[k]? = some p → 1 ≤ p.length ∧ p.length ≤ 24 ∧ ∀ x ∈ p, 0 ≤ x ∧ x ≤ 99999 from fun k p h => by
    obtain ⟨q1, q2, q3⟩ := prtL_all (List.mem_of_getElem? h)
    exact ⟨q1, by omega, fun x hx => hr x (q3 x hx)⟩)
  have HOK := hid ok
  have HLO := hid (show lof X l = lofA X ((prtL X.pa l).drop 0) [] from rfl)
  have HRG := hid (show ∀ L, lof X l = some L → L.length ≤ 24 ∧ ∀ v ∈ L, -9223372036854775808 ≤ v ∧ v ≤ 9223372036854775807 from fun L h => by
    obtain ⟨q1, q2⟩ := lof_rng ok h
    exact ⟨by omega, fun v hv => by have := q2 v hv; omega⟩)
  have HSV := hid (show ∀ p v, selO X p = some v → 0 ≤ v ∧ v ≤ 24 from fun p v h => by have := selO_rng ok h; omega)
  have hXl := ok.l; have hXn := ok.n
  obtain ⟨O, hO⟩ : ∃ O, O = lof X l := ⟨_, rfl⟩
  rw [← hO] at HLO HRG ⊢
  obtain ⟨PS, hPS⟩ : ∃ PS, PS = prtL X.pa l := ⟨_, rfl⟩
  rw [← hPS] at hp1 hpl HPA HLO
  obtain ⟨m, hm⟩ : ∃ m, m = PS.length := ⟨_, rfl⟩
  rw [← hm] at hp1 hpl
  have HM := hid hm
  generalize l.length = n at *
  obtain ⟨nT, hnT⟩ : ∃ nT, nT = X.ts.length := ⟨_, rfl⟩
  rw [← hnT] at x0 hW ⊢
  have HNT := hid hnT
  clear hO hPS hm hI hr ok hnT
  have c0 := x0.cell 0 rfl; have c1 := x0.cell 1 rfl; have c2 := x0.cell 2 rfl; have c3 := x0.cell 3 rfl; have c4 := x0.cell 4 rfl; have c5 := x0.cell 5 rfl; have c6 := x0.cell 6 rfl; have c7 := x0.cell 7 rfl
  go_enter Try.func83, Try.ntmps83
  go_wp2_with fail
  refine hp1.mono ?_
  rintro e W1 ⟨hb1, a1, c1', rfl, hL1⟩
  clear c0 c1 c2 c3 c4 c5 c6 c7
  replace x0 := x0.below hb1
  replace hb := hb.trans (hb1.mono hb.size)
  clear hb1 hp1 hW
  go_wp2_with fail
  go_loopw [4, 7, 8, 9, 10, 16] (fun v4 v7 v8 v9 v10 v16 wr => ∃ (k p : Nat) (aa : Option Addr) (ca : Nat) (acc : List Int), k ≤ m ∧ v16 = .int .i64 (k : Int) ∧ v4 = .slice aa p ca ∧ p ≤ k ∧ Hid (p = acc.length ∧ O = lofA X (PS.drop k) acc) ∧ wr.ownsRow W1.heap.size 3 1 (.slice aa p ca) p (acc.map (Value.int .i64)) ∧ Below W1.heap.size W1 wr) (fun _ _ _ _ _ v16 _ => m - (intOf v16).toNat)
  case atStart => exact ⟨0, 0, none, 0, [], Nat.zero_le _, rfl, rfl, Nat.le_refl _, hid ⟨rfl, HLO.out⟩, World.ownsRow_nil _ _ _ _, Below.refl _ _⟩
  case round =>
    obtain ⟨k, p, aa, ca, acc, hk, rfl, rfl, hpk, HP, hown, hbr⟩ := hrel
    by_cases hlt : k < m
    · obtain ⟨part, hpart⟩ : ∃ part, PS[k]? = some part := ⟨PS[k]'(by rw [← HM.out]; exact hlt), List.getElem?_eq_getElem _⟩
      obtain ⟨b1, o1, a2, c2', rfl, hb1lt, hcell, hlen2, hcm2, hI2⟩ := (hL1.below hbr (Nat.le_refl _)) k part hpart
      obtain ⟨hp1', hp24, hprg⟩ := HPA.out k part hpart
      have hdk : PS.drop k = part :: PS.drop (k + 1) := by
        rw [List.drop_eq_getElem_cons (show k < PS.length by rw [← HM.out]; exact hlt)]
        rw [List.getElem?_eq_getElem (show k < PS.length by rw [← HM.out]; exact hlt)] at hpart
        injection hpart with e; rw [e]
      have hO2 := HP.out.2
      rw [hdk] at hO2
      have hkI : (k : Int) < m := by omega
      have hk0 : (0 : Int) ≤ (k : Int) := by omega
      have hq := parts_any a2 c2' part X.ga wr hI2 hp24 hlen2 hcm2 hprg
      have HGA := hid (show ∀ (j : Nat) (g : List Int), (prtL X.ga part)[j]? = some g → 1 ≤ g.length ∧ g.length ≤ 24 ∧ ∀ x ∈ g, 0 ≤ x ∧ x ≤ 99999 from fun j g h => by
        obtain ⟨q1, q2, q3⟩ := prtL_all (List.mem_of_getElem? h)
        exact ⟨q1, by omega, fun x hx => hprg x (q3 x hx)⟩)
      have HNE := hid (show (prtL X.ga part).length ≠ 2 → O = none from fun h => by rw [hO2, lofA_none (selO_ne h)])
      have HTW := hid (show ∀ g0 g1, prtL X.ga part = [g0, g1] → (grB X g0 X.l && grB X g1 X.n) = false → O = none from fun g0 g1 h h' => by
        rw [hO2, lofA_none (by rw [selO_two h, h']; rfl)])
      have HTY := hid (show ∀ g0 g1, prtL X.ga part = [g0, g1] → (grB X g0 X.l && grB X g1 X.n) = true → (0 ≤ ((g0.length : Int) - 1) * X.n + ((g1.length : Int) - 1) ∧ ((g0.length : Int) - 1) * X.n + ((g1.length : Int) - 1) ≤ 24) ∧ O = lofA X (PS.drop (k + 1)) (acc ++ [((g0.length : Int) - 1) * X.n + ((g1.length : Int) - 1)]) from fun g0 g1 h h' => by
        have hs : selO X part = some (((g0.length : Int) - 1) * X.n + ((g1.length : Int) - 1)) := by rw [selO_two h, h']; rfl
        exact ⟨HSV.out _ _ hs, by rw [hO2, lofA_some hs]⟩)
      obtain ⟨GG, hGG⟩ : ∃ GG, GG = prtL X.ga part := ⟨_, rfl⟩
      rw [← hGG] at hq HGA HNE HTW HTY
      have hgl : GG.length ≤ 24 := by rw [hGG]; exact Nat.le_trans (prt_len X.ga part []) hp24
      obtain ⟨ng, hng⟩ : ∃ ng, ng = GG.length := ⟨_, rfl⟩
      rw [← hng] at hq HNE hgl
      have HNG := hid hng
      have xr := x0.below hbr
      have hw := hb.trans (hbr.mono hb.size)
      obtain ⟨np, hnp⟩ : ∃ np, np = part.length := ⟨_, rfl⟩
      rw [← hnp] at hcell hq
      have HPL1 := hid HP.out.1
      clear hpart hdk hO2 hGG hng hI2 hprg hnp hp1' hp24
      have c0 := xr.cell 0 rfl; have c1 := xr.cell 1 rfl; have c2 := xr.cell 2 rfl; have c3 := xr.cell 3 rfl; have c4 := xr.cell 4 rfl; have c5 := xr.cell 5 rfl; have c6 := xr.cell 6 rfl; have c7 := xr.cell 7 rfl
      go_wp2_with fail
      refine hq.mono ?_
      rintro e V2 ⟨hb2, a3, c3', rfl, hL3⟩
      clear c0 c1 c2 c3 c4 c5 c6 c7 hq hcell
      replace xr := xr.below hb2
      have hown2 := own_below2 hown hb2
      have hbr2 := hbr.trans (hb2.mono hbr.size)
      replace hw := hw.trans (hb2.mono hw.size)
      clear hb2 hown
      go_upto_region 5 with fail
      by_cases hng2 : ng = 2
      rotate_left
      · have hne : ((ng : Int) != 2) = true := by rw [bne_iff_ne]; omega
        have HNO := hid (HNE.out hng2)
        clear HNE HTW HTY HGA hng2
        have S0 : BlS V2 V2.drew := (Below.refl V2.heap.size V2).drew
        refine wp_region_head 22 (fun w' => BlS V2 w') (by kernel_rfl) rfl ?_
        generalize V2.drew = Y0 at *
        refine HeadAt.take (i := 0) (.slice a3 ng c3') rfl (by kernel_rfl) (.inl ⟨rfl, fun _ _ => by simp [go_sem]⟩) S0 ?_
        (try simp only [Act.put, List.getElem_toArray, List.getElem_cons_succ, List.getElem_cons_zero, List.setIfInBounds_toArray, List.set_cons_succ, List.set_cons_zero])
        refine HeadAt.take (i := 1) (.int .i64 (ng : Int)) rfl (by kernel_rfl) (.inl ⟨rfl, fun _ _ => by simp [go_sem]⟩) S0 ?_
        (try simp only [Act.put, List.getElem_toArray, List.getElem_cons_succ, List.getElem_cons_zero, List.setIfInBounds_toArray, List.set_cons_succ, List.set_cons_zero])
        refine HeadAt.take (i := 2) (.bool true) rfl (by kernel_rfl) (.inl ⟨rfl, fun w' z => ?_⟩) S0 ?_
        · (simp [go_sem, hne])
        (try simp only [Act.put, List.getElem_toArray, List.getElem_cons_succ, List.getElem_cons_zero, List.setIfInBounds_toArray, List.set_cons_succ, List.set_cons_zero])
        refine HeadAt.take (i := 3) (.bool true) rfl (by kernel_rfl) (.inl ⟨rfl, fun _ _ => by simp [go_sem]⟩) S0 ?_
        (try simp only [Act.put, List.getElem_toArray, List.getElem_cons_succ, List.getElem_cons_zero, List.setIfInBounds_toArray, List.set_cons_succ, List.set_cons_zero])
        refine HeadAt.take (i := 4) undef rfl (by kernel_rfl) (.inr ⟨by kernel_rfl, rfl⟩) S0 ?_
        (try simp only [Act.put, List.getElem_toArray, List.getElem_cons_succ, List.getElem_cons_zero, List.setIfInBounds_toArray, List.set_cons_succ, List.set_cons_zero])
        refine HeadAt.take (i := 5) undef rfl (by kernel_rfl) (.inr ⟨by kernel_rfl, rfl⟩) S0 ?_
        (try simp only [Act.put, List.getElem_toArray, List.getElem_cons_succ, List.getElem_cons_zero, List.setIfInBounds_toArray, List.set_cons_succ, List.set_cons_zero])
        refine HeadAt.take (i := 6) undef rfl (by kernel_rfl) (.inr ⟨by kernel_rfl, rfl⟩) S0 ?_
        (try simp only [Act.put, List.getElem_toArray, List.getElem_cons_succ, List.getElem_cons_zero, List.setIfInBounds_toArray, List.set_cons_succ, List.set_cons_zero])
        refine HeadAt.take (i := 7) undef rfl (by kernel_rfl) (.inr ⟨by kernel_rfl, rfl⟩) S0 ?_
        (try simp only [Act.put, List.getElem_toArray, List.getElem_cons_succ, List.getElem_cons_zero, List.setIfInBounds_toArray, List.set_cons_succ, List.set_cons_zero])
        refine HeadAt.take (i := 8) undef rfl (by kernel_rfl) (.inr ⟨by kernel_rfl, rfl⟩) S0 ?_
        (try simp only [Act.put, List.getElem_toArray, List.getElem_cons_succ, List.getElem_cons_zero, List.setIfInBounds_toArray, List.set_cons_succ, List.set_cons_zero])
        refine HeadAt.take (i := 9) undef rfl (by kernel_rfl) (.inr ⟨by kernel_rfl, rfl⟩) S0 ?_
        (try simp only [Act.put, List.getElem_toArray, List.getElem_cons_succ, List.getElem_cons_zero, List.setIfInBounds_toArray, List.set_cons_succ, List.set_cons_zero])
        refine HeadAt.take (i := 10) undef rfl (by kernel_rfl) (.inr ⟨by kernel_rfl, rfl⟩) S0 ?_
        (try simp only [Act.put, List.getElem_toArray, List.getElem_cons_succ, List.getElem_cons_zero, List.setIfInBounds_toArray, List.set_cons_succ, List.set_cons_zero])
        refine HeadAt.take (i := 11) undef rfl (by kernel_rfl) (.inr ⟨by kernel_rfl, rfl⟩) S0 ?_
        (try simp only [Act.put, List.getElem_toArray, List.getElem_cons_succ, List.getElem_cons_zero, List.setIfInBounds_toArray, List.set_cons_succ, List.set_cons_zero])
        refine HeadAt.take (i := 12) (.bool true) rfl (by kernel_rfl) (.inl ⟨rfl, fun _ _ => by simp [go_sem]⟩) S0 ?_
        (try simp only [Act.put, List.getElem_toArray, List.getElem_cons_succ, List.getElem_cons_zero, List.setIfInBounds_toArray, List.set_cons_succ, List.set_cons_zero])
        refine HeadAt.take (i := 13) (.bool true) rfl (by kernel_rfl) (.inl ⟨rfl, fun _ _ => by simp [go_sem]⟩) S0 ?_
        (try simp only [Act.put, List.getElem_toArray, List.getElem_cons_succ, List.getElem_cons_zero, List.setIfInBounds_toArray, List.set_cons_succ, List.set_cons_zero])
        refine HeadAt.take (i := 14) undef rfl (by kernel_rfl) (.inr ⟨by kernel_rfl, rfl⟩) S0 ?_
        (try simp only [Act.put, List.getElem_toArray, List.getElem_cons_succ, List.getElem_cons_zero, List.setIfInBounds_toArray, List.set_cons_succ, List.set_cons_zero])
        refine HeadAt.take (i := 15) undef rfl (by kernel_rfl) (.inr ⟨by kernel_rfl, rfl⟩) S0 ?_
        (try simp only [Act.put, List.getElem_toArray, List.getElem_cons_succ, List.getElem_cons_zero, List.setIfInBounds_toArray, List.set_cons_succ, List.set_cons_zero])
        refine HeadAt.take (i := 16) undef rfl (by kernel_rfl) (.inr ⟨by kernel_rfl, rfl⟩) S0 ?_
        (try simp only [Act.put, List.getElem_toArray, List.getElem_cons_succ, List.getElem_cons_zero, List.setIfInBounds_toArray, List.set_cons_succ, List.set_cons_zero])
        refine HeadAt.take (i := 17) undef rfl (by kernel_rfl) (.inr ⟨by kernel_rfl, rfl⟩) S0 ?_
        (try simp only [Act.put, List.getElem_toArray, List.getElem_cons_succ, List.getElem_cons_zero, List.setIfInBounds_toArray, List.set_cons_succ, List.set_cons_zero])
        refine HeadAt.take (i := 18) undef rfl (by kernel_rfl) (.inr ⟨by kernel_rfl, rfl⟩) S0 ?_
        (try simp only [Act.put, List.getElem_toArray, List.getElem_cons_succ, List.getElem_cons_zero, List.setIfInBounds_toArray, List.set_cons_succ, List.set_cons_zero])
        refine HeadAt.take (i := 19) undef rfl (by kernel_rfl) (.inr ⟨by kernel_rfl, rfl⟩) S0 ?_
        (try simp only [Act.put, List.getElem_toArray, List.getElem_cons_succ, List.getElem_cons_zero, List.setIfInBounds_toArray, List.set_cons_succ, List.set_cons_zero])
        refine HeadAt.take (i := 20) undef rfl (by kernel_rfl) (.inr ⟨by kernel_rfl, rfl⟩) S0 ?_
        (try simp only [Act.put, List.getElem_toArray, List.getElem_cons_succ, List.getElem_cons_zero, List.setIfInBounds_toArray, List.set_cons_succ, List.set_cons_zero])
        refine HeadAt.take (i := 21) undef rfl (by kernel_rfl) (.inr ⟨by kernel_rfl, rfl⟩) S0 ?_
        (try simp only [Act.put, List.getElem_toArray, List.getElem_cons_succ, List.getElem_cons_zero, List.setIfInBounds_toArray, List.set_cons_succ, List.set_cons_zero])
        refine HeadAt.done (by kernel_rfl) ?_
        (try simp only [Act.put, List.drop_succ_cons, List.drop_zero, List.getElem_toArray, List.getElem_cons_succ, List.getElem_cons_zero])
        go_wp2_with fail
        refine NoPanic.normal ?_
        replace hw := hw.trans (Below.mono S0 hw.size)
        clear S0 hown2
        go_wp2
        go_ret2
        exact ⟨hw, .inl ⟨HNO.out, rfl⟩⟩
      have hne : ((ng : Int) != 2) = false := by rw [hng2]; rfl
      have hi0 : (0 : Int) < (ng : Int) := by omega
      have hi1 : (1 : Int) < (ng : Int) := by omega
      have hz0 : ¬ ng = 0 := by omega
      have hz1 : 1 < ng := by omega
      obtain ⟨g0, g1, hgg⟩ := list_two (l := GG) (by rw [← HNG.out]; exact hng2)
      obtain ⟨b2, o2, a4, c4', ha3, hltg, hg0, hgl0, hgc0, hgI0⟩ := hL3 0 g0 (by rw [hgg]; rfl)
      obtain ⟨b3, o3, a5, c5', ha3', hltg', hg1, hgl1, hgc1, hgI1⟩ := hL3 1 g1 (by rw [hgg]; rfl)
      rw [ha3] at ha3'
      simp only [Option.some.injEq, Addr.mk.injEq, and_true] at ha3'
      obtain ⟨rfl, rfl⟩ := ha3'
      subst ha3
      obtain ⟨k01, k02, k03⟩ := HGA.out 0 g0 (by rw [hgg]; rfl)
      obtain ⟨k11, k12, k13⟩ := HGA.out 1 g1 (by rw [hgg]; rfl)
      obtain ⟨d0, e0, -, rfl, -⟩ := hgI0.at (k := 0) (by omega)
      obtain ⟨d1, e1, -, rfl, -⟩ := hgI1.at (k := 0) (by omega)
      have hc0 : ∀ V, BlS V2 V → _ := fun V h => isGroup_any aT cT X HOK.out d0 e0 c4' g0 X.l V (hgI0.below h (Nat.le_refl _)) k01 k02 hgl0 hgc0 k03
      have hc1 : ∀ V, BlS V2 V → _ := fun V h => isGroup_any aT cT X HOK.out d1 e1 c5' g1 X.n V (hgI1.below h (Nat.le_refl _)) k11 k12 hgl1 hgc1 k13
      clear hng2
      have htw := HTW.out g0 g1 hgg
      have hty := HTY.out g0 g1 hgg
      rw [← HNT.out] at hc0 hc1
      generalize grB X g0 X.l = G0 at *
      generalize grB X g1 X.n = G1 at *
      obtain ⟨n0, hn0⟩ : ∃ n0, n0 = g0.length := ⟨_, rfl⟩
      rw [← hn0] at hg0 hc0 k01 k02 hty
      obtain ⟨n1, hn1⟩ : ∃ n1, n1 = g1.length := ⟨_, rfl⟩
      rw [← hn1] at hg1 hc1 k11 k12 hty
      have hg0c : ClB V2 b2 o2 (.slice (some ⟨d0, e0, none⟩) n0 c4') := ⟨by simpa using hg0, hltg⟩
      have hg1c : ClB V2 b2 (o2 + 1) (.slice (some ⟨d1, e1, none⟩) n1 c5') := ⟨hg1, hltg⟩
      obtain ⟨r0, hr0⟩ : ∃ r0, r0 = c4' := ⟨_, rfl⟩
      rw [← hr0] at hg0c hc0
      obtain ⟨r1, hr1⟩ : ∃ r1, r1 = c5' := ⟨_, rfl⟩
      rw [← hr1] at hg1c hc1
      have HTW2 := hid htw
      have HTY2 := hid hty
      clear HNE HTW HTY HGA hg0 hg1 hgI0 hgI1 k03 k13 hgg hn0 hn1 hL3 htw hty hgl0 hgc0 hgl1 hgc1 hr0 hr1
      cases G0 with
      | false =>
        have HNO := hid (HTW2.out rfl)
        clear HTW2 HTY2 hc1
        have S0 : BlS V2 V2.drew := (Below.refl V2.heap.size V2).drew
        refine wp_region_head 22 (fun w' => BlS V2 w') (by kernel_rfl) rfl ?_
        generalize V2.drew = Y0 at *
        refine HeadAt.take (i := 0) (.slice (some ⟨b2, o2, none⟩) ng c3') rfl (by kernel_rfl) (.inl ⟨rfl, fun _ _ => by simp [go_sem]⟩) S0 ?_
        (try simp only [Act.put, List.getElem_toArray, List.getElem_cons_succ, List.getElem_cons_zero, List.setIfInBounds_toArray, List.set_cons_succ, List.set_cons_zero])
        refine HeadAt.take (i := 1) (.int .i64 (ng : Int)) rfl (by kernel_rfl) (.inl ⟨rfl, fun _ _ => by simp [go_sem]⟩) S0 ?_
        (try simp only [Act.put, List.getElem_toArray, List.getElem_cons_succ, List.getElem_cons_zero, List.setIfInBounds_toArray, List.set_cons_succ, List.set_cons_zero])
        refine HeadAt.take (i := 2) (.bool false) rfl (by kernel_rfl) (.inl ⟨rfl, fun w' z => ?_⟩) S0 ?_
        · (simp [go_sem, hne])
        (try simp only [Act.put, List.getElem_toArray, List.getElem_cons_succ, List.getElem_cons_zero, List.setIfInBounds_toArray, List.set_cons_succ, List.set_cons_zero])
        refine HeadAt.take (i := 3) (.bool false) rfl (by kernel_rfl) (.inl ⟨rfl, fun _ _ => by simp [go_sem]⟩) S0 ?_
        (try simp only [Act.put, List.getElem_toArray, List.getElem_cons_succ, List.getElem_cons_zero, List.setIfInBounds_toArray, List.set_cons_succ, List.set_cons_zero])
        refine HeadAt.take (i := 4) (.agg #[.int .i64 X.l, .int .i64 X.n, .int .i64 X.pi, .int .i64 X.sl, .int .i64 X.ga, .int .i64 X.pa, .int .i64 X.sp, .slice aT nT cT]) rfl (by kernel_rfl) (.inl ⟨rfl, fun w' z => ?_⟩) S0 ?_
        · (have z0 := (xr.below z).cell 0 rfl; have z1 := (xr.below z).cell 1 rfl; have z2 := (xr.below z).cell 2 rfl; have z3 := (xr.below z).cell 3 rfl; have z4 := (xr.below z).cell 4 rfl; have z5 := (xr.below z).cell 5 rfl; have z6 := (xr.below z).cell 6 rfl; have z7 := (xr.below z).cell 7 rfl; simp [go_sem, z0, z1, z2, z3, z4, z5, z6, z7])
        (try simp only [Act.put, List.getElem_toArray, List.getElem_cons_succ, List.getElem_cons_zero, List.setIfInBounds_toArray, List.set_cons_succ, List.set_cons_zero])
        refine HeadAt.take (i := 5) (.slice (some ⟨b2, o2, none⟩) ng c3') rfl (by kernel_rfl) (.inl ⟨rfl, fun _ _ => by simp [go_sem]⟩) S0 ?_
        (try simp only [Act.put, List.getElem_toArray, List.getElem_cons_succ, List.getElem_cons_zero, List.setIfInBounds_toArray, List.set_cons_succ, List.set_cons_zero])
        refine HeadAt.take (i := 6) (.pointer (some ⟨b2, o2, none⟩)) rfl (by kernel_rfl) (.inl ⟨rfl, fun w' z => ?_⟩) S0 ?_
        · (simp [go_sem, hi0, hi1, hz0])
        (try simp only [Act.put, List.getElem_toArray, List.getElem_cons_succ, List.getElem_cons_zero, List.setIfInBounds_toArray, List.set_cons_succ, List.set_cons_zero])
        refine HeadAt.take (i := 7) (.slice (some ⟨d0, e0, none⟩) n0 r0) rfl (by kernel_rfl) (.inl ⟨rfl, fun w' z => ?_⟩) S0 ?_
        · (have z0 := (hg0c.below z).1; simp [go_sem, z0])
        (try simp only [Act.put, List.getElem_toArray, List.getElem_cons_succ, List.getElem_cons_zero, List.setIfInBounds_toArray, List.set_cons_succ, List.set_cons_zero])
        refine HeadAt.take (i := 8) (.pointer (some ⟨w.heap.size, 0, none⟩)) rfl (by kernel_rfl) (.inl ⟨rfl, fun _ _ => by simp [go_sem]⟩) S0 ?_
        (try simp only [Act.put, List.getElem_toArray, List.getElem_cons_succ, List.getElem_cons_zero, List.setIfInBounds_toArray, List.set_cons_succ, List.set_cons_zero])
        refine HeadAt.take (i := 9) (.int .i64 X.l) rfl (by kernel_rfl) (.inl ⟨rfl, fun w' z => ?_⟩) S0 ?_
        · (have z0 := (xr.below z).cell 0 rfl; simp [go_sem, z0])
        (try simp only [Act.put, List.getElem_toArray, List.getElem_cons_succ, List.getElem_cons_zero, List.setIfInBounds_toArray, List.set_cons_succ, List.set_cons_zero])
        refine HeadAt.one (i := 10) rfl (by kernel_rfl) ?_
        generalize hK : Upto _ _ = K0
        (try simp only [Act.put, List.getElem_toArray, List.getElem_cons_succ, List.getElem_cons_zero, List.setIfInBounds_toArray, List.set_cons_succ, List.set_cons_zero])
        go_wp2_with fail
        refine (hc0 _ S0).mono ?_
        rintro e V10 ⟨rfl, hb3⟩
        go_wp2_with fail
        replace S0 : BlS V2 V10 := Below.trans S0 (hb3.mono (Below.size S0))
        clear hb3
        subst hK
        refine ⟨S0, ?_⟩
        (try simp only [Act.put, List.getElem_toArray, List.getElem_cons_succ, List.getElem_cons_zero, List.setIfInBounds_toArray, List.set_cons_succ, List.set_cons_zero])
        refine HeadAt.take (i := 11) (.bool true) rfl (by kernel_rfl) (.inl ⟨rfl, fun _ _ => by simp [go_sem]⟩) S0 ?_
        (try simp only [Act.put, List.getElem_toArray, List.getElem_cons_succ, List.getElem_cons_zero, List.setIfInBounds_toArray, List.set_cons_succ, List.set_cons_zero])
        refine HeadAt.take (i := 12) (.bool true) rfl (by kernel_rfl) (.inl ⟨rfl, fun _ _ => by simp [go_sem]⟩) S0 ?_
        (try simp only [Act.put, List.getElem_toArray, List.getElem_cons_succ, List.getElem_cons_zero, List.setIfInBounds_toArray, List.set_cons_succ, List.set_cons_zero])
        refine HeadAt.take (i := 13) (.bool true) rfl (by kernel_rfl) (.inl ⟨rfl, fun _ _ => by simp [go_sem]⟩) S0 ?_
        (try simp only [Act.put, List.getElem_toArray, List.getElem_cons_succ, List.getElem_cons_zero, List.setIfInBounds_toArray, List.set_cons_succ, List.set_cons_zero])
        refine HeadAt.take (i := 14) undef rfl (by kernel_rfl) (.inr ⟨by kernel_rfl, rfl⟩) S0 ?_
        (try simp only [Act.put, List.getElem_toArray, List.getElem_cons_succ, List.getElem_cons_zero, List.setIfInBounds_toArray, List.set_cons_succ, List.set_cons_zero])
        refine HeadAt.take (i := 15) undef rfl (by kernel_rfl) (.inr ⟨by kernel_rfl, rfl⟩) S0 ?_
        (try simp only [Act.put, List.getElem_toArray, List.getElem_cons_succ, List.getElem_cons_zero, List.setIfInBounds_toArray, List.set_cons_succ, List.set_cons_zero])
        refine HeadAt.take (i := 16) undef rfl (by kernel_rfl) (.inr ⟨by kernel_rfl, rfl⟩) S0 ?_
        (try simp only [Act.put, List.getElem_toArray, List.getElem_cons_succ, List.getElem_cons_zero, List.setIfInBounds_toArray, List.set_cons_succ, List.set_cons_zero])
        refine HeadAt.take (i := 17) undef rfl (by kernel_rfl) (.inr ⟨by kernel_rfl, rfl⟩) S0 ?_
        (try simp only [Act.put, List.getElem_toArray, List.getElem_cons_succ, List.getElem_cons_zero, List.setIfInBounds_toArray, List.set_cons_succ, List.set_cons_zero])
        refine HeadAt.take (i := 18) undef rfl (by kernel_rfl) (.inr ⟨by kernel_rfl, rfl⟩) S0 ?_
        (try simp only [Act.put, List.getElem_toArray, List.getElem_cons_succ, List.getElem_cons_zero, List.setIfInBounds_toArray, List.set_cons_succ, List.set_cons_zero])
        refine HeadAt.take (i := 19) undef rfl (by kernel_rfl) (.inr ⟨by kernel_rfl, rfl⟩) S0 ?_
        (try simp only [Act.put, List.getElem_toArray, List.getElem_cons_succ, List.getElem_cons_zero, List.setIfInBounds_toArray, List.set_cons_succ, List.set_cons_zero])
        refine HeadAt.take (i := 20) undef rfl (by kernel_rfl) (.inr ⟨by kernel_rfl, rfl⟩) S0 ?_
        (try simp only [Act.put, List.getElem_toArray, List.getElem_cons_succ, List.getElem_cons_zero, List.setIfInBounds_toArray, List.set_cons_succ, List.set_cons_zero])
        refine HeadAt.take (i := 21) undef rfl (by kernel_rfl) (.inr ⟨by kernel_rfl, rfl⟩) S0 ?_
        (try simp only [Act.put, List.getElem_toArray, List.getElem_cons_succ, List.getElem_cons_zero, List.setIfInBounds_toArray, List.set_cons_succ, List.set_cons_zero])
        refine HeadAt.done (by kernel_rfl) ?_
        (try simp only [Act.put, List.drop_succ_cons, List.drop_zero, List.getElem_toArray, List.getElem_cons_succ, List.getElem_cons_zero])
        go_wp2_with fail
        refine NoPanic.normal ?_
        replace hw := hw.trans (Below.mono S0 hw.size)
        clear S0 hown2
        go_wp2
        go_ret2
        exact ⟨hw, .inl ⟨HNO.out, rfl⟩⟩
      | true =>
        cases G1 with
        | false =>
          have HNO := hid (HTW2.out rfl)
          clear HTW2 HTY2
          have S0 : BlS V2 V2.drew := (Below.refl V2.heap.size V2).drew
          refine wp_region_head 22 (fun w' => BlS V2 w') (by kernel_rfl) rfl ?_
          generalize V2.drew = Y0 at *
          refine HeadAt.take (i := 0) (.slice (some ⟨b2, o2, none⟩) ng c3') rfl (by kernel_rfl) (.inl ⟨rfl, fun _ _ => by simp [go_sem]⟩) S0 ?_
          (try simp only [Act.put, List.getElem_toArray, List.getElem_cons_succ, List.getElem_cons_zero, List.setIfInBounds_toArray, List.set_cons_succ, List.set_cons_zero])
          refine HeadAt.take (i := 1) (.int .i64 (ng : Int)) rfl (by kernel_rfl) (.inl ⟨rfl, fun _ _ => by simp [go_sem]⟩) S0 ?_
          (try simp only [Act.put, List.getElem_toArray, List.getElem_cons_succ, List.getElem_cons_zero, List.setIfInBounds_toArray, List.set_cons_succ, List.set_cons_zero])
          refine HeadAt.take (i := 2) (.bool false) rfl (by kernel_rfl) (.inl ⟨rfl, fun w' z => ?_⟩) S0 ?_
          · (simp [go_sem, hne])
          (try simp only [Act.put, List.getElem_toArray, List.getElem_cons_succ, List.getElem_cons_zero, List.setIfInBounds_toArray, List.set_cons_succ, List.set_cons_zero])
          refine HeadAt.take (i := 3) (.bool false) rfl (by kernel_rfl) (.inl ⟨rfl, fun _ _ => by simp [go_sem]⟩) S0 ?_
          (try simp only [Act.put, List.getElem_toArray, List.getElem_cons_succ, List.getElem_cons_zero, List.setIfInBounds_toArray, List.set_cons_succ, List.set_cons_zero])
          refine HeadAt.take (i := 4) (.agg #[.int .i64 X.l, .int .i64 X.n, .int .i64 X.pi, .int .i64 X.sl, .int .i64 X.ga, .int .i64 X.pa, .int .i64 X.sp, .slice aT nT cT]) rfl (by kernel_rfl) (.inl ⟨rfl, fun w' z => ?_⟩) S0 ?_
          · (have z0 := (xr.below z).cell 0 rfl; have z1 := (xr.below z).cell 1 rfl; have z2 := (xr.below z).cell 2 rfl; have z3 := (xr.below z).cell 3 rfl; have z4 := (xr.below z).cell 4 rfl; have z5 := (xr.below z).cell 5 rfl; have z6 := (xr.below z).cell 6 rfl; have z7 := (xr.below z).cell 7 rfl; simp [go_sem, z0, z1, z2, z3, z4, z5, z6, z7])
          (try simp only [Act.put, List.getElem_toArray, List.getElem_cons_succ, List.getElem_cons_zero, List.setIfInBounds_toArray, List.set_cons_succ, List.set_cons_zero])
          refine HeadAt.take (i := 5) (.slice (some ⟨b2, o2, none⟩) ng c3') rfl (by kernel_rfl) (.inl ⟨rfl, fun _ _ => by simp [go_sem]⟩) S0 ?_
          (try simp only [Act.put, List.getElem_toArray, List.getElem_cons_succ, List.getElem_cons_zero, List.setIfInBounds_toArray, List.set_cons_succ, List.set_cons_zero])
          refine HeadAt.take (i := 6) (.pointer (some ⟨b2, o2, none⟩)) rfl (by kernel_rfl) (.inl ⟨rfl, fun w' z => ?_⟩) S0 ?_
          · (simp [go_sem, hi0, hi1, hz0])
          (try simp only [Act.put, List.getElem_toArray, List.getElem_cons_succ, List.getElem_cons_zero, List.setIfInBounds_toArray, List.set_cons_succ, List.set_cons_zero])
          refine HeadAt.take (i := 7) (.slice (some ⟨d0, e0, none⟩) n0 r0) rfl (by kernel_rfl) (.inl ⟨rfl, fun w' z => ?_⟩) S0 ?_
          · (have z0 := (hg0c.below z).1; simp [go_sem, z0])
          (try simp only [Act.put, List.getElem_toArray, List.getElem_cons_succ, List.getElem_cons_zero, List.setIfInBounds_toArray, List.set_cons_succ, List.set_cons_zero])
          refine HeadAt.take (i := 8) (.pointer (some ⟨w.heap.size, 0, none⟩)) rfl (by kernel_rfl) (.inl ⟨rfl, fun _ _ => by simp [go_sem]⟩) S0 ?_
          (try simp only [Act.put, List.getElem_toArray, List.getElem_cons_succ, List.getElem_cons_zero, List.setIfInBounds_toArray, List.set_cons_succ, List.set_cons_zero])
          refine HeadAt.take (i := 9) (.int .i64 X.l) rfl (by kernel_rfl) (.inl ⟨rfl, fun w' z => ?_⟩) S0 ?_
          · (have z0 := (xr.below z).cell 0 rfl; simp [go_sem, z0])
          (try simp only [Act.put, List.getElem_toArray, List.getElem_cons_succ, List.getElem_cons_zero, List.setIfInBounds_toArray, List.set_cons_succ, List.set_cons_zero])
          refine HeadAt.one (i := 10) rfl (by kernel_rfl) ?_
          generalize hK : Upto _ _ = K0
          (try simp only [Act.put, List.getElem_toArray, List.getElem_cons_succ, List.getElem_cons_zero, List.setIfInBounds_toArray, List.set_cons_succ, List.set_cons_zero])
          go_wp2_with fail
          refine (hc0 _ S0).mono ?_
          rintro e V10 ⟨rfl, hb3⟩
          go_wp2_with fail
          replace S0 : BlS V2 V10 := Below.trans S0 (hb3.mono (Below.size S0))
          clear hb3
          subst hK
          refine ⟨S0, ?_⟩
          (try simp only [Act.put, List.getElem_toArray, List.getElem_cons_succ, List.getElem_cons_zero, List.setIfInBounds_toArray, List.set_cons_succ, List.set_cons_zero])
          refine HeadAt.take (i := 11) (.bool false) rfl (by kernel_rfl) (.inl ⟨rfl, fun _ _ => by simp [go_sem]⟩) S0 ?_
          (try simp only [Act.put, List.getElem_toArray, List.getElem_cons_succ, List.getElem_cons_zero, List.setIfInBounds_toArray, List.set_cons_succ, List.set_cons_zero])
          refine HeadAt.take (i := 12) (.bool false) rfl (by kernel_rfl) (.inl ⟨rfl, fun _ _ => by simp [go_sem]⟩) S0 ?_
          (try simp only [Act.put, List.getElem_toArray, List.getElem_cons_succ, List.getElem_cons_zero, List.setIfInBounds_toArray, List.set_cons_succ, List.set_cons_zero])
          refine HeadAt.take (i := 13) (.bool false) rfl (by kernel_rfl) (.inl ⟨rfl, fun _ _ => by simp [go_sem]⟩) S0 ?_
          (try simp only [Act.put, List.getElem_toArray, List.getElem_cons_succ, List.getElem_cons_zero, List.setIfInBounds_toArray, List.set_cons_succ, List.set_cons_zero])
          refine HeadAt.take (i := 14) (.agg #[.int .i64 X.l, .int .i64 X.n, .int .i64 X.pi, .int .i64 X.sl, .int .i64 X.ga, .int .i64 X.pa, .int .i64 X.sp, .slice aT nT cT]) rfl (by kernel_rfl) (.inl ⟨rfl, fun w' z => ?_⟩) S0 ?_
          · (have z0 := (xr.below z).cell 0 rfl; have z1 := (xr.below z).cell 1 rfl; have z2 := (xr.below z).cell 2 rfl; have z3 := (xr.below z).cell 3 rfl; have z4 := (xr.below z).cell 4 rfl; have z5 := (xr.below z).cell 5 rfl; have z6 := (xr.below z).cell 6 rfl; have z7 := (xr.below z).cell 7 rfl; simp [go_sem, z0, z1, z2, z3, z4, z5, z6, z7])
          (try simp only [Act.put, List.getElem_toArray, List.getElem_cons_succ, List.getElem_cons_zero, List.setIfInBounds_toArray, List.set_cons_succ, List.set_cons_zero])
          refine HeadAt.take (i := 15) (.slice (some ⟨b2, o2, none⟩) ng c3') rfl (by kernel_rfl) (.inl ⟨rfl, fun _ _ => by simp [go_sem]⟩) S0 ?_
          (try simp only [Act.put, List.getElem_toArray, List.getElem_cons_succ, List.getElem_cons_zero, List.setIfInBounds_toArray, List.set_cons_succ, List.set_cons_zero])
          refine HeadAt.take (i := 16) (.pointer (some ⟨b2, o2 + 1, none⟩)) rfl (by kernel_rfl) (.inl ⟨rfl, fun w' z => ?_⟩) S0 ?_
          · (simp [go_sem, hi0, hi1, hz0])
          (try simp only [Act.put, List.getElem_toArray, List.getElem_cons_succ, List.getElem_cons_zero, List.setIfInBounds_toArray, List.set_cons_succ, List.set_cons_zero])
          refine HeadAt.take (i := 17) (.slice (some ⟨d1, e1, none⟩) n1 r1) rfl (by kernel_rfl) (.inl ⟨rfl, fun w' z => ?_⟩) S0 ?_
          · (have z0 := (hg1c.below z).1; simp [go_sem, z0])
          (try simp only [Act.put, List.getElem_toArray, List.getElem_cons_succ, List.getElem_cons_zero, List.setIfInBounds_toArray, List.set_cons_succ, List.set_cons_zero])
          refine HeadAt.take (i := 18) (.pointer (some ⟨w.heap.size, 1, none⟩)) rfl (by kernel_rfl) (.inl ⟨rfl, fun _ _ => by simp [go_sem]⟩) S0 ?_
          (try simp only [Act.put, List.getElem_toArray, List.getElem_cons_succ, List.getElem_cons_zero, List.setIfInBounds_toArray, List.set_cons_succ, List.set_cons_zero])
          refine HeadAt.take (i := 19) (.int .i64 X.n) rfl (by kernel_rfl) (.inl ⟨rfl, fun w' z => ?_⟩) S0 ?_
          · (have z0 := (xr.below z).cell 1 rfl; simp [go_sem, z0])
          (try simp only [Act.put, List.getElem_toArray, List.getElem_cons_succ, List.getElem_cons_zero, List.setIfInBounds_toArray, List.set_cons_succ, List.set_cons_zero])
          refine HeadAt.one (i := 20) rfl (by kernel_rfl) ?_
          generalize hK : Upto _ _ = K0
          (try simp only [Act.put, List.getElem_toArray, List.getElem_cons_succ, List.getElem_cons_zero, List.setIfInBounds_toArray, List.set_cons_succ, List.set_cons_zero])
          go_wp2_with fail
          refine (hc1 _ S0).mono ?_
          rintro e V20 ⟨rfl, hb3⟩
          go_wp2_with fail
          replace S0 : BlS V2 V20 := Below.trans S0 (hb3.mono (Below.size S0))
          clear hb3
          subst hK
          refine ⟨S0, ?_⟩
          (try simp only [Act.put, List.getElem_toArray, List.getElem_cons_succ, List.getElem_cons_zero, List.setIfInBounds_toArray, List.set_cons_succ, List.set_cons_zero])
          refine HeadAt.take (i := 21) (.bool true) rfl (by kernel_rfl) (.inl ⟨rfl, fun _ _ => by simp [go_sem]⟩) S0 ?_
          (try simp only [Act.put, List.getElem_toArray, List.getElem_cons_succ, List.getElem_cons_zero, List.setIfInBounds_toArray, List.set_cons_succ, List.set_cons_zero])
          refine HeadAt.done (by kernel_rfl) ?_
          (try simp only [Act.put, List.drop_succ_cons, List.drop_zero, List.getElem_toArray, List.getElem_cons_succ, List.getElem_cons_zero])
          go_wp2_with fail
          refine NoPanic.normal ?_
          replace hw := hw.trans (Below.mono S0 hw.size)
          clear S0 hown2
          go_wp2
          go_ret2
          exact ⟨hw, .inl ⟨HNO.out, rfl⟩⟩
        | true =>
          obtain ⟨hvr, hOn⟩ := HTY2.out rfl
          clear HTW2 HTY2
          obtain ⟨lt, hlt1⟩ : ∃ lt, lt = (n0 : Int) - 1 := ⟨_, rfl⟩
          obtain ⟨nb, hnb1⟩ : ∃ nb, nb = (n1 : Int) - 1 := ⟨_, rfl⟩
          have ewa : IntKind.i64.wrap ((n0 : Int) - 1) = lt := by rw [hlt1]; exact IntWalk.i64_in _ (by omega)
          have ewb : IntKind.i64.wrap ((n1 : Int) - 1) = nb := by rw [hnb1]; exact IntWalk.i64_in _ (by omega)
          rw [← hlt1, ← hnb1] at hvr hOn
          obtain ⟨mv, hmv⟩ : ∃ mv, mv = lt * X.n := ⟨_, rfl⟩
          rw [← hmv] at hvr hOn
          have hmr : 0 ≤ mv := by rw [hmv]; exact Int.mul_nonneg (by omega) (by omega)
          have ewm : IntKind.i64.wrap (lt * X.n) = mv := by rw [← hmv]; exact IntWalk.i64_in _ (by omega)
          obtain ⟨vv, hvv⟩ : ∃ vv, vv = mv + nb := ⟨_, rfl⟩
          rw [← hvv] at hvr hOn
          have ewv : IntKind.i64.wrap (mv + nb) = vv := by rw [hvv]; exact IntWalk.i64_in _ (by omega)
          have HON := hid (show p + 1 = (acc ++ [vv]).length ∧ O = lofA X (PS.drop (k + 1)) (acc ++ [vv]) from ⟨by rw [HPL1.out]; simp, hOn⟩)
          clear hOn HP hlt1 hnb1 hmv hvv
          have S0 : BlS V2 V2.drew := (Below.refl V2.heap.size V2).drew
          refine wp_region_head 22 (fun w' => BlS V2 w') (by kernel_rfl) rfl ?_
          generalize V2.drew = Y0 at *
          refine HeadAt.take (i := 0) (.slice (some ⟨b2, o2, none⟩) ng c3') rfl (by kernel_rfl) (.inl ⟨rfl, fun _ _ => by simp [go_sem]⟩) S0 ?_
          (try simp only [Act.put, List.getElem_toArray, List.getElem_cons_succ, List.getElem_cons_zero, List.setIfInBounds_toArray, List.set_cons_succ, List.set_cons_zero])
          refine HeadAt.take (i := 1) (.int .i64 (ng : Int)) rfl (by kernel_rfl) (.inl ⟨rfl, fun _ _ => by simp [go_sem]⟩) S0 ?_
          (try simp only [Act.put, List.getElem_toArray, List.getElem_cons_succ, List.getElem_cons_zero, List.setIfInBounds_toArray, List.set_cons_succ, List.set_cons_zero])
          refine HeadAt.take (i := 2) (.bool false) rfl (by kernel_rfl) (.inl ⟨rfl, fun w' z => ?_⟩) S0 ?_
          · (simp [go_sem, hne])
          (try simp only [Act.put, List.getElem_toArray, List.getElem_cons_succ, List.getElem_cons_zero, List.setIfInBounds_toArray, List.set_cons_succ, List.set_cons_zero])
          refine HeadAt.take (i := 3) (.bool false) rfl (by kernel_rfl) (.inl ⟨rfl, fun _ _ => by simp [go_sem]⟩) S0 ?_
          (try simp only [Act.put, List.getElem_toArray, List.getElem_cons_succ, List.getElem_cons_zero, List.setIfInBounds_toArray, List.set_cons_succ, List.set_cons_zero])
          refine HeadAt.take (i := 4) (.agg #[.int .i64 X.l, .int .i64 X.n, .int .i64 X.pi, .int .i64 X.sl, .int .i64 X.ga, .int .i64 X.pa, .int .i64 X.sp, .slice aT nT cT]) rfl (by kernel_rfl) (.inl ⟨rfl, fun w' z => ?_⟩) S0 ?_
          · (have z0 := (xr.below z).cell 0 rfl; have z1 := (xr.below z).cell 1 rfl; have z2 := (xr.below z).cell 2 rfl; have z3 := (xr.below z).cell 3 rfl; have z4 := (xr.below z).cell 4 rfl; have z5 := (xr.below z).cell 5 rfl; have z6 := (xr.below z).cell 6 rfl; have z7 := (xr.below z).cell 7 rfl; simp [go_sem, z0, z1, z2, z3, z4, z5, z6, z7])
          (try simp only [Act.put, List.getElem_toArray, List.getElem_cons_succ, List.getElem_cons_zero, List.setIfInBounds_toArray, List.set_cons_succ, List.set_cons_zero])
          refine HeadAt.take (i := 5) (.slice (some ⟨b2, o2, none⟩) ng c3') rfl (by kernel_rfl) (.inl ⟨rfl, fun _ _ => by simp [go_sem]⟩) S0 ?_
          (try simp only [Act.put, List.getElem_toArray, List.getElem_cons_succ, List.getElem_cons_zero, List.setIfInBounds_toArray, List.set_cons_succ, List.set_cons_zero])
          refine HeadAt.take (i := 6) (.pointer (some ⟨b2, o2, none⟩)) rfl (by kernel_rfl) (.inl ⟨rfl, fun w' z => ?_⟩) S0 ?_
          · (simp [go_sem, hi0, hi1, hz0])
          (try simp only [Act.put, List.getElem_toArray, List.getElem_cons_succ, List.getElem_cons_zero, List.setIfInBounds_toArray, List.set_cons_succ, List.set_cons_zero])
          refine HeadAt.take (i := 7) (.slice (some ⟨d0, e0, none⟩) n0 r0) rfl (by kernel_rfl) (.inl ⟨rfl, fun w' z => ?_⟩) S0 ?_
          · (have z0 := (hg0c.below z).1; simp [go_sem, z0])
          (try simp only [Act.put, List.getElem_toArray, List.getElem_cons_succ, List.getElem_cons_zero, List.setIfInBounds_toArray, List.set_cons_succ, List.set_cons_zero])
          refine HeadAt.take (i := 8) (.pointer (some ⟨w.heap.size, 0, none⟩)) rfl (by kernel_rfl) (.inl ⟨rfl, fun _ _ => by simp [go_sem]⟩) S0 ?_
          (try simp only [Act.put, List.getElem_toArray, List.getElem_cons_succ, List.getElem_cons_zero, List.setIfInBounds_toArray, List.set_cons_succ, List.set_cons_zero])
          refine HeadAt.take (i := 9) (.int .i64 X.l) rfl (by kernel_rfl) (.inl ⟨rfl, fun w' z => ?_⟩) S0 ?_
          · (have z0 := (xr.below z).cell 0 rfl; simp [go_sem, z0])
          (try simp only [Act.put, List.getElem_toArray, List.getElem_cons_succ, List.getElem_cons_zero, List.setIfInBounds_toArray, List.set_cons_succ, List.set_cons_zero])
          refine HeadAt.one (i := 10) rfl (by kernel_rfl) ?_
          generalize hK : Upto _ _ = K0
          (try simp only [Act.put, List.getElem_toArray, List.getElem_cons_succ, List.getElem_cons_zero, List.setIfInBounds_toArray, List.set_cons_succ, List.set_cons_zero])
          go_wp2_with fail
          refine (hc0 _ S0).mono ?_
          rintro e V10 ⟨rfl, hb3⟩
          go_wp2_with fail
          replace S0 : BlS V2 V10 := Below.trans S0 (hb3.mono (Below.size S0))
          clear hb3
          subst hK
          refine ⟨S0, ?_⟩
          (try simp only [Act.put, List.getElem_toArray, List.getElem_cons_succ, List.getElem_cons_zero, List.setIfInBounds_toArray, List.set_cons_succ, List.set_cons_zero])
          refine HeadAt.take (i := 11) (.bool false) rfl (by kernel_rfl) (.inl ⟨rfl, fun _ _ => by simp [go_sem]⟩) S0 ?_
          (try simp only [Act.put, List.getElem_toArray, List.getElem_cons_succ, List.getElem_cons_zero, List.setIfInBounds_toArray, List.set_cons_succ, List.set_cons_zero])
          refine HeadAt.take (i := 12) (.bool false) rfl (by kernel_rfl) (.inl ⟨rfl, fun _ _ => by simp [go_sem]⟩) S0 ?_
          (try simp only [Act.put, List.getElem_toArray, List.getElem_cons_succ, List.getElem_cons_zero, List.setIfInBounds_toArray, List.set_cons_succ, List.set_cons_zero])
          refine HeadAt.take (i := 13) (.bool false) rfl (by kernel_rfl) (.inl ⟨rfl, fun _ _ => by simp [go_sem]⟩) S0 ?_
          (try simp only [Act.put, List.getElem_toArray, List.getElem_cons_succ, List.getElem_cons_zero, List.setIfInBounds_toArray, List.set_cons_succ, List.set_cons_zero])
          refine HeadAt.take (i := 14) (.agg #[.int .i64 X.l, .int .i64 X.n, .int .i64 X.pi, .int .i64 X.sl, .int .i64 X.ga, .int .i64 X.pa, .int .i64 X.sp, .slice aT nT cT]) rfl (by kernel_rfl) (.inl ⟨rfl, fun w' z => ?_⟩) S0 ?_
          · (have z0 := (xr.below z).cell 0 rfl; have z1 := (xr.below z).cell 1 rfl; have z2 := (xr.below z).cell 2 rfl; have z3 := (xr.below z).cell 3 rfl; have z4 := (xr.below z).cell 4 rfl; have z5 := (xr.below z).cell 5 rfl; have z6 := (xr.below z).cell 6 rfl; have z7 := (xr.below z).cell 7 rfl; simp [go_sem, z0, z1, z2, z3, z4, z5, z6, z7])
          (try simp only [Act.put, List.getElem_toArray, List.getElem_cons_succ, List.getElem_cons_zero, List.setIfInBounds_toArray, List.set_cons_succ, List.set_cons_zero])
          refine HeadAt.take (i := 15) (.slice (some ⟨b2, o2, none⟩) ng c3') rfl (by kernel_rfl) (.inl ⟨rfl, fun _ _ => by simp [go_sem]⟩) S0 ?_
          (try simp only [Act.put, List.getElem_toArray, List.getElem_cons_succ, List.getElem_cons_zero, List.setIfInBounds_toArray, List.set_cons_succ, List.set_cons_zero])
          refine HeadAt.take (i := 16) (.pointer (some ⟨b2, o2 + 1, none⟩)) rfl (by kernel_rfl) (.inl ⟨rfl, fun w' z => ?_⟩) S0 ?_
          · (simp [go_sem, hi0, hi1, hz0])
          (try simp only [Act.put, List.getElem_toArray, List.getElem_cons_succ, List.getElem_cons_zero, List.setIfInBounds_toArray, List.set_cons_succ, List.set_cons_zero])
          refine HeadAt.take (i := 17) (.slice (some ⟨d1, e1, none⟩) n1 r1) rfl (by kernel_rfl) (.inl ⟨rfl, fun w' z => ?_⟩) S0 ?_
          · (have z0 := (hg1c.below z).1; simp [go_sem, z0])
          (try simp only [Act.put, List.getElem_toArray, List.getElem_cons_succ, List.getElem_cons_zero, List.setIfInBounds_toArray, List.set_cons_succ, List.set_cons_zero])
          refine HeadAt.take (i := 18) (.pointer (some ⟨w.heap.size, 1, none⟩)) rfl (by kernel_rfl) (.inl ⟨rfl, fun _ _ => by simp [go_sem]⟩) S0 ?_
          (try simp only [Act.put, List.getElem_toArray, List.getElem_cons_succ, List.getElem_cons_zero, List.setIfInBounds_toArray, List.set_cons_succ, List.set_cons_zero])
          refine HeadAt.take (i := 19) (.int .i64 X.n) rfl (by kernel_rfl) (.inl ⟨rfl, fun w' z => ?_⟩) S0 ?_
          · (have z0 := (xr.below z).cell 1 rfl; simp [go_sem, z0])
          (try simp only [Act.put, List.getElem_toArray, List.getElem_cons_succ, List.getElem_cons_zero, List.setIfInBounds_toArray, List.set_cons_succ, List.set_cons_zero])
          refine HeadAt.one (i := 20) rfl (by kernel_rfl) ?_
          generalize hK : Upto _ _ = K0
          (try simp only [Act.put, List.getElem_toArray, List.getElem_cons_succ, List.getElem_cons_zero, List.setIfInBounds_toArray, List.set_cons_succ, List.set_cons_zero])
          go_wp2_with fail
          refine (hc1 _ S0).mono ?_
          rintro e V20 ⟨rfl, hb3⟩
          go_wp2_with fail
          replace S0 : BlS V2 V20 := Below.trans S0 (hb3.mono (Below.size S0))
          clear hb3
          subst hK
          refine ⟨S0, ?_⟩
          (try simp only [Act.put, List.getElem_toArray, List.getElem_cons_succ, List.getElem_cons_zero, List.setIfInBounds_toArray, List.set_cons_succ, List.set_cons_zero])
          refine HeadAt.take (i := 21) (.bool false) rfl (by kernel_rfl) (.inl ⟨rfl, fun _ _ => by simp [go_sem]⟩) S0 ?_
          (try simp only [Act.put, List.getElem_toArray, List.getElem_cons_succ, List.getElem_cons_zero, List.setIfInBounds_toArray, List.set_cons_succ, List.set_cons_zero])
          refine HeadAt.done (by kernel_rfl) ?_
          (try simp only [Act.put, List.drop_succ_cons, List.drop_zero, List.getElem_toArray, List.getElem_cons_succ, List.getElem_cons_zero])
          go_wp2_with fail
          refine NoPanic.normal ?_
          replace hg0c := hg0c.below S0
          replace hg1c := hg1c.below S0
          replace xr := xr.below S0
          replace hown2 := own_below2 hown2 S0
          replace hw := hw.trans (Below.mono S0 hw.size)
          replace hbr2 := hbr2.trans (Below.mono S0 hbr2.size)
          clear S0 hc0 hc1
          go_upto_region 7 with fail
          have S0 : BlS V20 V20.drew := (Below.refl V20.heap.size V20).drew
          refine wp_region_head 11 (fun w' => BlS V20 w') (by kernel_rfl) rfl ?_
          generalize V20.drew = Y0 at *
          refine HeadAt.take (i := 0) (.slice (some ⟨b2, o2, none⟩) ng c3') rfl (by kernel_rfl) (.inl ⟨rfl, fun _ _ => by simp [go_sem]⟩) S0 ?_
          (try simp only [Act.put, List.getElem_toArray, List.getElem_cons_succ, List.getElem_cons_zero, List.setIfInBounds_toArray, List.set_cons_succ, List.set_cons_zero])
          refine HeadAt.take (i := 1) (.pointer (some ⟨b2, o2, none⟩)) rfl (by kernel_rfl) (.inl ⟨rfl, fun w' z => ?_⟩) S0 ?_
          · (simp [go_sem, hi0, hi1, hz0])
          (try simp only [Act.put, List.getElem_toArray, List.getElem_cons_succ, List.getElem_cons_zero, List.setIfInBounds_toArray, List.set_cons_succ, List.set_cons_zero])
          refine HeadAt.take (i := 2) (.slice (some ⟨d0, e0, none⟩) n0 r0) rfl (by kernel_rfl) (.inl ⟨rfl, fun w' z => ?_⟩) S0 ?_
          · (have z0 := (hg0c.below z).1; simp [go_sem, z0])
          (try simp only [Act.put, List.getElem_toArray, List.getElem_cons_succ, List.getElem_cons_zero, List.setIfInBounds_toArray, List.set_cons_succ, List.set_cons_zero])
          refine HeadAt.take (i := 3) (.int .i64 (n0 : Int)) rfl (by kernel_rfl) (.inl ⟨rfl, fun _ _ => by simp [go_sem]⟩) S0 ?_
          (try simp only [Act.put, List.getElem_toArray, List.getElem_cons_succ, List.getElem_cons_zero, List.setIfInBounds_toArray, List.set_cons_succ, List.set_cons_zero])
          refine HeadAt.take (i := 4) (.int .i64 lt) rfl (by kernel_rfl) (.inl ⟨rfl, fun w' z => ?_⟩) S0 ?_
          · (simp [go_sem, ewa])
          (try simp only [Act.put, List.getElem_toArray, List.getElem_cons_succ, List.getElem_cons_zero, List.setIfInBounds_toArray, List.set_cons_succ, List.set_cons_zero])
          refine HeadAt.take (i := 5) (.slice (some ⟨b2, o2, none⟩) ng c3') rfl (by kernel_rfl) (.inl ⟨rfl, fun _ _ => by simp [go_sem]⟩) S0 ?_
          (try simp only [Act.put, List.getElem_toArray, List.getElem_cons_succ, List.getElem_cons_zero, List.setIfInBounds_toArray, List.set_cons_succ, List.set_cons_zero])
          refine HeadAt.take (i := 6) (.pointer (some ⟨b2, o2 + 1, none⟩)) rfl (by kernel_rfl) (.inl ⟨rfl, fun w' z => ?_⟩) S0 ?_
          · (simp [go_sem, hi0, hi1, hz0])
          (try simp only [Act.put, List.getElem_toArray, List.getElem_cons_succ, List.getElem_cons_zero, List.setIfInBounds_toArray, List.set_cons_succ, List.set_cons_zero])
          refine HeadAt.take (i := 7) (.slice (some ⟨d1, e1, none⟩) n1 r1) rfl (by kernel_rfl) (.inl ⟨rfl, fun w' z => ?_⟩) S0 ?_
          · (have z0 := (hg1c.below z).1; simp [go_sem, z0])
          (try simp only [Act.put, List.getElem_toArray, List.getElem_cons_succ, List.getElem_cons_zero, List.setIfInBounds_toArray, List.set_cons_succ, List.set_cons_zero])
          refine HeadAt.take (i := 8) (.int .i64 (n1 : Int)) rfl (by kernel_rfl) (.inl ⟨rfl, fun _ _ => by simp [go_sem]⟩) S0 ?_
          (try simp only [Act.put, List.getElem_toArray, List.getElem_cons_succ, List.getElem_cons_zero, List.setIfInBounds_toArray, List.set_cons_succ, List.set_cons_zero])
          refine HeadAt.take (i := 9) (.int .i64 nb) rfl (by kernel_rfl) (.inl ⟨rfl, fun w' z => ?_⟩) S0 ?_
          · (simp [go_sem, ewb])
          (try simp only [Act.put, List.getElem_toArray, List.getElem_cons_succ, List.getElem_cons_zero, List.setIfInBounds_toArray, List.set_cons_succ, List.set_cons_zero])
          refine HeadAt.take (i := 10) (.int .i64 lt) rfl (by kernel_rfl) (.inl ⟨rfl, fun _ _ => by simp [go_sem]⟩) S0 ?_
          (try simp only [Act.put, List.getElem_toArray, List.getElem_cons_succ, List.getElem_cons_zero, List.setIfInBounds_toArray, List.set_cons_succ, List.set_cons_zero])
          refine HeadAt.done (by kernel_rfl) ?_
          (try simp only [Act.put, List.drop_succ_cons, List.drop_zero, List.getElem_toArray, List.getElem_cons_succ, List.getElem_cons_zero])
          go_wp2_with fail
          refine NoPanic.normal ?_
          replace xr := xr.below S0
          replace hown2 := own_below2 hown2 S0
          replace hw := hw.trans (Below.mono S0 hw.size)
          replace hbr2 := hbr2.trans (Below.mono S0 hbr2.size)
          clear S0 hg0c hg1c
          have c0 := xr.cell 0 rfl; have c1 := xr.cell 1 rfl; have c2 := xr.cell 2 rfl; have c3 := xr.cell 3 rfl; have c4 := xr.cell 4 rfl; have c5 := xr.cell 5 rfl; have c6 := xr.cell 6 rfl; have c7 := xr.cell 7 rfl
          have hw0 := hw.size
          have hw1 := hbr2.size
          go_wp2_with (at_builtin; go_loud (refine wpList_append_own _ rfl _ _ 22 rfl W1.heap.size 3 j0 (.int .i64 0) 1 8 under22 hj0 jz0 jz1 jz2 rfl (by decide) (.slice aa p ca) p _ rfl (hown2.alloc _) ⟨Y0.heap.size, 0, none⟩ 1 1 [.int .i64 vv] rfl rfl (cell_one_new _ _ _) (ints_oneCell .i64 [vv]) (by unfold maxLen; omega) (by omega) (by simp; omega) ?_); intro v9 W9 hrow9 hg9 _)
          obtain ⟨a9, c9, rfl⟩ := own_slice2 hrow9
          have hba := below_one (w := Y0) (.cells #[.int .i64 vv] 3)
          have hbr3 : Below W1.heap.size W1 W9 := (hbr2.trans (hba.mono hbr2.size)).grown hg9 (by have := hbr2.size; simp; omega) (own_ge hown2)
          have hrow10 : W9.ownsRow W1.heap.size 3 1 (.slice a9 (p + 1) c9) (p + 1) ((acc ++ [vv]).map (Value.int .i64)) := by simpa using hrow9
          clear hown2 hg9 hrow9 hbr2 hw c0 c1 c2 c3 c4 c5 c6 c7
          go_wp2
          go_roundw
          case rel => exact ⟨k + 1, p + 1, a9, c9, acc ++ [vv], by omega, by go_num, rfl, by omega, HON, hrow10, hbr3⟩
          case measure => simp [intOf]; omega
    · have hkm : k = m := by omega
      have hO2 := HP.out.2
      rw [List.drop_eq_nil_iff.2 (show PS.length ≤ k by rw [hkm, HM.out]; exact Nat.le_refl _)] at hO2
      replace hO2 : O = some acc := hO2
      obtain ⟨r1, r2⟩ := HRG.out acc hO2
      have hz := own_nw hown HP.out.1 (by omega) r2
      have hw := hb.trans (hbr.mono hb.size)
      have HZ := hid (show LoP O w (.returned (.tuple #[.slice aa p ca, .bool true])) wr from ⟨hw, .inr ⟨acc, aa, ca, hO2, by rw [HP.out.1], hz.1.mono hb.size⟩⟩)
      clear hkm hO2 r1 r2 hz HP hown
      go_wp2
      go_ret2
      exact HZ.out
end Go.Proofs.Yteianfbdhakhpaa
/-! All sets of sparks, yielded one by one. -/
namespace Go.Proofs.Yteianfbdhakhpaa
set_option linter.unusedSimpArgs false
set_option linter.unusedVariables false
open Go Go.RowKit

attribute [local go_sem] Oper.semAt_some

/-- What is handed over: a set, in rows of numbers at or beyond B. -/
def ES (B : Nat) (x : List Int) (vs : Array Value) (W : World) : Prop := ∃ a c, vs = #[.slice a x.length c] ∧ Iz B W a x

set_option maxRecDepth 100000 in
set_option maxHeartbeats 4000000 in
theorem grow_zero (e : Nat) (l B n0 : Nat) (XS : List (List Int)) (C : Nat → Prop) (J : List (List Int) → World → Prop)
    (hY : ∀ pre x vs, (∃ rest, XS = pre ++ x :: rest) → ∀ W1, J pre W1 → ES B x vs W1 → YieldAt Fence.wide 0 Try.prog l vs W1 fun e W' => e = .returned (.bool true) ∧ J (pre ++ [x]) W' ∧ Kc 62 n0 C W1 W')
    (low : Nat) (f : List Int) (a : Option Addr) (c : Nat) (pre post : List (List Int)) (W : World) (hF : Iz B W a f) (hX : XS = pre ++ [f] ++ post) (hj : J pre W) :
    Calls Try.prog 98 #[.slice a f.length c, .int .i64 (low : Int), .int .i64 (e : Int), .int .i64 0, .func (.yield l) #[] #[]] W fun r W' => r = .returned (.bool true) ∧ J (pre ++ [f]) W' ∧ Kc 62 n0 C W W' := by
  obtain ⟨fn, tmps, assign, body, hy, hR2⟩ := hY pre f #[.slice a f.length c] ⟨post, by rw [hX]; simp⟩ W hj ⟨a, c, rfl, hF⟩
  obtain ⟨m, hm⟩ : ∃ m, m = f.length := ⟨_, rfl⟩
  rw [← hm] at hy ⊢
  clear hY hX hF hm
  refine callsIn_wide (n := 0).1 (callsIn_of_wp Try.func98 rfl trivial ?_ rfl)
  simp only [Try.ntmps98, List.size_toArray, List.length_cons, List.length_nil, Nat.reduceAdd, Nat.reduceSub, Array.replicate_succ, Array.replicate_zero, List.push_toArray, List.append_toArray, List.nil_append, List.cons_append, List.append_nil]
  gi_wp2_with (refine ⟨rfl, hR2.mono ?_⟩; clear hR2; rintro e W3 ⟨rfl, hj3, hk3⟩)
  gi_wp2
  go_ret
  exact ⟨rfl, hj3, hk3⟩

set_option maxRecDepth 100000 in
set_option maxHeartbeats 6000000 in
theorem grow_rec (e : Nat) (he : e ≤ 24) (l B n0 : Nat) (XS : List (List Int)) (C : Nat → Prop) (hC : ∀ k, C k → k < B) (J : List (List Int) → World → Prop) (hJ : ∀ pre W1 W2, J pre W1 → Cel B W1 W2 → J pre W2)
    (hY : ∀ pre x vs, (∃ rest, XS = pre ++ x :: rest) → ∀ W1, J pre W1 → ES B x vs W1 → YieldAt Fence.wide 0 Try.prog l vs W1 fun e W' => e = .returned (.bool true) ∧ J (pre ++ [x]) W' ∧ Kc 62 n0 C W1 W') :
    ∀ (m low : Nat) (f : List Int) (a : Option Addr) (c : Nat) (pre post : List (List Int)) (W : World), low ≤ e → f.length + m ≤ 3 → (∀ x ∈ f, 0 ≤ x ∧ x ≤ 24) → Iz B W a f → f.length ≤ c → c ≤ 9223372036854775807 → (a = none → c = 0) → XS = pre ++ setsG e m low f ++ post → J pre W → B ≤ W.heap.size →
    Calls Try.prog 98 #[.slice a f.length c, .int .i64 (low : Int), .int .i64 (e : Int), .int .i64 (m : Int), .func (.yield l) #[] #[]] W fun r W' => r = .returned (.bool true) ∧ J (pre ++ setsG e m low f) W' ∧ Kc 62 n0 C W W' := by
  obtain ⟨j0, hj0, jz0, jz1, jz2⟩ := info_parts info3i
  intro m
  induction m with
  | zero =>
    intro low f a c pre post W hlow hl hfr hF hc1 hc2 hc3 hX hj hBW
    exact grow_zero e l B n0 XS C J hY low f a c pre post W hF hX hj
  | succ m ih =>
    intro low f a c pre post W hlow hl hfr hF hc1 hc2 hc3 hX hj hBW
    rw [setsG_succ] at hX ⊢
    obtain ⟨fn, tmps, assign, body, hy, hR2⟩ := hY pre f #[.slice a f.length c] ⟨setsN e m low f e ++ post, by rw [hX]; simp⟩ W hj ⟨a, c, rfl, hF⟩
    have HX := hid hX; have HIH := hid ih
    have HSP := hid (show ∀ k, low ≤ k → k < e → ∃ post, setsN e m low f e = setsN e m low f k ++ setsG e m (k + 1) (f ++ [(k : Int)]) ++ post from fun k h1 h2 => setsN_split h1 h2)
    have HNX := hid (show ∀ k, low ≤ k → setsN e m low f (k + 1) = setsN e m low f k ++ setsG e m (k + 1) (f ++ [(k : Int)]) from fun k h => setsN_next h)
    have HZ := hid (setsN_zero e m low f)
    have HFR := hid hfr; have HL := hid hl
    obtain ⟨q, hq⟩ : ∃ q, q = f.length := ⟨_, rfl⟩
    rw [← hq] at hy hc1 ⊢
    have HQ := hid hq
    have hq2 : q ≤ 2 := by omega
    obtain ⟨mm, hmm⟩ : ∃ mm, mm = m + 1 := ⟨_, rfl⟩
    have hm0 : ((mm : Int) == 0) = false := by rw [beq_eq_false_iff_ne]; omega
    have ewm : IntKind.i64.wrap ((mm : Int) - 1) = (m : Int) := by rw [IntWalk.i64_in _ (by omega)]; omega
    rw [← hmm]
    have hmb : (mm : Int) ≤ 3 := by omega
    have heI : (e : Int) ≤ 24 := by omega
    clear hX ih hq hl hfr hmm hY
    refine callsIn_wide (n := 0).1 (callsIn_of_wp Try.func98 rfl trivial ?_ rfl)
    simp only [Try.ntmps98, List.size_toArray, List.length_cons, List.length_nil, Nat.reduceAdd, Nat.reduceSub, Array.replicate_succ, Array.replicate_zero, List.push_toArray, List.append_toArray, List.nil_append, List.cons_append, List.append_nil]
    gi_wp2_with (refine ⟨rfl, hR2.mono ?_⟩; clear hR2; rintro r W3 ⟨rfl, hj3, hk3⟩)
    gi_wp2
    refine wpIn_wide.2 ?_
    have hF3 := hF.kc (by decide) hk3 hC
    have hB3 := hk3.size
    go_loopw [11] (fun v11 wr => ∃ k : Nat, low ≤ k ∧ k ≤ e ∧ v11 = .int .i64 (k : Int) ∧ J (pre ++ [f] ++ setsN e m low f k) wr ∧ Kc 62 n0 C W wr ∧ Iz B wr a f) (fun v11 _ => e - (intOf v11).toNat)
    case atStart => exact ⟨low, Nat.le_refl _, hlow, rfl, by rw [HZ.out, List.append_nil]; exact hj3, hk3, hF3⟩
    case round =>
      clear hF3 hj3 hF hj hk3
      obtain ⟨k, hlk, hk, rfl, hj, hkp, hF⟩ := hrel
      have hsz := hkp.size
      by_cases hlt : k < e
      · have hkI : (k : Int) < (e : Int) := by omega
        have hk0 : (0 : Int) ≤ (k : Int) := by omega
        have ewk : IntKind.i64.wrap ((k : Int) + 1) = ((k + 1 : Nat) : Int) := by rw [IntWalk.i64_in _ (by omega)]; omega
        have hcl := fun V => clip_any a q c hc1 hc2 hc3 V
        have hfl : (f.map (Value.int .i64)).length = q * 1 := by rw [List.length_map, ← HQ.out]; omega
        have HFL := hid hfl
        have hba := below_one (w := wr) (.cells #[.int .i64 (k : Int)] 3)
        have hcls := hF.i.cls
        have HC := hid (show ∀ b, a = some b → ∀ (j : Nat) (u : Value), (f.map (Value.int .i64))[j]? = some u → (wr.alloc (.cells #[.int .i64 (k : Int)] 3)).cell? (b.add j) = some u from fun b hb j u hu => by
          obtain ⟨b', off, e, hlt2, hc⟩ := (hcls.below hba (Nat.le_refl _)) j u hu
          rw [hb] at e; cases e
          have e1 : (⟨b', off, none⟩ : Addr).add j = ⟨b', off + j, none⟩ := by unfold Addr.add; split <;> simp_all
          rw [e1]; exact hc)
        have hBr : B ≤ wr.heap.size := by omega
        have HJ := hid (hJ _ _ _ hj (Cel.of_below hba hBr))
        have hF2 := hF.below hba
        have hkp2 := hkp.trans (Kc.of_below (T := 62) (n0 := n0) (C := C) hba)
        clear hfl hj hF hkp hba hcls
        go_wp2_with (first
          | (refine (hcl _).mono ?_; clear hcl; rintro e V2 ⟨rfl, rfl⟩)
          | (at_builtin; go_loud (refine wpList_append_grows _ rfl _ _ 22 rfl 3 j0 (.int .i64 0) 1 8 under22 hj0 jz0 jz1 jz2 rfl (by decide) a q q (f.map (Value.int .i64)) rfl (fun e => by have := hc3 e; omega) HFL.out HC.out ⟨wr.heap.size, 0, none⟩ 1 1 [.int .i64 (k : Int)] rfl rfl (cell_one_new _ _ _) (ints_oneCell .i64 [(k : Int)]) (by omega) (by unfold maxLen; omega) (by omega) ?_); intro v2 W2 hrow2 hg2))
        have hb12 : Below (wr.alloc (.cells #[.int .i64 (k : Int)] 3)).heap.size (wr.alloc (.cells #[.int .i64 (k : Int)] 3)) W2 := ⟨hg2.os, hg2.tape, hg2.output, hg2.size, fun k hk => hg2.block k hk (fun e => by cases e)⟩
        obtain ⟨a2, c2, rfl⟩ := own_slice2 hrow2
        have hln : (f ++ [(k : Int)]).length = q + 1 := by rw [List.length_append, HQ.out]; rfl
        have hfr2 : ∀ y ∈ f ++ [(k : Int)], 0 ≤ y ∧ y ≤ 24 := fun y hy => by
          rcases List.mem_append.1 hy with h | h
          · exact HFR.out y h
          · rw [List.mem_singleton.1 h]; omega
        have hz := own_nw (xs := f ++ [(k : Int)]) (by simpa using hrow2) hln.symm (by rw [hln]; omega) (fun y hy => by have := hfr2 y hy; omega)
        have hF4 : Iz B W2 a2 (f ++ [(k : Int)]) := hz.1.mono (by first | omega | (simp; omega))
        have hne : a2 = none → c2 = 0 := fun e => by
          have := (hz.1.i).2.2 0 (by rw [hln]; omega)
          obtain ⟨b, off, e2, -⟩ := this
          rw [e] at e2; cases e2
        obtain ⟨post2, hp2⟩ := HSP.out k hlk hlt
        have hX2 : XS = (pre ++ [f] ++ setsN e m low f k) ++ setsG e m (k + 1) (f ++ [(k : Int)]) ++ (post2 ++ post) := by rw [HX.out, hp2]; simp
        have hsz2 := hb12.size
        have hWs : (wr.alloc (.cells #[.int .i64 (k : Int)] 3)).heap.size = wr.heap.size + 1 := by simp
        have ihc := HIH.out (k + 1) (f ++ [(k : Int)]) a2 c2 (pre ++ [f] ++ setsN e m low f k) (post2 ++ post) W2 (by omega) (by have := HL.out; rw [hln, HQ.out]; omega) hfr2 hF4 hz.2.1 hz.2.2 hne hX2 (hJ _ _ _ HJ.out (Cel.of_below hb12 (by omega))) (by omega)
        rw [hln] at ihc
        have hF5 := hF2.below hb12
        have hkp3 := hkp2.trans (Kc.of_below (T := 62) (n0 := n0) (C := C) hb12)
        have HN := hid (HNX.out k hlk)
        clear hrow2 hg2 hb12 hz hF4 hne hX2 hF2 hkp2 HJ HC hp2 hfr2 hln hsz2 hWs
        refine ihc.mono ?_
        rintro r W4 ⟨rfl, hj4, hk4⟩
        have hF6 := hF5.kc (by decide) hk4 hC
        have hkp4 := hkp3.trans hk4
        have HJ4 := hid hj4
        clear ihc hF5 hkp3 hk4 hj4
        go_wp2
        go_roundw
        case rel => exact ⟨k + 1, by omega, by omega, by go_num, by rw [HN.out, ← List.append_assoc]; exact HJ4.out, hkp4, hF6⟩
        case measure => simp [intOf]; omega
      · have hkn : k = e := by omega
        have hkI : ¬ (k : Int) < (e : Int) := by omega
        rw [hkn] at hj
        have HJ := hid hj
        clear hkn hj
        go_wp2
        gi_wp2
        go_ret
        exact ⟨rfl, by have := HJ.out; simpa using this, hkp⟩

set_option maxRecDepth 100000 in
set_option maxHeartbeats 2000000 in
theorem sets_any (e m : Int) (w : World) : Calls Try.prog 82 #[.int .i64 e, .int .i64 m] w fun r w' => r = .returned (.func (.func 97) #[] #[.pointer (some ⟨w.heap.size, 0, none⟩), .pointer (some ⟨w.heap.size + 1, 0, none⟩)]) ∧ Bx w' w.heap.size #[.int .i64 e] 3 ∧ Bx w' (w.heap.size + 1) #[.int .i64 m] 3 ∧ Below w.heap.size w w' := by
  obtain ⟨W, hW, hb, hs, x0, x1⟩ := boxes2 w #[.int .i64 e] 3 #[.int .i64 m] 3
  go_enter Try.func82, Try.ntmps82
  go_wp2
  go_ret
  exact ⟨rfl, x0, x1, hb⟩

set_option maxRecDepth 100000 in
set_option maxHeartbeats 2000000 in
theorem sets_iter (e m : Nat) (he : e ≤ 24) (hm : m ≤ 3) (n0 : Nat) (C : Nat → Prop) (B : Nat) (hC : ∀ k, C k → k < B) (g1 g2 : Nat) (w : World) (h1 : Bx w g1 #[.int .i64 (e : Int)] 3) (h2 : Bx w g2 #[.int .i64 (m : Int)] 3) : IterF Try.prog 97 #[] #[.pointer (some ⟨g1, 0, none⟩), .pointer (some ⟨g2, 0, none⟩)] ES (setsG e m 0 []) 62 n0 C B w := by
  intro l J W hW hs hJ hY h0
  have hg := grow_rec e he l B n0 (setsG e m 0 []) C hC J hJ hY m 0 [] none 0 [] [] W (by omega) (by simpa using hm) (fun x hx => by simp at hx) (Iz.none_ B W) (Nat.le_refl _) (by omega) (fun _ => rfl) (by simp) h0 (by omega)
  have k1 := h1.below hW
  have k2 := h2.below hW
  have c0 := k1.cell 0 rfl
  have d0 := k2.cell 0 rfl
  rw [List.nil_append] at hg
  simp only [List.length_nil] at hg
  clear hJ hY h0 hs h1 h2 k1 k2
  have hg2 : Calls Try.prog 98 #[.slice none 0 0, .int .i64 0, .int .i64 (e : Int), .int .i64 (m : Int), .func (.yield l) #[] #[]] W fun r W' => r = .returned (.bool true) ∧ J (setsG e m 0 []) W' ∧ Kc 62 n0 C W W' := hg
  clear hg
  go_enter Try.func97, Try.ntmps97
  go_wp2_with fail
  refine hg2.mono ?_
  rintro r W2 ⟨rfl, hj, _⟩
  go_wp2
  go_end0
  exact ⟨⟨_, rfl⟩, hj⟩
end Go.Proofs.Yteianfbdhakhpaa
