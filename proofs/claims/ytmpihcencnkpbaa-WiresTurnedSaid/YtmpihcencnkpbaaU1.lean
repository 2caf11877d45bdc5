import Derived.Test.YtmpihcencnkpbaaTV
/-! The reference's Selection. -/
namespace Go.Proofs.Ytmpihcencnkpbaa
set_option linter.unusedSimpArgs false
set_option linter.unusedVariables false
open Go Go.RowKit

/-- A selection of a box with letters and numbers exchanged. -/
def selV (L N x : Int) : Int := if x < 0 then x else x % N * L + x / N
set_option maxRecDepth 100000 in
set_option maxHeartbeats 3000000 in
theorem Selection_any (L N : Int) (aP : Option Addr) (cP : Nat) (P : List F3) (F : Int) (x : Int) (w : World) (hL : 1 ≤ L ∧ L ≤ 5) (hN : 1 ≤ N ∧ N ≤ 5) (hx : -1 ≤ x ∧ x ≤ 24) : Calls Try.prog 79 #[.agg #[.int .i64 L, .int .i64 N, .slice aP P.length cP, .int .i64 F], .int .i64 x] w fun e w' => e = .returned (.int .i64 (selV L N x)) ∧ Below w.heap.size w w' := by
  obtain ⟨W, hW, hb, _, x0⟩ := boxes1 w #[.int .i64 L, .int .i64 N, .slice aP P.length cP, .int .i64 F] 24
  unfold selV
  by_cases h : x < 0
  · rw [if_pos h]
    have c0 := x0.cell 0 rfl; have c1 := x0.cell 1 rfl; have c2 := x0.cell 2 rfl; have c3 := x0.cell 3 rfl
    go_enter Try.func79, Try.ntmps79
    go_wp2
    go_ret
    exact ⟨rfl, hb⟩
  · rw [if_neg h]
    have h0 : 0 ≤ x := by omega
    have hN0 : ¬ N = 0 := by omega
    have hm := Int.emod_nonneg x hN0
    have hm2 := Int.emod_lt_of_pos x (show 0 < N by omega)
    have hd : 0 ≤ x / N := Int.ediv_nonneg h0 (by omega)
    have hd2 : x / N ≤ x := Int.ediv_le_self N h0
    have e1 : x.tmod N = x % N := Int.tmod_eq_emod_of_nonneg h0
    have e2 : x.tdiv N = x / N := Int.tdiv_eq_ediv_of_nonneg h0
    obtain ⟨q, hq⟩ : ∃ q, q = x % N := ⟨_, rfl⟩
    obtain ⟨d, hd'⟩ : ∃ d, d = x / N := ⟨_, rfl⟩
    rw [← hq] at hm hm2 e1 ⊢
    rw [← hd'] at hd hd2 e2 ⊢
    have h5 := mul25 (x := q) (N := L) ⟨hm, by omega⟩ hL
    obtain ⟨z, hz⟩ : ∃ z, z = q * L := ⟨_, rfl⟩
    obtain ⟨v, hv⟩ : ∃ v, v = z + d := ⟨_, rfl⟩
    rw [← hz] at h5 ⊢
    rw [← hv]
    have hw0 : IntKind.i64.wrap q = q := by rw [IntWalk.i64_in _ (by omega)]
    have hw1 : IntKind.i64.wrap (q * L) = z := by rw [IntWalk.i64_in _ (by omega)]; exact hz.symm
    have hw2 : IntKind.i64.wrap d = d := by rw [IntWalk.i64_in _ (by omega)]
    have hw3 : IntKind.i64.wrap (z + d) = v := by rw [IntWalk.i64_in _ (by omega)]; exact hv.symm
    clear hq hd' hz hv hm hm2 hd hd2 h5
    have c0 := x0.cell 0 rfl; have c1 := x0.cell 1 rfl; have c2 := x0.cell 2 rfl; have c3 := x0.cell 3 rfl
    go_enter Try.func79, Try.ntmps79
    go_upto_region 3 with fail
    clear c0 c1 c2 c3 hW
    have hbd := (Below.refl W.heap.size W).drew
    have S0 := (x0.below hbd)
    replace hb := hb.trans (hbd.mono hb.size)
    clear hbd x0
    refine wp_region_head 12 (fun w' => Bx w' w.heap.size #[.int .i64 L, .int .i64 N, .slice aP P.length cP, .int .i64 F] 24) (by kernel_rfl) rfl ?_
    generalize W.drew = Y0 at *
    refine HeadAt.take (i := 0) (.int .i64 x) rfl (by kernel_rfl) (.inl ⟨rfl, fun _ _ => by simp [go_sem]⟩) S0 ?_
    (try simp only [Act.put, List.getElem_toArray, List.getElem_cons_succ, List.getElem_cons_zero, List.setIfInBounds_toArray, List.set_cons_succ, List.set_cons_zero])
    refine HeadAt.take (i := 1) (.pointer (some ⟨w.heap.size, 1, none⟩)) rfl (by kernel_rfl) (.inl ⟨rfl, fun _ _ => by simp [go_sem]⟩) S0 ?_
    (try simp only [Act.put, List.getElem_toArray, List.getElem_cons_succ, List.getElem_cons_zero, List.setIfInBounds_toArray, List.set_cons_succ, List.set_cons_zero])
    refine HeadAt.take (i := 2) (.int .i64 N) rfl (by kernel_rfl) (.inl ⟨rfl, fun w' z => ?_⟩) S0 ?_
    · (have z0 := z.cell 1 rfl; simp [go_sem, z0])
    (try simp only [Act.put, List.getElem_toArray, List.getElem_cons_succ, List.getElem_cons_zero, List.setIfInBounds_toArray, List.set_cons_succ, List.set_cons_zero])
    refine HeadAt.take (i := 3) (.int .i64 q) rfl (by kernel_rfl) (.inl ⟨rfl, fun w' z => ?_⟩) S0 ?_
    · (simp [go_sem, hN0, e1, hw0])
    (try simp only [Act.put, List.getElem_toArray, List.getElem_cons_succ, List.getElem_cons_zero, List.setIfInBounds_toArray, List.set_cons_succ, List.set_cons_zero])
    refine HeadAt.take (i := 4) (.pointer (some ⟨w.heap.size, 0, none⟩)) rfl (by kernel_rfl) (.inl ⟨rfl, fun _ _ => by simp [go_sem]⟩) S0 ?_
    (try simp only [Act.put, List.getElem_toArray, List.getElem_cons_succ, List.getElem_cons_zero, List.setIfInBounds_toArray, List.set_cons_succ, List.set_cons_zero])
    refine HeadAt.take (i := 5) (.int .i64 L) rfl (by kernel_rfl) (.inl ⟨rfl, fun w' z => ?_⟩) S0 ?_
    · (have z0 := z.cell 0 rfl; simp [go_sem, z0])
    (try simp only [Act.put, List.getElem_toArray, List.getElem_cons_succ, List.getElem_cons_zero, List.setIfInBounds_toArray, List.set_cons_succ, List.set_cons_zero])
    refine HeadAt.take (i := 6) (.int .i64 z) rfl (by kernel_rfl) (.inl ⟨rfl, fun w' z => ?_⟩) S0 ?_
    · (simp [go_sem, hw1])
    (try simp only [Act.put, List.getElem_toArray, List.getElem_cons_succ, List.getElem_cons_zero, List.setIfInBounds_toArray, List.set_cons_succ, List.set_cons_zero])
    refine HeadAt.take (i := 7) (.int .i64 x) rfl (by kernel_rfl) (.inl ⟨rfl, fun _ _ => by simp [go_sem]⟩) S0 ?_
    (try simp only [Act.put, List.getElem_toArray, List.getElem_cons_succ, List.getElem_cons_zero, List.setIfInBounds_toArray, List.set_cons_succ, List.set_cons_zero])
    refine HeadAt.take (i := 8) (.pointer (some ⟨w.heap.size, 1, none⟩)) rfl (by kernel_rfl) (.inl ⟨rfl, fun _ _ => by simp [go_sem]⟩) S0 ?_
    (try simp only [Act.put, List.getElem_toArray, List.getElem_cons_succ, List.getElem_cons_zero, List.setIfInBounds_toArray, List.set_cons_succ, List.set_cons_zero])
    refine HeadAt.take (i := 9) (.int .i64 N) rfl (by kernel_rfl) (.inl ⟨rfl, fun w' z => ?_⟩) S0 ?_
    · (have z0 := z.cell 1 rfl; simp [go_sem, z0])
    (try simp only [Act.put, List.getElem_toArray, List.getElem_cons_succ, List.getElem_cons_zero, List.setIfInBounds_toArray, List.set_cons_succ, List.set_cons_zero])
    refine HeadAt.take (i := 10) (.int .i64 d) rfl (by kernel_rfl) (.inl ⟨rfl, fun w' z => ?_⟩) S0 ?_
    · (simp [go_sem, hN0, e2, hw2])
    (try simp only [Act.put, List.getElem_toArray, List.getElem_cons_succ, List.getElem_cons_zero, List.setIfInBounds_toArray, List.set_cons_succ, List.set_cons_zero])
    refine HeadAt.take (i := 11) (.int .i64 v) rfl (by kernel_rfl) (.inl ⟨rfl, fun w' z => ?_⟩) S0 ?_
    · (simp [go_sem, hw3])
    (try simp only [Act.put, List.getElem_toArray, List.getElem_cons_succ, List.getElem_cons_zero, List.setIfInBounds_toArray, List.set_cons_succ, List.set_cons_zero])
    refine HeadAt.done (by kernel_rfl) ?_
    (try simp only [Act.put, List.drop_succ_cons, List.drop_zero, List.getElem_toArray, List.getElem_cons_succ, List.getElem_cons_zero])
    go_wp2_with fail
    refine NoPanic.normal ?_
    have x0 := S0; clear S0
    go_wp2
    go_ret
    exact ⟨rfl, hb⟩
end Go.Proofs.Ytmpihcencnkpbaa
