import Derived.Test.YteianfbdhakhpaaTL
import Derived.Test.YteianfbdhakhpaaTC
/-! slices.CompactFunc at readings: the walk. -/
namespace Go.Proofs.Yteianfbdhakhpaa
set_option linter.unusedSimpArgs false
set_option linter.unusedVariables false
open Go Go.RowKit
theorem run_clear62 (w : World) (ty : TypeId) (b o n c : Nat) (hn : 0 < n) (hc : ∀ j, j < n * 2 → (w.cell? ⟨b, o + j, none⟩).isSome = true) (hf : ∀ j, j < n * 2 → w.frozen? ⟨b, o + j, none⟩ = false) :
    (Builtin.clear_ #[67] ty #[.slice (some ⟨b, o, none⟩) n c]).run Try.prog w = .ok (.tuple #[]) (w.setCells b o (List.replicate (n * 2) (.slice none 0 0))) := by
  have hv : ∀ w, (zeroValue 62).run Try.prog w = .ok (.agg #[.slice none 0 0, .slice none 0 0]) w := Try.zeroValue62
  have hzc : (Builtin.zeroCells (Value.agg #[.slice none 0 0, .slice none 0 0]).cells n).toList = List.replicate (n * 2) (.slice none 0 0) := by
    simp [Builtin.zeroCells, Value.cells]
    apply List.ext_getElem
    · simp
    · intro i h1 h2
      have hm : i % 2 = 0 ∨ i % 2 = 1 := by omega
      rcases hm with hm | hm <;> simp [hm]
  have hst := run_storeCells_cells (P := Try.prog) b o (List.replicate (n * 2) (.slice none 0 0)) 0 w (by simpa using hc) (by simpa using hf) (by intro v hv'; rw [List.eq_of_mem_replicate hv']; rfl)
  simp only [Nat.add_zero] at hst
  obtain ⟨m, rfl⟩ : ∃ m, n = m + 1 := ⟨n - 1, by omega⟩
  simp [Builtin.clear_, run_underlying (show Try.prog.underlying 67 = some (.slice 62) from by kernel_rfl), hv, hzc, hst]
/-- What CompactFunc leaves. -/
def CfP (B : Nat) (w0 : World) (k : Nat) (e : Ending) (w' : World) : Prop := Below B w0 w' ∧ ∃ (a : Option Addr) (c : Nat), e = .returned (.slice a k c)
set_option maxRecDepth 100000 in
set_option maxHeartbeats 1000000 in
theorem CompactFunc_any (B : Nat) (blk n cap : Nat) (Q : Nat → Rq) (w : World) (hB : B ≤ blk) (h0 : Cpt B w w blk n 0 Q) (hcap : n ≤ cap) (hcm : cap ≤ 9223372036854775807) : Calls Try.prog 63 #[.slice (some ⟨blk, 0, none⟩) n cap, .func (.func 64) #[] #[]] w (CfP B w (kp (fun i => (Q i).l) n)) := by
  have HKE := hid (show ∀ i j, i = j + 1 → (Q i).l = (Q j).l → kp (fun i => (Q i).l) (i + 1) = kp (fun i => (Q i).l) i from fun i j => kp_eq (Q := fun i => (Q i).l))
  have HKN := hid (show ∀ i j, i = j + 1 → (Q i).l ≠ (Q j).l → kp (fun i => (Q i).l) (i + 1) = kp (fun i => (Q i).l) i + 1 from fun i j => kp_ne (Q := fun i => (Q i).l))
  have HK1 := hid (show kp (fun i => (Q i).l) 1 = 1 from rfl)
  have HK0 := hid (show kp (fun i => (Q i).l) 0 = 0 from rfl)
  have HKL := hid (show ∀ i, kp (fun i => (Q i).l) i ≤ i from kp_le _)
  generalize kp (fun i => (Q i).l) = K at *
  by_cases h2 : n < 2
  · have h2I : (n : Int) < 2 := by omega
    have HR := hid (show K n = n by
      have : n = 0 ∨ n = 1 := by omega
      rcases this with rfl | rfl
      · exact HK0.out
      · exact HK1.out)
    clear h0
    go_enter Try.func63, Try.ntmps63
    go_wp2
    go_ret
    exact ⟨Below.refl _ _, some ⟨blk, 0, none⟩, cap, by rw [HR.out]; rfl⟩
  · have h2I : ¬ (n : Int) < 2 := by omega
    go_enter Try.func63, Try.ntmps63
    go_wp2
    go_loopw [5] (fun v5 wr => ∃ k : Nat, 1 ≤ k ∧ k ≤ n ∧ v5 = .int .i64 (k : Int) ∧ Hid (K k = k) ∧ Cpt B w wr blk n 0 Q) (fun v5 _ => n - (intOf v5).toNat)
    case atStart => exact ⟨1, Nat.le_refl _, by omega, rfl, HK1, h0⟩
    case round =>
      clear h0
      obtain ⟨k, hk1, hk, rfl, HK, hC⟩ := hrel
      by_cases hlt : k < n
      · obtain ⟨k1, hkk⟩ : ∃ k1, k1 = k - 1 := ⟨_, rfl⟩
        have hkI : (k : Int) < n := by omega
        have hk0 : (0 : Int) ≤ (k : Int) := by omega
        have hk1I : (k1 : Int) < n := by omega
        have hk10 : (0 : Int) ≤ (k1 : Int) := by omega
        have ewk : IntKind.i64.wrap ((k : Int) - 1) = (k1 : Int) := by rw [IntWalk.i64_in _ (by omega)]; omega
        have HKK := hid hkk
        clear hkk
        have hBW := (hC.row)
        go_upto_region 6 with fail
        clear hBW
        have S0 : BlS wr wr.drew := (Below.refl wr.heap.size wr).drew
        refine wp_region_headW 11 (fun w' => BlS wr w') (by kernel_rfl) (by kernel_rfl) ?_
        generalize wr.drew = Y0 at *
        refine HeadAt.takeW (i := 0) (.func (.func 64) #[] #[]) rfl (by kernel_rfl) (.inl ⟨rfl, fun _ _ => by simp [go_sem]⟩) S0 ?_
        (try simp only [Act.put, List.getElem_toArray, List.getElem_cons_succ, List.getElem_cons_zero, List.setIfInBounds_toArray, List.set_cons_succ, List.set_cons_zero])
        refine HeadAt.takeW (i := 1) (.slice (some ⟨blk, 0, none⟩) n cap) rfl (by kernel_rfl) (.inl ⟨rfl, fun _ _ => by simp [go_sem]⟩) S0 ?_
        (try simp only [Act.put, List.getElem_toArray, List.getElem_cons_succ, List.getElem_cons_zero, List.setIfInBounds_toArray, List.set_cons_succ, List.set_cons_zero])
        refine HeadAt.takeW (i := 2) (.int .i64 (k : Int)) rfl (by kernel_rfl) (.inl ⟨rfl, fun _ _ => by simp [go_sem]⟩) S0 ?_
        (try simp only [Act.put, List.getElem_toArray, List.getElem_cons_succ, List.getElem_cons_zero, List.setIfInBounds_toArray, List.set_cons_succ, List.set_cons_zero])
        refine HeadAt.takeW (i := 3) (.pointer (some ⟨blk, k * 2, none⟩)) rfl (by kernel_rfl) (.inl ⟨rfl, fun w' z => ?_⟩) S0 ?_
        · (simp [go_sem, hkI, hk0, hlt])
        (try simp only [Act.put, List.getElem_toArray, List.getElem_cons_succ, List.getElem_cons_zero, List.setIfInBounds_toArray, List.set_cons_succ, List.set_cons_zero])
        refine HeadAt.takeW (i := 4) (.agg #[.slice (Q k).a1 (Q k).n1 (Q k).c1, .slice (Q k).a2 (Q k).l.length (Q k).c2]) rfl (by kernel_rfl) (.inl ⟨rfl, fun w' z => ?_⟩) S0 ?_
        · (have zc := (hC.grow hB z).cell (i := k) (Nat.zero_le _) (by have := HKK.out; omega); have z1 := zc.1; have z2 := zc.2; simp [go_sem, z1, z2])
        (try simp only [Act.put, List.getElem_toArray, List.getElem_cons_succ, List.getElem_cons_zero, List.setIfInBounds_toArray, List.set_cons_succ, List.set_cons_zero])
        refine HeadAt.takeW (i := 5) (.slice (some ⟨blk, 0, none⟩) n cap) rfl (by kernel_rfl) (.inl ⟨rfl, fun _ _ => by simp [go_sem]⟩) S0 ?_
        (try simp only [Act.put, List.getElem_toArray, List.getElem_cons_succ, List.getElem_cons_zero, List.setIfInBounds_toArray, List.set_cons_succ, List.set_cons_zero])
        refine HeadAt.takeW (i := 6) (.int .i64 (k : Int)) rfl (by kernel_rfl) (.inl ⟨rfl, fun _ _ => by simp [go_sem]⟩) S0 ?_
        (try simp only [Act.put, List.getElem_toArray, List.getElem_cons_succ, List.getElem_cons_zero, List.setIfInBounds_toArray, List.set_cons_succ, List.set_cons_zero])
        refine HeadAt.takeW (i := 7) (.int .i64 (k1 : Int)) rfl (by kernel_rfl) (.inl ⟨rfl, fun w' z => ?_⟩) S0 ?_
        · (simp [go_sem, ewk])
        (try simp only [Act.put, List.getElem_toArray, List.getElem_cons_succ, List.getElem_cons_zero, List.setIfInBounds_toArray, List.set_cons_succ, List.set_cons_zero])
        refine HeadAt.takeW (i := 8) (.pointer (some ⟨blk, k1 * 2, none⟩)) rfl (by kernel_rfl) (.inl ⟨rfl, fun w' z => ?_⟩) S0 ?_
        · (simp [go_sem, hk1I, hk10])
        (try simp only [Act.put, List.getElem_toArray, List.getElem_cons_succ, List.getElem_cons_zero, List.setIfInBounds_toArray, List.set_cons_succ, List.set_cons_zero])
        refine HeadAt.takeW (i := 9) (.agg #[.slice (Q k1).a1 (Q k1).n1 (Q k1).c1, .slice (Q k1).a2 (Q k1).l.length (Q k1).c2]) rfl (by kernel_rfl) (.inl ⟨rfl, fun w' z => ?_⟩) S0 ?_
        · (have zc := (hC.grow hB z).cell (i := k1) (Nat.zero_le _) (by have := HKK.out; omega); have z1 := zc.1; have z2 := zc.2; simp [go_sem, z1, z2])
        (try simp only [Act.put, List.getElem_toArray, List.getElem_cons_succ, List.getElem_cons_zero, List.setIfInBounds_toArray, List.set_cons_succ, List.set_cons_zero])
        skip
        refine HeadAt.one (i := 10) rfl (by kernel_rfl) ?_
        generalize hK : Upto _ _ = K0
        (try simp only [Act.put, List.getElem_toArray, List.getElem_cons_succ, List.getElem_cons_zero, List.setIfInBounds_toArray, List.set_cons_succ, List.set_cons_zero])
        replace hC := hC.grow hB S0
        have hsl := sameList_any (Q k).a1 (Q k1).a1 (Q k).a2 (Q k1).a2 (Q k).c1 (Q k1).c1 (Q k).c2 (Q k1).c2 (Q k).n1 (Q k1).n1 (Q k).l (Q k1).l Y0 (hC.good k hlt).1.i (hC.good k1 (by have := HKK.out; omega)).1.i
        by_cases heq : (Q k).l = (Q k1).l
        · rw [decide_eq_true heq] at hsl
          have HKS := hid (HKE.out k k1 (by have := HKK.out; omega) heq)
          clear heq
          go_wp2_with fail
          refine hsl.mono ?_
          rintro e V1 ⟨rfl, hb1⟩
          go_wp2_with fail
          replace hC := hC.grow hB hb1
          replace S0 : BlS wr V1 := Below.trans S0 (hb1.mono (Below.size S0))
          subst hK
          refine ⟨S0, ?_⟩
          clear S0 hsl hb1
          (try simp only [Act.put, List.getElem_toArray, List.getElem_cons_succ, List.getElem_cons_zero, List.setIfInBounds_toArray, List.set_cons_succ, List.set_cons_zero])
          refine HeadAt.done (by kernel_rfl) ?_
          (try simp only [Act.put, List.drop_succ_cons, List.drop_zero, List.getElem_toArray, List.getElem_cons_succ, List.getElem_cons_zero])
          go_wp2_with fail
          refine NoPanic.normal ?_
          obtain ⟨r, hr⟩ : ∃ r, r = n - k := ⟨_, rfl⟩
          obtain ⟨rc, hrc⟩ : ∃ rc, rc = cap - k := ⟨_, rfl⟩
          have htn : ((n : Int) - (k : Int)).toNat = r := by omega
          have htn2 : n - k = r := hr.symm
          have htc2 : cap - k = rc := hrc.symm
          have htc : ((cap : Int) - (k : Int)).toNat = rc := by omega
          have hkle : (k : Int) ≤ (n : Int) := by omega
          have hkc : (k : Int) ≤ (cap : Int) := by omega
          have hne : ¬ cap = k := by omega
          have hrn : n = k + r := by omega
          have HRN := hid (And.intro hrn hr)
          have hrp : 1 ≤ r := by omega
          have hri : r ≤ 9223372036854775807 := by omega
          clear hr hrc hrn
          skip
          go_wp2
          go_loopw [5, 7] (fun v5 v7 wr => ∃ (kk k2 : Nat), 1 ≤ k2 ∧ k2 ≤ r ∧ 1 ≤ kk ∧ kk < k + k2 ∧ v5 = .int .i64 (kk : Int) ∧ v7 = .int .i64 (k2 : Int) ∧ Hid (K (k + k2) = kk) ∧ Cpt B w wr blk n kk Q) (fun _ v7 _ => r - (intOf v7).toNat)
          case atStart => exact ⟨k, 1, Nat.le_refl _, hrp, hk1, by omega, rfl, rfl, hid (by rw [HKS.out, HK.out]), hC.mono (Nat.zero_le _)⟩
          case round =>
            clear hC
            obtain ⟨kk, k2, h21, h2r, hkk1, hkk2, rfl, rfl, HKC, hC⟩ := hrel
            by_cases hlt2 : k2 < r
            · obtain ⟨k3, hk3⟩ : ∃ k3, k3 = k2 - 1 := ⟨_, rfl⟩
              have h2I : (k2 : Int) < r := by omega
              have h20 : (0 : Int) ≤ (k2 : Int) := by omega
              have h3I : (k3 : Int) < r := by omega
              have h30 : (0 : Int) ≤ (k3 : Int) := by omega
              have hkkI2 : (kk : Int) < n := by have := HRN.out; omega
              have hkk0 : (0 : Int) ≤ (kk : Int) := by omega
              have ewk3 : IntKind.i64.wrap ((k2 : Int) - 1) = (k3 : Int) := by rw [IntWalk.i64_in _ (by omega)]; omega
              have HK3 := hid hk3
              have HNN := hid (show k + k2 < n ∧ k + k3 < n ∧ kk ≤ k + k2 ∧ kk ≤ k + k3 ∧ k + k2 = k + k3 + 1 ∧ kk < n by have := HRN.out; omega)
              obtain ⟨m, hm⟩ : ∃ m, m = k + k2 := ⟨_, rfl⟩
              obtain ⟨m3, hm3⟩ : ∃ m3, m3 = k + k3 := ⟨_, rfl⟩
              have HM := hid (And.intro hm hm3)
              rw [← hm, ← hm3] at HNN
              clear hk3 hm hm3
              have hcl := fun V (h : Cpt B w V blk n kk Q) => Cpt.at2 h HM.out.1 HNN.out.2.2.1 HNN.out.1
              have hcl3 := fun V (h : Cpt B w V blk n kk Q) => Cpt.at2 h HM.out.2 HNN.out.2.2.2.1 HNN.out.2.1
              go_upto_region 11 with fail
              have S0 : BlS wr wr.drew := (Below.refl wr.heap.size wr).drew
              refine wp_region_headW 12 (fun w' => BlS wr w') (by kernel_rfl) (by kernel_rfl) ?_
              generalize wr.drew = Y0 at *
              refine HeadAt.takeW (i := 0) (.func (.func 64) #[] #[]) rfl (by kernel_rfl) (.inl ⟨rfl, fun _ _ => by simp [go_sem]⟩) S0 ?_
              (try simp only [Act.put, List.getElem_toArray, List.getElem_cons_succ, List.getElem_cons_zero, List.setIfInBounds_toArray, List.set_cons_succ, List.set_cons_zero])
              refine HeadAt.takeW (i := 1) (.slice (some ⟨blk, k * 2, none⟩) r rc) rfl (by kernel_rfl) (.inl ⟨rfl, fun _ _ => by simp [go_sem]⟩) S0 ?_
              (try simp only [Act.put, List.getElem_toArray, List.getElem_cons_succ, List.getElem_cons_zero, List.setIfInBounds_toArray, List.set_cons_succ, List.set_cons_zero])
              refine HeadAt.takeW (i := 2) (.int .i64 (k2 : Int)) rfl (by kernel_rfl) (.inl ⟨rfl, fun _ _ => by simp [go_sem]⟩) S0 ?_
              (try simp only [Act.put, List.getElem_toArray, List.getElem_cons_succ, List.getElem_cons_zero, List.setIfInBounds_toArray, List.set_cons_succ, List.set_cons_zero])
              refine HeadAt.takeW (i := 3) (.pointer (some ⟨blk, k * 2 + k2 * 2, none⟩)) rfl (by kernel_rfl) (.inl ⟨rfl, fun w' z => ?_⟩) S0 ?_
              · (simp [go_sem, h2I, h20])
              (try simp only [Act.put, List.getElem_toArray, List.getElem_cons_succ, List.getElem_cons_zero, List.setIfInBounds_toArray, List.set_cons_succ, List.set_cons_zero])
              refine HeadAt.takeW (i := 4) (.agg #[.slice (Q m).a1 (Q m).n1 (Q m).c1, .slice (Q m).a2 (Q m).l.length (Q m).c2]) rfl (by kernel_rfl) (.inl ⟨rfl, fun w' z => ?_⟩) S0 ?_
              · (have zc := hcl w' (hC.grow hB z); have z1 := zc.1; have z2 := zc.2; simp [go_sem, z1, z2])
              (try simp only [Act.put, List.getElem_toArray, List.getElem_cons_succ, List.getElem_cons_zero, List.setIfInBounds_toArray, List.set_cons_succ, List.set_cons_zero])
              refine HeadAt.takeW (i := 5) (.slice (some ⟨blk, k * 2, none⟩) r rc) rfl (by kernel_rfl) (.inl ⟨rfl, fun _ _ => by simp [go_sem]⟩) S0 ?_
              (try simp only [Act.put, List.getElem_toArray, List.getElem_cons_succ, List.getElem_cons_zero, List.setIfInBounds_toArray, List.set_cons_succ, List.set_cons_zero])
              refine HeadAt.takeW (i := 6) (.int .i64 (k2 : Int)) rfl (by kernel_rfl) (.inl ⟨rfl, fun _ _ => by simp [go_sem]⟩) S0 ?_
              (try simp only [Act.put, List.getElem_toArray, List.getElem_cons_succ, List.getElem_cons_zero, List.setIfInBounds_toArray, List.set_cons_succ, List.set_cons_zero])
              refine HeadAt.takeW (i := 7) (.int .i64 (k3 : Int)) rfl (by kernel_rfl) (.inl ⟨rfl, fun w' z => ?_⟩) S0 ?_
              · (simp [go_sem, ewk3])
              (try simp only [Act.put, List.getElem_toArray, List.getElem_cons_succ, List.getElem_cons_zero, List.setIfInBounds_toArray, List.set_cons_succ, List.set_cons_zero])
              refine HeadAt.takeW (i := 8) (.pointer (some ⟨blk, k * 2 + k3 * 2, none⟩)) rfl (by kernel_rfl) (.inl ⟨rfl, fun w' z => ?_⟩) S0 ?_
              · (simp [go_sem, h3I, h30])
              (try simp only [Act.put, List.getElem_toArray, List.getElem_cons_succ, List.getElem_cons_zero, List.setIfInBounds_toArray, List.set_cons_succ, List.set_cons_zero])
              refine HeadAt.takeW (i := 9) (.agg #[.slice (Q m3).a1 (Q m3).n1 (Q m3).c1, .slice (Q m3).a2 (Q m3).l.length (Q m3).c2]) rfl (by kernel_rfl) (.inl ⟨rfl, fun w' z => ?_⟩) S0 ?_
              · (have zc := hcl3 w' (hC.grow hB z); have z1 := zc.1; have z2 := zc.2; simp [go_sem, z1, z2])
              (try simp only [Act.put, List.getElem_toArray, List.getElem_cons_succ, List.getElem_cons_zero, List.setIfInBounds_toArray, List.set_cons_succ, List.set_cons_zero])
              skip
              refine HeadAt.one (i := 10) rfl (by kernel_rfl) ?_
              generalize hK : Upto _ _ = K0
              (try simp only [Act.put, List.getElem_toArray, List.getElem_cons_succ, List.getElem_cons_zero, List.setIfInBounds_toArray, List.set_cons_succ, List.set_cons_zero])
              replace hC := hC.grow hB S0
              have hsl := sameList_any (Q m).a1 (Q m3).a1 (Q m).a2 (Q m3).a2 (Q m).c1 (Q m3).c1 (Q m).c2 (Q m3).c2 (Q m).n1 (Q m3).n1 (Q m).l (Q m3).l Y0 (hC.good m HNN.out.1).1.i (hC.good m3 HNN.out.2.1).1.i
              by_cases heq : (Q m).l = (Q m3).l
              · rw [decide_eq_true heq] at hsl
                have HKT := hid (HKE.out m m3 HNN.out.2.2.2.2.1 heq)
                clear heq
                go_wp2_with fail
                refine hsl.mono ?_
                rintro e V2 ⟨rfl, hb2⟩
                go_wp2_with fail
                replace hC := hC.grow hB hb2
                replace S0 : BlS wr V2 := Below.trans S0 (hb2.mono (Below.size S0))
                subst hK
                refine ⟨S0, ?_⟩
                clear hsl hb2
                (try simp only [Act.put, List.getElem_toArray, List.getElem_cons_succ, List.getElem_cons_zero, List.setIfInBounds_toArray, List.set_cons_succ, List.set_cons_zero])
                refine HeadAt.takeW (i := 11) (.bool false) rfl (by kernel_rfl) (.inl ⟨rfl, fun _ _ => by simp [go_sem]⟩) S0 ?_
                (try simp only [Act.put, List.getElem_toArray, List.getElem_cons_succ, List.getElem_cons_zero, List.setIfInBounds_toArray, List.set_cons_succ, List.set_cons_zero])
                clear S0
                refine HeadAt.done (by kernel_rfl) ?_
                (try simp only [Act.put, List.drop_succ_cons, List.drop_zero, List.getElem_toArray, List.getElem_cons_succ, List.getElem_cons_zero])
                go_wp2_with fail
                refine NoPanic.normal ?_
                go_wp2
                go_roundw
                case rel => exact ⟨kk, k2 + 1, by omega, by omega, hkk1, by omega, rfl, by go_num, hid (by rw [← Nat.add_assoc, ← HM.out.1, HKT.out, HM.out.1, HKC.out]), hC⟩
                case measure => simp [intOf]; omega
              · rw [decide_eq_false heq] at hsl
                have HKT := hid (HKN.out m m3 HNN.out.2.2.2.2.1 heq)
                clear heq
                go_wp2_with fail
                refine hsl.mono ?_
                rintro e V2 ⟨rfl, hb2⟩
                go_wp2_with fail
                replace hC := hC.grow hB hb2
                replace S0 : BlS wr V2 := Below.trans S0 (hb2.mono (Below.size S0))
                subst hK
                refine ⟨S0, ?_⟩
                clear hsl hb2
                (try simp only [Act.put, List.getElem_toArray, List.getElem_cons_succ, List.getElem_cons_zero, List.setIfInBounds_toArray, List.set_cons_succ, List.set_cons_zero])
                refine HeadAt.takeW (i := 11) (.bool true) rfl (by kernel_rfl) (.inl ⟨rfl, fun _ _ => by simp [go_sem]⟩) S0 ?_
                (try simp only [Act.put, List.getElem_toArray, List.getElem_cons_succ, List.getElem_cons_zero, List.setIfInBounds_toArray, List.set_cons_succ, List.set_cons_zero])
                clear S0
                refine HeadAt.done (by kernel_rfl) ?_
                (try simp only [Act.put, List.drop_succ_cons, List.drop_zero, List.getElem_toArray, List.getElem_cons_succ, List.getElem_cons_zero])
                go_wp2_with fail
                refine NoPanic.normal ?_
                obtain ⟨z1, z2⟩ := hcl V2 hC
                obtain ⟨q1, hq1⟩ := Option.isSome_iff_exists.1 (hC.isC (j := kk * 2) (by have := HNN.out; omega)).1
                obtain ⟨q2, hq2⟩ := Option.isSome_iff_exists.1 (hC.isC (j := kk * 2 + 1) (by have := HNN.out; omega)).1
                have hf1 := (hC.isC (j := kk * 2) (by have := HNN.out; omega)).2
                have hf2 := (hC.isC (j := kk * 2 + 1) (by have := HNN.out; omega)).2
                have hne12 : ¬ kk * 2 = kk * 2 + 1 := by omega
                have hC2 := hC.set hB (.slice (Q m).a1 (Q m).n1 (Q m).c1) (.slice (Q m).a2 (Q m).l.length (Q m).c2)
                go_wp2
                go_roundw
                case rel => exact ⟨kk + 1, k2 + 1, by omega, by omega, by omega, by omega, by go_num, by go_num, hid (by rw [← Nat.add_assoc, ← HM.out.1, HKT.out, HM.out.1, HKC.out]), hC2⟩
                case measure => simp [intOf]; omega
            · have hkr : k2 = r := by omega
              obtain ⟨rk, hrk⟩ : ∃ rk, rk = n - kk := ⟨_, rfl⟩
              obtain ⟨rck, hrck⟩ : ∃ rck, rck = cap - kk := ⟨_, rfl⟩
              have h2I : ¬ (k2 : Int) < r := by omega
              have hkn : kk < n := by have := HRN.out; omega
              have hkcap : kk < cap := by omega
              have hknI : (kk : Int) ≤ n := by omega
              have hkcI : (kk : Int) ≤ cap := by omega
              have hkk0 : (0 : Int) ≤ (kk : Int) := by omega
              have e1 : n - kk = rk := hrk.symm
              have e2 : cap - kk = rck := hrck.symm
              have e3 : ((n : Int) - (kk : Int)).toNat = rk := by omega
              have e4 : ((cap : Int) - (kk : Int)).toNat = rck := by omega
              have e5 : ¬ cap = kk := by omega
              have e6 : ¬ cap = 0 := by omega
              have hcl := fun ty => run_clear62 wr ty blk (kk * 2) rk rck (by omega) (fun j hj => (hC.isC (by omega)).1) (fun j hj => (hC.isC (by omega)).2)
              have hbl := hC.below.trans (below_setCells (List.replicate (rk * 2) (.slice none 0 0)) wr blk (kk * 2) hB)
              have HR := hid (show K n = kk by rw [show n = k + k2 by have := HRN.out; omega]; exact HKC.out)
              clear hrk hrck hkn hkr hC
              go_wp2
              go_ret
              exact ⟨hbl, some ⟨blk, 0, none⟩, cap, by rw [HR.out]; rfl⟩
        · rw [decide_eq_false heq] at hsl
          have HKS := hid (HKN.out k k1 (by have := HKK.out; omega) heq)
          clear heq
          go_wp2_with fail
          refine hsl.mono ?_
          rintro e V1 ⟨rfl, hb1⟩
          go_wp2_with fail
          replace hC := hC.grow hB hb1
          replace S0 : BlS wr V1 := Below.trans S0 (hb1.mono (Below.size S0))
          subst hK
          refine ⟨S0, ?_⟩
          clear S0 hsl hb1
          (try simp only [Act.put, List.getElem_toArray, List.getElem_cons_succ, List.getElem_cons_zero, List.setIfInBounds_toArray, List.set_cons_succ, List.set_cons_zero])
          refine HeadAt.done (by kernel_rfl) ?_
          (try simp only [Act.put, List.drop_succ_cons, List.drop_zero, List.getElem_toArray, List.getElem_cons_succ, List.getElem_cons_zero])
          go_wp2_with fail
          refine NoPanic.normal ?_
          go_wp2
          go_roundw
          case rel => exact ⟨k + 1, by omega, by omega, by go_num, hid (by rw [HKS.out, HK.out]), hC⟩
          case measure => simp [intOf]; omega
      · have hkn : k = n := by omega
        have hkI : ¬ (k : Int) < n := by omega
        have HR := hid (show K n = n by rw [← hkn]; exact HK.out)
        have hbl := hC.below
        clear hkn hC
        go_wp2
        go_ret
        exact ⟨hbl, some ⟨blk, 0, none⟩, cap, by rw [HR.out]; rfl⟩
end Go.Proofs.Yteianfbdhakhpaa
/-! How many lists there are: distinct ones of a sorted row. -/
namespace Go.Proofs.Yteianfbdhakhpaa
set_option linter.unusedSimpArgs false
set_option linter.unusedVariables false
open Go Go.RowKit Go.Sort

def dR : List (List Int) → List (List Int)
  | [] => []
  | x :: r => if x ∈ r then dR r else x :: dR r
theorem dR_mem : ∀ (l : List (List Int)) (y : List Int), y ∈ dR l ↔ y ∈ l
  | [], y => Iff.rfl
  | x :: r, y => by
    unfold dR
    split
    · rename_i h
      rw [dR_mem r y]
      constructor
      · exact fun h2 => List.mem_cons_of_mem _ h2
      · intro h2
        rcases List.mem_cons.1 h2 with rfl | h2
        · exact h
        · exact h2
    · rw [List.mem_cons, List.mem_cons, dR_mem r y]
theorem dR_nodup : ∀ l : List (List Int), (dR l).Nodup
  | [] => List.nodup_nil
  | x :: r => by
    unfold dR
    split
    · exact dR_nodup r
    · rename_i h
      exact List.nodup_cons.2 ⟨fun h2 => h ((dR_mem r x).1 h2), dR_nodup r⟩
/-- How many different ones. -/
def dN (l : List (List Int)) : Nat := (dR l).length
theorem dN_perm {a b : List (List Int)} (h : a.Perm b) : dN a = dN b :=
  ((List.perm_ext_iff_of_nodup (dR_nodup a) (dR_nodup b)).2 fun x => by rw [dR_mem, dR_mem]; exact h.mem_iff).length_eq
theorem dN_cons (x : List Int) (l : List (List Int)) : dN (x :: l) = dN l + if x ∈ l then 0 else 1 := by
  unfold dN
  rw [dR]
  split <;> simp
theorem kp_dN (Q : Nat → List Int) (n : Nat) (h : ∀ i j, i < j → j < n → ¬ cmpL (Q j) (Q i) < 0) : kp Q n = dN ((List.range n).map Q) := by
  induction n with
  | zero => rfl
  | succ i ih =>
    have h1 := ih (fun a b hab hb => h a b hab (by omega))
    have hp : ((List.range (i + 1)).map Q).Perm (Q i :: (List.range i).map Q) := by
      rw [List.range_succ, List.map_append]
      exact List.perm_append_comm
    rw [dN_perm hp, dN_cons, ← h1]
    show kp Q i + _ = _
    congr 1
    rcases i with _ | m
    · simp
    · have e : (m + 1 = 0 ∨ Q (m + 1) ≠ Q (m + 1 - 1)) ↔ Q (m + 1) ≠ Q m := by simp
      by_cases hq : Q (m + 1) = Q m
      · have hm : Q (m + 1) ∈ (List.range (m + 1)).map Q := List.mem_map.2 ⟨m, List.mem_range.2 (by omega), hq.symm⟩
        rw [if_neg (fun h2 => (e.1 h2) hq), if_pos hm]
      · have hm : Q (m + 1) ∉ (List.range (m + 1)).map Q := fun h2 => by
          obtain ⟨j, hj, hjq⟩ := List.mem_map.1 h2
          have hj := List.mem_range.1 hj
          rcases Nat.lt_or_ge j m with hlt | hge
          · have a1 := h j m hlt (by omega)
            have a2 := h m (m + 1) (by omega) (by omega)
            rw [← hjq, cmpL_swap] at a2
            have : cmpL (Q m) (Q j) = 0 := by omega
            exact hq (hjq.symm.trans ((cmpL_zero _ _).1 this).symm)
          · obtain rfl : j = m := by omega
            exact hq hjq.symm
        rw [if_pos (e.2 hq), if_neg hm]
end Go.Proofs.Yteianfbdhakhpaa
/-! Lists: the sort of the readings. -/
namespace Go.Proofs.Yteianfbdhakhpaa
set_option linter.unusedSimpArgs false
set_option linter.unusedVariables false
open Go Go.RowKit
open Go.Sort hiding Below

theorem own_free62 {w : World} {base : Nat} {e : TypeId} {size n c g : Nat} {xs : List Value} (h : w.ownsRow base e size (.slice (some ⟨g, 0, none⟩) n c) n xs) (j : Nat) : w.frozen? ⟨g, j, none⟩ = false := by
  rcases h.2 with ⟨h', _⟩ | ⟨g', cap, cur, h1, h2, h3, h4⟩
  · simp at h'
  · simp only [Value.slice.injEq, Option.some.injEq, Addr.mk.injEq, and_true, true_and] at h1
    obtain ⟨rfl, rfl⟩ := h1
    have hb : Bx w g cur e := h3
    exact hb.free j
theorem own_obj62 {w : World} {base : Nat} {e : TypeId} {size n c g : Nat} {xs : List Value} (h : w.ownsRow base e size (.slice (some ⟨g, 0, none⟩) n c) n xs) : base ≤ g ∧ n ≤ c ∧ c ≤ 9223372036854775807 ∧ ∃ cur, w.heap[g]? = some (.cells cur e (0, 0)) ∧ n * size ≤ cur.size := by
  have hl := h.1
  rcases h.2 with ⟨h', _⟩ | ⟨g', cap, cur, h1, h2, h3, h4, h5, h6, h7⟩
  · simp at h'
  · simp only [Value.slice.injEq, Option.some.injEq, Addr.mk.injEq, and_true, true_and] at h1
    obtain ⟨rfl, rfl⟩ := h1
    unfold maxLen at h5
    have h3' : Bx w g cur e := h3
    exact ⟨h2, h4, by omega, cur, h3', by rw [h6]; exact Nat.mul_le_mul_right _ h4⟩
theorem rs_pick {W : World} {B g c : Nat} {vs : List Value} {rs : List Rd} (hown : W.ownsRow B 62 2 (.slice (some ⟨g, 0, none⟩) rs.length c) rs.length vs) (hv : RvS B W vs rs) (i : Nat) :
    ∃ q : Rs W g, i < rs.length → vs[i * 2]? = some (.slice q.1.a1 q.1.n1 q.1.c1) ∧ vs[i * 2 + 1]? = some (.slice q.1.a2 q.1.l.length q.1.c2) ∧ rs[i]?.map (·.2) = some q.1.l := by
  by_cases hi : i < rs.length
  · obtain ⟨a1, c1, a2, c2, h1, h2, h3, h4⟩ := hv.2 i rs[i] (List.getElem?_eq_getElem hi)
    obtain ⟨_, _, _, cur, ho, _⟩ := own_obj62 hown
    refine ⟨⟨⟨a1, rs[i].1.length, c1, a2, c2, rs[i].2⟩, h4.mono (Nat.zero_le _), fun ad e hg => ?_⟩, fun _ => ⟨h1, h2, by rw [List.getElem?_eq_getElem hi]; rfl⟩⟩
    obtain ⟨vs', z', h5⟩ := h4.t ad e
    rw [hg, ho] at h5
    simp at h5
  · exact ⟨default, fun h => absurd h hi⟩
theorem heap_sortK {W : World} {g k m : Nat} {α : Type} [Inhabited α] (enc : α → List Value) (d : Array α) (os : Array Obj) (j : Nat) (hj : j < W.heap.size) (hne : j ≠ g) : (sortWorldK enc k W g 0 m d os).heap[j]? = W.heap[j]? := by
  show ((W.heap.modify g _) ++ os)[j]? = _
  rw [Array.getElem?_append_left (by simpa using hj), Array.getElem?_modify, if_neg (by omega)]
theorem obj_sortK {W : World} {g k m : Nat} {α : Type} [Inhabited α] (enc : α → List Value) (d : Array α) (os : Array Obj) {cur : Array Value} {e : TypeId} (ho : W.heap[g]? = some (.cells cur e (0, 0))) :
    ∃ cur', cur'.size = cur.size ∧ (sortWorldK enc k W g 0 m d os).heap[g]? = some (.cells cur' e (0, 0)) := by
  have hl := (Array.getElem?_eq_some_iff.1 ho).1
  refine ⟨putCells id 0 (flatK enc k d) cur, by simp [putCells], ?_⟩
  show ((W.heap.modify g _) ++ os)[g]? = _
  rw [Array.getElem?_append_left (by simpa using hl), Array.getElem?_modify, if_pos rfl, ho]
  rfl
theorem size_sortK {W : World} {g k m : Nat} {α : Type} [Inhabited α] (enc : α → List Value) (d : Array α) (os : Array Obj) : W.heap.size ≤ (sortWorldK enc k W g 0 m d os).heap.size := by
  show _ ≤ ((W.heap.modify g _) ++ os).size
  simp
theorem below_sortK {W : World} {B g k m : Nat} (hB : B ≤ g) (hg : g < W.heap.size) {α : Type} [Inhabited α] (enc : α → List Value) (d : Array α) (os : Array Obj) : Below B W (sortWorldK enc k W g 0 m d os) :=
  ⟨rfl, rfl, rfl, size_sortK enc d os, fun j hj => heap_sortK enc d os j (by omega) (by omega)⟩
theorem flat2 {α : Type} [Inhabited α] (enc : α → List Value) (d : Array α) {i : Nat} (hi : i < d.size) {x y : Value} (h : enc d[i]! = [x, y]) : (flatK enc 2 d)[i * 2]! = x ∧ (flatK enc 2 d)[i * 2 + 1]! = y := by
  rw [get_flatK _ _ _ _ (by omega), get_flatK _ _ _ _ (by omega), show i * 2 / 2 = i by omega, show (i * 2 + 1) / 2 = i by omega, show i * 2 % 2 = 0 by omega, show (i * 2 + 1) % 2 = 1 by omega, h]
  exact ⟨rfl, rfl⟩
/-- What the sort and CompactFunc make of a row of readings. -/
theorem Sort_any {W : World} {B g c : Nat} {vs : List Value} {rs : List Rd} (hl : rs.length ≤ 15625) (hown : W.ownsRow B 62 2 (.slice (some ⟨g, 0, none⟩) rs.length c) rs.length vs) (hv : RvS B W vs rs) :
    Calls Try.prog 62 #[.slice (some ⟨g, 0, none⟩) rs.length c, .func (.func 60) #[] #[]] W fun e w' => e = .returned (.tuple #[]) ∧ Below B W w' ∧ Calls Try.prog 63 #[.slice (some ⟨g, 0, none⟩) rs.length c, .func (.func 64) #[] #[]] w' (CfP B w' (dN (rs.map (·.2)))) := by
  obtain ⟨hBg, hnc, hcm, cur, ho, hcs⟩ := own_obj62 hown
  have hgl : g < W.heap.size := (Array.getElem?_eq_some_iff.1 ho).1
  let Q : Nat → Rs W g := fun i => Classical.choose (rs_pick hown hv i)
  have hQ : ∀ i, i < rs.length → vs[i * 2]? = some (.slice (Q i).1.a1 (Q i).1.n1 (Q i).1.c1) ∧ vs[i * 2 + 1]? = some (.slice (Q i).1.a2 (Q i).1.l.length (Q i).1.c2) ∧ rs[i]?.map (·.2) = some (Q i).1.l := fun i => Classical.choose_spec (rs_pick hown hv i)
  obtain ⟨d, hd⟩ : ∃ d : Array (Rs W g), d = ((List.range rs.length).map Q).toArray := ⟨_, rfl⟩
  have hds : d.size = rs.length := by rw [hd]; simp
  have hdi : ∀ i, i < rs.length → d[i]! = Q i := fun i hi => by
    rw [getElem!_pos d i (by omega)]
    simp [hd]
  have hdl : d.toList.map (fun q => q.1.l) = rs.map (·.2) := by
    apply List.ext_getElem?
    intro i
    rw [List.getElem?_map, List.getElem?_map]
    by_cases hi : i < rs.length
    · rw [(hQ i hi).2.2, hd]; simp [hi]
    · rw [List.getElem?_eq_none (by simp; omega), List.getElem?_eq_none (by omega)]; rfl
  have hH : HoldsK Rs.enc 2 W g 0 d := fun j hj => by
    rw [size_flatK] at hj
    refine ⟨?_, own_free62 hown _⟩
    have hi : j / 2 < rs.length := by omega
    have hf := flat2 Rs.enc d (i := j / 2) (by omega) (x := .slice (Q (j / 2)).1.a1 (Q (j / 2)).1.n1 (Q (j / 2)).1.c1) (y := .slice (Q (j / 2)).1.a2 (Q (j / 2)).1.l.length (Q (j / 2)).1.c2) (by rw [hdi _ hi]; rfl)
    have hq := hQ _ hi
    rw [Nat.zero_add, World.ownsRow.cellAt hown j (by omega)]
    have hm : j = j / 2 * 2 ∨ j = j / 2 * 2 + 1 := by omega
    rcases hm with hm | hm
    · rw [hm, show j / 2 * 2 / 2 = j / 2 by omega] at *
      rw [hf.1]; exact hq.1
    · rw [← hm] at hf hq
      rw [hf.2]; exact hq.2.1
  have hlay : CmpLays Try.prog 60 #[] Rs.enc 2 (fun x y : Rs W g => cmpL x.1.l y.1.l) g 0 d.size W := fun m os dk hdk x y => by
    have hx := Rgd.of x.2 (size_sortK Rs.enc dk os) (fun k hk hne => heap_sortK (k := 2) (m := m) Rs.enc dk os k hk hne)
    have hy := Rgd.of y.2 (size_sortK Rs.enc dk os) (fun k hk hne => heap_sortK (k := 2) (m := m) Rs.enc dk os k hk hne)
    exact Lists1_any x.1 y.1 _ hx.1.i hy.1.i
  have eg : ∀ args w, (callFunc 60 args).run Try.prog w = .ok (.enter 60 args) w := enters_of Try.func60 (by kernel_rfl) rfl
  have hcon := AnyQ.slices_SortFunc Try.sortRd 2 Try.isAgg62 Try.sizeOf62 Rs.enc (fun _ => rfl) (fun x v hv => by simp [Rs.enc, Rq.enc] at hv; rcases hv with rfl | rfl <;> rfl) (fun x y : Rs W g => cmpL x.1.l y.1.l) (cmpL_swo (fun x : Rs W g => x.1.l)) 60 #[] g 0 c d W eg hlay hH hgl (by omega)
  change Calls Try.prog 62 _ _ _ at hcon
  rw [hds] at hcon
  refine hcon.mono ?_
  rintro e w' ⟨rfl, d', m, os, hp, hs, rfl⟩
  have hps : d'.size = rs.length := hp.1.trans hds
  have hbl := below_sortK (k := 2) (m := m) hBg hgl Rs.enc d' os
  refine ⟨rfl, hbl, ?_⟩
  have hH' := holdsK_sortWorldK_c Rs.enc 2 W g 0 d d' m os hH hgl hp.1
  obtain ⟨cur', hcs', ho'⟩ := obj_sortK (k := 2) (m := m) Rs.enc d' os ho
  have hC : Cpt B (sortWorldK Rs.enc 2 W g 0 m d' os) (sortWorldK Rs.enc 2 W g 0 m d' os) g rs.length 0 (fun i => d'[i]!.1) := by
    refine ⟨Below.refl _ _, ⟨cur', ho', by omega, fun i _ hi => ?_⟩, fun i hi => Rgd.of (d'[i]!).2 (size_sortK Rs.enc d' os) (fun k hk hne => heap_sortK Rs.enc d' os k hk hne)⟩
    have hf := flat2 Rs.enc d' (i := i) (by omega) (x := .slice (d'[i]!).1.a1 (d'[i]!).1.n1 (d'[i]!).1.c1) (y := .slice (d'[i]!).1.a2 (d'[i]!).1.l.length (d'[i]!).1.c2) rfl
    have e1 := (hH' (i * 2) (by rw [size_flatK]; omega)).1
    have e2 := (hH' (i * 2 + 1) (by rw [size_flatK]; omega)).1
    rw [hf.1, Nat.zero_add] at e1
    rw [hf.2, Nat.zero_add] at e2
    simp only [World.cell?, ho'] at e1 e2
    exact ⟨e1, e2⟩
  have hk := kp_dN (fun i => (d'[i]!).1.l) rs.length (fun i j hij hj hlt => by
    have := hs i j (Nat.zero_le _) hij (by omega)
    simp only [ltOf, decide_eq_false_iff_not] at this
    exact this hlt)
  have hl2 : (List.range rs.length).map (fun i => (d'[i]!).1.l) = d'.toList.map (fun q => q.1.l) := by
    apply List.ext_getElem
    · simp [hps]
    · intro i h1 h2
      simp at h1
      simp [getElem!_pos d' i (by omega)]
  have hpm : (d'.toList.map (fun q => q.1.l)).Perm (rs.map (·.2)) := by
    rw [← hdl]
    have h3 := hp.2.2
    have e1 : d'.extract 0 rs.length = d' := by rw [← hps]; simp
    have e2 : d.extract 0 rs.length = d := by rw [← hds]; simp
    rw [e1, e2] at h3
    exact h3.map _
  rw [hl2, dN_perm hpm] at hk
  have := CompactFunc_any B g rs.length c (fun i => d'[i]!.1) _ hBg hC hnc hcm
  rw [hk] at this
  exact this
/-- How many lists a train has. -/
def lsN (X : Pu) : Nat := if erX X true = 0 then dN ((RS X).map (·.2)) else 0
set_option maxRecDepth 100000 in
set_option maxHeartbeats 2000000 in
theorem Lists_any (aT : Option Addr) (cT : Nat) (X : Pu) (w : World) (hX : Ints w aT X.ts) : Calls Try.prog 26 #[.agg #[.int .i64 X.l, .int .i64 X.n, .int .i64 X.pi, .int .i64 X.sl, .int .i64 X.ga, .int .i64 X.pa, .int .i64 X.sp, .slice aT X.ts.length cT]] w fun e w' => e = .returned (.tuple #[.int .i64 (lsN X), .int .i64 (erX X true)]) ∧ Below w.heap.size w w' := by
  obtain ⟨W, hW, hb, _, x0⟩ := boxes1 w #[.int .i64 X.l, .int .i64 X.n, .int .i64 X.pi, .int .i64 X.sl, .int .i64 X.ga, .int .i64 X.pa, .int .i64 X.sp, .slice aT X.ts.length cT] 24
  have hk1 := ask_bad aT cT X true W (hX.below hb (Nat.le_refl _))
  have hk2 := ask_ok aT cT X true W (hX.below hb (Nat.le_refl _))
  have e1 : erO (chkE X true) (rdL X X.sp.toNat) = erX X true := rfl
  have e2 : rdL X X.sp.toNat = RS X := rfl
  have hz := fun h => erO_zero (X := X) (o := true) h
  have hln := fun h => erO_len (X := X) h
  rw [e1] at hk1 hk2 hz
  rw [e2] at hk2 hz hln
  have HM := hid (show lsN X = if erX X true = 0 then dN ((RS X).map (·.2)) else 0 from rfl)
  generalize lsN X = M at *
  generalize erX X true = er at *
  generalize RS X = rs at *
  clear e1 e2
  generalize X.ts.length = n at *
  clear hX
  have c0 := x0.cell 0 rfl; have c1 := x0.cell 1 rfl; have c2 := x0.cell 2 rfl; have c3 := x0.cell 3 rfl; have c4 := x0.cell 4 rfl; have c5 := x0.cell 5 rfl; have c6 := x0.cell 6 rfl; have c7 := x0.cell 7 rfl
  by_cases he : er = 0
  · have hc := hk2 he
    have HR := hid (show M = dN (rs.map (·.2)) by rw [HM.out, if_pos he])
    have HE := hid he
    have hnl := hln (hz he).1
    have hpos : 0 < rs.length := List.length_pos_iff.2 (hz he).2.2
    have hws := hb.size
    clear hk1 hk2 HM he hz hln
    go_enter Try.func26, Try.ntmps26
    go_wp2_with fail
    refine hc.mono ?_
    rintro e V ⟨hb1, a, c, vs, rfl, hown, hrv⟩
    replace hb := hb.trans (hb1.mono hb.size)
    obtain ⟨g, cap, hf⟩ : ∃ g cap, (Value.slice a rs.length c) = .slice (some ⟨g, 0, none⟩) rs.length cap := Go.Joins.ownsRow_form hown hpos
    simp only [Value.slice.injEq, true_and] at hf
    obtain ⟨rfl, rfl⟩ := hf
    have hs := Sort_any hnl hown hrv
    obtain ⟨nl, hnlE⟩ : ∃ nl, nl = rs.length := ⟨_, rfl⟩
    rw [← hnlE] at hs ⊢
    rw [← HR.out] at hs
    clear hown hrv hb1 hc hnl hpos hnlE HR hW c0 c1 c2 c3 c4 c5 c6 c7 x0
    go_wp2_with fail
    refine hs.mono ?_
    rintro e V2 ⟨rfl, hb2, hcf⟩
    go_wp2_with fail
    refine hcf.mono ?_
    rintro e V3 ⟨hb3, a3, c3, rfl⟩
    replace hb := hb.trans (((hb2.trans hb3).mono hws))
    go_wp2
    go_ret2
    exact ⟨by rw [HE.out]; rfl, hb⟩
  · have hc := hk1 he
    have HR := hid (show M = 0 by rw [HM.out, if_neg he])
    clear hk1 hk2 HM hz hln
    go_enter Try.func26, Try.ntmps26
    go_wp2_with fail
    refine hc.mono ?_
    rintro e V ⟨rfl, hb1⟩
    replace hb := hb.trans (hb1.mono hb.size)
    clear hb1 hc hW c0 c1 c2 c3 c4 c5 c6 c7 x0
    go_wp2
    go_ret2
    exact ⟨by rw [HR.out]; rfl, hb⟩
end Go.Proofs.Yteianfbdhakhpaa
/-! Fewest. -/
namespace Go.Proofs.Yteianfbdhakhpaa
set_option linter.unusedSimpArgs false
set_option linter.unusedVariables false
open Go Go.RowKit

attribute [local go_sem] Oper.semAt_some

def fewM (rs : List Rd) : Nat := rs.foldl (fun m r => min m r.1.length) 4
theorem fewM_snoc (rs : List Rd) (r : Rd) : fewM (rs ++ [r]) = min (fewM rs) r.1.length := by unfold fewM; rw [List.foldl_append]; rfl
theorem fewM_le : ∀ (rs : List Rd), fewM rs ≤ 4 := by
  have : ∀ (rs : List Rd) (m : Nat), rs.foldl (fun m r => min m r.1.length) m ≤ m := by
    intro rs
    induction rs with
    | nil => exact fun m => Nat.le_refl _
    | cons r rs ih => exact fun m => Nat.le_trans (ih _) (Nat.min_le_left _ _)
  exact fun rs => this rs 4
def fewX (X : Pu) : Nat := fewM (rdL X 3)
def fewE (X : Pu) : Int := if vB X = true then (if 3 < fewX X then 3 else 0) else 130
def fewN (X : Pu) : Nat := if fewE X = 0 then fewX X else 0

set_option maxRecDepth 100000 in
set_option maxHeartbeats 6000000 in
theorem Fewest_any (aT : Option Addr) (cT : Nat) (X : Pu) (w : World) (hX : Ints w aT X.ts) : Calls Try.prog 22 #[.agg #[.int .i64 X.l, .int .i64 X.n, .int .i64 X.pi, .int .i64 X.sl, .int .i64 X.ga, .int .i64 X.pa, .int .i64 X.sp, .slice aT X.ts.length cT]] w fun e w' => e = .returned (.tuple #[.int .i64 (fewN X), .int .i64 (fewE X)]) ∧ Below w.heap.size w w' := by
  refine calls_of_wp_marks Try.func22 rfl ?_
  simp only [Try.ntmps22, List.size_toArray, List.length_cons, List.length_nil, Nat.reduceAdd, Nat.reduceSub, Array.replicate_succ, Array.replicate_zero, List.push_toArray, List.append_toArray, List.nil_append, List.cons_append]
  obtain ⟨W, hW, hb, hs, x0⟩ := boxes1 w #[.int .i64 X.l, .int .i64 X.n, .int .i64 X.pi, .int .i64 X.sl, .int .i64 X.ga, .int .i64 X.pa, .int .i64 X.sp, .slice aT X.ts.length cT] 24
  have hck := fun V (h : Below w.heap.size w V) => check_any aT cT X true V (hX.below h (Nat.le_refl _))
  obtain ⟨n, hn⟩ : ∃ n, n = X.ts.length := ⟨_, rfl⟩
  have hch : chkE X true = if vB X = true then 0 else 130 := by unfold chkE; simp
  have HFE := hid (show fewE X = if vB X = true then (if 3 < fewX X then 3 else 0) else 130 from rfl)
  have HFN := hid (show fewN X = if fewE X = 0 then fewX X else 0 from rfl)
  have HFX := hid (show fewX X = fewM (rdL X 3) from rfl)
  generalize fewE X = FE at *
  generalize fewN X = FN at *
  generalize fewX X = FX at *
  cases hv : vB X with
  | false =>
    rw [hv] at hch HFE
    have hE2 : ((130 : Int) != 0) = true := by decide
    have HR := hid (show FE = 130 by rw [HFE.out]; rfl)
    have HR2 := hid (show FN = 0 by rw [HFN.out, HR.out]; rfl)
    rw [hch] at hck
    simp only [Bool.false_eq_true, if_false] at hck
    rw [← hn] at x0 hW hck ⊢
    clear hn hch HFE HFN HFX hv hX
    have c0 := x0.cell 0 rfl; have c1 := x0.cell 1 rfl; have c2 := x0.cell 2 rfl; have c3 := x0.cell 3 rfl; have c4 := x0.cell 4 rfl; have c5 := x0.cell 5 rfl; have c6 := x0.cell 6 rfl; have c7 := x0.cell 7 rfl
    go_wp2_with fail
    refine (hck _ hb).mono ?_
    rintro e V1 ⟨rfl, hb1⟩
    replace hb := hb.trans (hb1.mono hb.size)
    clear hb1 hW c0 c1 c2 c3 c4 c5 c6 c7 x0 hck
    go_wp2
    refine leaves_marks (B := w.heap.size) [] _ trivial fun w' hc => ?_
    refine ⟨_, results_tmp2 rfl _ _ _, ?_⟩
    exact ⟨by rw [HR.out, HR2.out]; rfl, hb.trans hc.1⟩
  | true =>
  rw [hv] at hch HFE
  simp only [if_true] at hch HFE
  rw [hch] at hck
  obtain ⟨ok, hsp, htm⟩ := vB_ok hv
  obtain ⟨h24, hr⟩ := timesB_rng htm
  have hrd := fun V => readings_any aT cT X 3 V
  have hit0 := fun C B h1 h2 g1 g2 h3 V h4 k1 k2 => readings_iter aT cT X ok h24 hr 3 (Nat.le_refl _) w hX C B h1 h2 g1 g2 h3 V h4 k1 k2
  rw [← hn] at x0 hW hck hrd hit0 ⊢
  obtain ⟨RS, hRS⟩ : ∃ RS, RS = rdL X 3 := ⟨_, rfl⟩
  rw [← hRS] at hit0 HFX
  have hee : ((0 : Int) != 0) = false := by simp
  clear hv ok hsp htm h24 hr hn hRS hch
  have c0 := x0.cell 0 rfl; have c1 := x0.cell 1 rfl; have c2 := x0.cell 2 rfl; have c3 := x0.cell 3 rfl; have c4 := x0.cell 4 rfl; have c5 := x0.cell 5 rfl; have c6 := x0.cell 6 rfl; have c7 := x0.cell 7 rfl
  go_wp2_with fail
  refine (hck _ hb).mono ?_
  rintro e V1 ⟨rfl, hb1⟩
  clear c0 c1 c2 c3 c4 c5 c6 c7 hck
  replace x0 := x0.below hb1
  have hb2 := hb.trans (hb1.mono hb.size)
  have hs1 := hb1.size
  clear hb1 hW hb
  obtain ⟨V2, hV2⟩ : ∃ V2, V2 = V1.alloc (.cells #[.int .i64 4] 3) := ⟨_, rfl⟩
  have hba := below_one (w := V1) (.cells #[.int .i64 4] 3)
  have hfb := Bx.new V1 #[.int .i64 4] 3
  rw [← hV2] at hba hfb
  have x1 := x0.below hba
  have hb3 := hb2.trans (hba.mono hb2.size)
  have hs2 : V2.heap.size = V1.heap.size + 1 := by rw [hV2]; simp
  have HV2 := hid hV2
  clear hba hV2 x0
  go_upto_region 5 with fail
  rw [← HV2.out]
  obtain ⟨fb, hfb'⟩ : ∃ fb, fb = V1.heap.size := ⟨_, rfl⟩
  rw [← hfb'] at hfb hs1 hs2 ⊢
  have hfw : w.heap.size ≤ fb := by rw [hfb']; exact hb2.size
  clear hfb' HV2 hb2
  have c0 := x1.cell 0 rfl; have c1 := x1.cell 1 rfl; have c2 := x1.cell 2 rfl; have c3 := x1.cell 3 rfl; have c4 := x1.cell 4 rfl; have c5 := x1.cell 5 rfl; have c6 := x1.cell 6 rfl; have c7 := x1.cell 7 rfl
  go_wp2_with fail
  refine (hrd _).mono ?_
  rintro e V3 ⟨rfl, z1, z2, hb4⟩
  clear c0 c1 c2 c3 c4 c5 c6 c7 hrd x1
  replace hfb := hfb.below hb4
  replace hb3 := hb3.trans (hb4.mono hb3.size)
  have hs3 := hb4.size
  have hz2 := z2.lt
  clear hb4
  go_wp2_with fail

  rw [hs2] at z1 z2 hs3
  have hV3 : fb + 1 + 1 < V3.heap.size := by omega
  have hfl := hfb.lt
  have hw3 := hb3.size
  refine wp_rangeFuncF (α := Rd) (gf := 81) (bd := #[]) (lb := #[.pointer (some ⟨fb + 1, 0, none⟩), .pointer (some ⟨fb + 1 + 1, 0, none⟩)]) (E := ER) (xs := RS) 62 w.heap.size (fun k => k = fb) (fun k h => by omega) rfl (enters_of Try.func81 (by kernel_rfl) rfl) (fun x vs W hE => by obtain ⟨a1, c1, a2, c2, rfl, _⟩ := hE; rfl)
    (hit0 _ _ (fun k h => by rcases h with h | h | h <;> omega) (fun k h => by rcases h with h | h | h <;> omega) (fb + 1) (fb + 1 + 1) (fun h => by rcases h with h | h | h <;> omega) V3 hb3 z1 z2)
    (fun pre W => Bx W fb #[.int .i64 (fewM pre : Int)] 3 ∧ Below w.heap.size w W) ?hI ?h0
    (fun x a' W => ∃ (a1 : Option Addr) (c1 : Nat) (a2 : Option Addr) (c2 : Nat) (rb : Nat), Bx W rb #[.slice a1 x.1.length c1, .slice a2 x.2.length c2] 62 ∧ V3.heap.size + 2 ≤ rb ∧ a' = { tmps := #[.agg #[.int .i64 X.l, .int .i64 X.n, .int .i64 X.pi, .int .i64 X.sl, .int .i64 X.ga, .int .i64 X.pa, .int .i64 X.sp, .slice aT n cT], .pointer (some ⟨w.heap.size, 0, none⟩), .int .i64 0, .int .i64 0, .int .i64 0, .pointer (some ⟨fb, 0, none⟩), .pointer (some ⟨rb, 0, none⟩), .agg #[.int .i64 X.l, .int .i64 X.n, .int .i64 X.pi, .int .i64 X.sl, .int .i64 X.ga, .int .i64 X.pa, .int .i64 X.sp, .slice aT n cT], .int .i64 0, .int .i64 0, .bool false, undef, .agg #[.int .i64 X.l, .int .i64 X.n, .int .i64 X.pi, .int .i64 X.sl, .int .i64 X.ga, .int .i64 X.pa, .int .i64 X.sp, .slice aT n cT], .func (.func 81) #[] #[.pointer (some ⟨fb + 1, 0, none⟩), .pointer (some ⟨fb + 1 + 1, 0, none⟩)], .agg #[.slice a1 x.1.length c1, .slice a2 x.2.length c2], undef, undef, undef, undef, undef, undef, undef, undef], defers := [] }) ?hAx ?assign ?body ?done
  case hI =>
    rintro pre W W' ⟨i1, i4⟩ hs'
    exact ⟨hs'.bx i1, i4.trans (hs'.1.mono (by omega))⟩
  case h0 => exact ⟨hfb, hb3⟩
  case hAx =>
    rintro x a' W W' ⟨a1, c1, a2, c2, rb, k1, k2, k5⟩ hs'
    exact ⟨a1, c1, a2, c2, rb, hs'.bx k1, k2, k5⟩
  case assign =>
    rintro l' pre x vs W K hx ⟨i1, i4⟩ ⟨a1, c1, a2, c2, rfl, hE1, hE2⟩ hsz hK
    have hba := below_one (w := W) (.cells #[.slice a1 x.1.length c1, .slice a2 x.2.length c2] 62)
    have HK := hid (hK)
    have HH := hid (And.intro (Kc.of_below (T := 62) (n0 := w.heap.size) (C := fun k => k = fb) hba) (And.intro (i1.below hba) (And.intro (i4.trans (hba.mono (by omega))) (Bx.new W #[.slice a1 x.1.length c1, .slice a2 x.2.length c2] 62))))
    clear hK hba i1 i4 hE1 hE2 hit0 z1 z2 hfb
    refine wpIn_region_plain rfl ?_
    go_wp2_with fail
    obtain ⟨q1, q2, q5, q6⟩ := HH.out
    exact HK.out _ _ q1 ⟨q2, q5⟩ ⟨a1, c1, a2, c2, W.heap.size, q6, hsz, rfl⟩
  case body =>
    rintro l' pre x a' W hx ⟨i1, i4⟩ ⟨a1, c1, a2, c2, rb, k1, k2, rfl⟩ hsz
    have HSN := hid (fewM_snoc pre x)
    have h4 := fewM_le pre
    generalize fewM (pre ++ [x]) = FN2 at *
    generalize fewM pre = F1 at *
    generalize x.1.length = n1 at *
    generalize x.2.length = n2 at *
    have v0 := i1.cell 0 rfl
    have v0f := i1.free 0
    have u0 := k1.cell 0 rfl
    have hmin : min (F1 : Int) (n1 : Int) = ((min F1 n1 : Nat) : Int) := by omega
    have j4 : Bx (W.setCell ⟨fb, 0, none⟩ (.int .i64 (FN2 : Int))) fb #[.int .i64 (FN2 : Int)] 3 := by have := i1.set 0 (.int .i64 (FN2 : Int)); simpa using this
    have hk2 := Kc.set (n0 := w.heap.size) (T := 62) (C := fun k => k = fb) (a := W) (p := ⟨fb, 0, none⟩) rfl (.int .i64 (FN2 : Int))
    have hbl := i4.trans (hk2.below (fun k e => by omega) (by omega))
    have HF := hid (And.intro hk2 (And.intro j4 hbl))
    rw [← HSN.out] at hmin
    clear i1 i4 k1 hit0 z1 z2 hfb hk2 j4 hbl hx
    by_cases hle : F1 ≤ n1
    · obtain rfl : FN2 = F1 := by have := HSN.out; omega
      have hleI : (FN2 : Int) ≤ n1 := by omega
      have hleJ : ¬ (n1 : Int) < FN2 := by omega
      have hmm : min (FN2 : Int) (n1 : Int) = (FN2 : Int) := by omega
      clear hle hmin
      refine wpIn_block ?_
      refine wpIn_region_plain rfl ?_
      go_wp2
      exact HF.out
    · obtain rfl : FN2 = n1 := by have := HSN.out; omega
      have hleI : ¬ (F1 : Int) ≤ FN2 := by omega
      have hleJ : (FN2 : Int) < F1 := by omega
      have hmm : min (F1 : Int) (FN2 : Int) = (FN2 : Int) := by omega
      clear hle hmin
      refine wpIn_block ?_
      refine wpIn_region_plain rfl ?_
      go_wp2
      exact HF.out
  case done =>
    rintro W ⟨i1, i4⟩ hD hsz
    have hM := Marks.one hD
    rw [← HFX.out] at i1
    have v0 := i1.cell 0 rfl
    clear i1 hit0 z1 z2 hfb
    by_cases h3 : 3 < FX
    · have h3I : (FX : Int) > 3 := by omega
      have HR := hid (show FE = 3 by rw [HFE.out, if_pos h3])
      have HR2 := hid (show FN = 0 by rw [HFN.out, HR.out]; rfl)
      clear h3
      go_wp2_with fail
      refine leaves_marks _ _ hM fun w' hc => ?_
      refine ⟨_, results_tmp2 rfl _ _ _, ?_⟩
      exact ⟨by rw [HR.out, HR2.out]; rfl, i4.trans (hc.1.mono (by omega))⟩
    · have h3I : ¬ (FX : Int) > 3 := by omega
      have HR := hid (show FE = 0 by rw [HFE.out, if_neg h3])
      have HR2 := hid (show FN = FX by rw [HFN.out, HR.out]; rfl)
      clear h3
      go_wp2_with fail
      refine leaves_marks _ _ hM fun w' hc => ?_
      refine ⟨_, results_tmp2 rfl _ _ _, ?_⟩
      exact ⟨by rw [HR.out, HR2.out]; rfl, i4.trans (hc.1.mono (by omega))⟩
end Go.Proofs.Yteianfbdhakhpaa
