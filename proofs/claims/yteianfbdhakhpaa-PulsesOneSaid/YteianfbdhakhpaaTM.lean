import Derived.Test.YteianfbdhakhpaaTL
/-! slices.CompactFunc at readings: the walk. -/
namespace Go.Proofs.Yteianfbdhakhpaa
set_option linter.unusedSimpArgs false
set_option linter.unusedVariables false
open Go Go.RowKit
theorem run_clear62 (w : World) (ty : TypeId) (b o n c : Nat) (hn : 0 < n) (hc : ∀ j, j < n * 2 → (w.cell? ⟨b, o + j, none⟩).isSome = true) (hf : ∀ j, j < n * 2 → w.frozen? ⟨b, o + j, none⟩ = false) :
    (Builtin.clear_ #[67] ty #[.slice (some ⟨b, o, none⟩) n c]).run Try.prog w = .ok (.tuple #[]) (w.setCells b o (List.replicate (n * 2) (.slice none 0 0))) := by
  have hv : ∀ w, (zeroValue 62).run Try.prog w = .ok (.agg #[.slice none 0 0, .slice none 0 0]) w := Try.zeroValue62
  have hzc : (Builtin.zeroCells (Value.agg #[.slice none 0 0, .slice none 0 0]).cells n).toList = List.replicate (n * 2) (.slice none 0 0) := by
    simp [Builtin.zeroCells, Value.cells]
    apply List.ext_getElem
    · simp
    · intro i h1 h2
      have hm : i % 2 = 0 ∨ i % 2 = 1 := by omega
      rcases hm with hm | hm <;> simp [hm]
  have hst := run_storeCells_cells (P := Try.prog) b o (List.replicate (n * 2) (.slice none 0 0)) 0 w (by simpa using hc) (by simpa using hf) (by intro v hv'; rw [List.eq_of_mem_replicate hv']; rfl)
  simp only [Nat.add_zero] at hst
  obtain ⟨m, rfl⟩ : ∃ m, n = m + 1 := ⟨n - 1, by omega⟩
  simp [Builtin.clear_, run_underlying (show Try.prog.underlying 67 = some (.slice 62) from by kernel_rfl), hv, hzc, hst]
/-- What CompactFunc leaves. -/
def CfP (B : Nat) (w0 : World) (k : Nat) (e : Ending) (w' : World) : Prop := Below B w0 w' ∧ ∃ (a : Option Addr) (c : Nat), e = .returned (.slice a k c)
set_option maxRecDepth 100000 in
set_option maxHeartbeats 1000000 in
theorem CompactFunc_any (B : Nat) (blk n cap : Nat) (Q : Nat → Rq) (w : World) (hB : B ≤ blk) (h0 : Cpt B w w blk n 0 Q) (hcap : n ≤ cap) (hcm : cap ≤ 9223372036854775807) : Calls Try.prog 63 #[.slice (some ⟨blk, 0, none⟩) n cap, .func (.func 64) #[] #[]] w (CfP B w (kp (fun i => (Q i).l) n)) := by
  have HKE := hid (show ∀ i j, i = j + 1 → (Q i).l = (Q j).l → kp (fun i => (Q i).l) (i + 1) = kp (fun i => (Q i).l) i from fun i j => kp_eq (Q := fun i => (Q i).l))
  have HKN := hid (show ∀ i j, i = j + 1 → (Q i).l ≠ (Q j).l → kp (fun i => (Q i).l) (i + 1) = kp (fun i => (Q i).l) i + 1 from fun i j => kp_ne (Q := fun i => (Q i).l))
  have HK1 := hid (show kp (fun i => (Q i).l) 1 = 1 from rfl)
  have HK0 := hid (show kp (fun i => (Q i).l) 0 = 0 from rfl)
  have HKL := hid (show ∀ i, kp (fun i => (Q i).l) i ≤ i from kp_le _)
  generalize kp (fun i => (Q i).l) = K at *
  by_cases h2 : n < 2
  · have h2I : (n : Int) < 2 := by omega
    have HR := hid (show K n = n by
      have : n = 0 ∨ n = 1 := by omega
      rcases this with rfl | rfl
      · exact HK0.out
      · exact HK1.out)
    clear h0
    go_enter Try.func63, Try.ntmps63
    go_wp2
    go_ret
    exact ⟨Below.refl _ _, some ⟨blk, 0, none⟩, cap, by rw [HR.out]; rfl⟩
  · have h2I : ¬ (n : Int) < 2 := by omega
    go_enter Try.func63, Try.ntmps63
    go_wp2
    go_loopw [5] (fun v5 wr => ∃ k : Nat, 1 ≤ k ∧ k ≤ n ∧ v5 = .int .i64 (k : Int) ∧ Hid (K k = k) ∧ Cpt B w wr blk n 0 Q) (fun v5 _ => n - (intOf v5).toNat)
    case atStart => exact ⟨1, Nat.le_refl _, by omega, rfl, HK1, h0⟩
    case round =>
      clear h0
      obtain ⟨k, hk1, hk, rfl, HK, hC⟩ := hrel
      by_cases hlt : k < n
      · obtain ⟨k1, hkk⟩ : ∃ k1, k1 = k - 1 := ⟨_, rfl⟩
        have hkI : (k : Int) < n := by omega
        have hk0 : (0 : Int) ≤ (k : Int) := by omega
        have hk1I : (k1 : Int) < n := by omega
        have hk10 : (0 : Int) ≤ (k1 : Int) := by omega
        have ewk : IntKind.i64.wrap ((k : Int) - 1) = (k1 : Int) := by rw [IntWalk.i64_in _ (by omega)]; omega
        have HKK := hid hkk
        clear hkk
        have hBW := (hC.row)
        go_upto_region 6 with fail
        clear hBW
        have S0 : BlS wr wr.drew := (Below.refl wr.heap.size wr).drew
        refine wp_region_headW 11 (fun w' => BlS wr w') (by kernel_rfl) (by kernel_rfl) ?_
        generalize wr.drew = Y0 at *
        refine HeadAt.takeW (i := 0) (.func (.func 64) #[] #[]) rfl (by kernel_rfl) (.inl ⟨rfl, fun _ _ => by simp [go_sem]⟩) S0 ?_
        (try simp only [Act.put, List.getElem_toArray, List.getElem_cons_succ, List.getElem_cons_zero, List.setIfInBounds_toArray, List.set_cons_succ, List.set_cons_zero])
        refine HeadAt.takeW (i := 1) (.slice (some ⟨blk, 0, none⟩) n cap) rfl (by kernel_rfl) (.inl ⟨rfl, fun _ _ => by simp [go_sem]⟩) S0 ?_
        (try simp only [Act.put, List.getElem_toArray, List.getElem_cons_succ, List.getElem_cons_zero, List.setIfInBounds_toArray, List.set_cons_succ, List.set_cons_zero])
        refine HeadAt.takeW (i := 2) (.int .i64 (k : Int)) rfl (by kernel_rfl) (.inl ⟨rfl, fun _ _ => by simp [go_sem]⟩) S0 ?_
        (try simp only [Act.put, List.getElem_toArray, List.getElem_cons_succ, List.getElem_cons_zero, List.setIfInBounds_toArray, List.set_cons_succ, List.set_cons_zero])
        refine HeadAt.takeW (i := 3) (.pointer (some ⟨blk, k * 2, none⟩)) rfl (by kernel_rfl) (.inl ⟨rfl, fun w' z => ?_⟩) S0 ?_
        · (simp [go_sem, hkI, hk0, hlt])
        (try simp only [Act.put, List.getElem_toArray, List.getElem_cons_succ, List.getElem_cons_zero, List.setIfInBounds_toArray, List.set_cons_succ, List.set_cons_zero])
        refine HeadAt.takeW (i := 4) (.agg #[.slice (Q k).a1 (Q k).n1 (Q k).c1, .slice (Q k).a2 (Q k).l.length (Q k).c2]) rfl (by kernel_rfl) (.inl ⟨rfl, fun w' z => ?_⟩) S0 ?_
        · (have zc := (hC.grow hB z).cell (i := k) (Nat.zero_le _) (by have := HKK.out; omega); have z1 := zc.1; have z2 := zc.2; simp [go_sem, z1, z2])
        (try simp only [Act.put, List.getElem_toArray, List.getElem_cons_succ, List.getElem_cons_zero, List.setIfInBounds_toArray, List.set_cons_succ, List.set_cons_zero])
        refine HeadAt.takeW (i := 5) (.slice (some ⟨blk, 0, none⟩) n cap) rfl (by kernel_rfl) (.inl ⟨rfl, fun _ _ => by simp [go_sem]⟩) S0 ?_
        (try simp only [Act.put, List.getElem_toArray, List.getElem_cons_succ, List.getElem_cons_zero, List.setIfInBounds_toArray, List.set_cons_succ, List.set_cons_zero])
        refine HeadAt.takeW (i := 6) (.int .i64 (k : Int)) rfl (by kernel_rfl) (.inl ⟨rfl, fun _ _ => by simp [go_sem]⟩) S0 ?_
        (try simp only [Act.put, List.getElem_toArray, List.getElem_cons_succ, List.getElem_cons_zero, List.setIfInBounds_toArray, List.set_cons_succ, List.set_cons_zero])
        refine HeadAt.takeW (i := 7) (.int .i64 (k1 : Int)) rfl (by kernel_rfl) (.inl ⟨rfl, fun w' z => ?_⟩) S0 ?_
        · (simp [go_sem, ewk])
        (try simp only [Act.put, List.getElem_toArray, List.getElem_cons_succ, List.getElem_cons_zero, List.setIfInBounds_toArray, List.set_cons_succ, List.set_cons_zero])
        refine HeadAt.takeW (i := 8) (.pointer (some ⟨blk, k1 * 2, none⟩)) rfl (by kernel_rfl) (.inl ⟨rfl, fun w' z => ?_⟩) S0 ?_
        · (simp [go_sem, hk1I, hk10])
        (try simp only [Act.put, List.getElem_toArray, List.getElem_cons_succ, List.getElem_cons_zero, List.setIfInBounds_toArray, List.set_cons_succ, List.set_cons_zero])
        refine HeadAt.takeW (i := 9) (.agg #[.slice (Q k1).a1 (Q k1).n1 (Q k1).c1, .slice (Q k1).a2 (Q k1).l.length (Q k1).c2]) rfl (by kernel_rfl) (.inl ⟨rfl, fun w' z => ?_⟩) S0 ?_
        · (have zc := (hC.grow hB z).cell (i := k1) (Nat.zero_le _) (by have := HKK.out; omega); have z1 := zc.1; have z2 := zc.2; simp [go_sem, z1, z2])
        (try simp only [Act.put, List.getElem_toArray, List.getElem_cons_succ, List.getElem_cons_zero, List.setIfInBounds_toArray, List.set_cons_succ, List.set_cons_zero])
        skip
        refine HeadAt.one (i := 10) rfl (by kernel_rfl) ?_
        generalize hK : Upto _ _ = K0
        (try simp only [Act.put, List.getElem_toArray, List.getElem_cons_succ, List.getElem_cons_zero, List.setIfInBounds_toArray, List.set_cons_succ, List.set_cons_zero])
        replace hC := hC.grow hB S0
        have hsl := sameList_any (Q k).a1 (Q k1).a1 (Q k).a2 (Q k1).a2 (Q k).c1 (Q k1).c1 (Q k).c2 (Q k1).c2 (Q k).n1 (Q k1).n1 (Q k).l (Q k1).l Y0 (hC.good k hlt).1.i (hC.good k1 (by have := HKK.out; omega)).1.i
        by_cases heq : (Q k).l = (Q k1).l
        · rw [decide_eq_true heq] at hsl
          have HKS := hid (HKE.out k k1 (by have := HKK.out; omega) heq)
          clear heq
          go_wp2_with fail
          refine hsl.mono ?_
          rintro e V1 ⟨rfl, hb1⟩
          go_wp2_with fail
          replace hC := hC.grow hB hb1
          replace S0 : BlS wr V1 := Below.trans S0 (hb1.mono (Below.size S0))
          subst hK
          refine ⟨S0, ?_⟩
          clear S0 hsl hb1
          (try simp only [Act.put, List.getElem_toArray, List.getElem_cons_succ, List.getElem_cons_zero, List.setIfInBounds_toArray, List.set_cons_succ, List.set_cons_zero])
          refine HeadAt.done (by kernel_rfl) ?_
          (try simp only [Act.put, List.drop_succ_cons, List.drop_zero, List.getElem_toArray, List.getElem_cons_succ, List.getElem_cons_zero])
          go_wp2_with fail
          refine NoPanic.normal ?_
          obtain ⟨r, hr⟩ : ∃ r, r = n - k := ⟨_, rfl⟩
          obtain ⟨rc, hrc⟩ : ∃ rc, rc = cap - k := ⟨_, rfl⟩
          have htn : ((n : Int) - (k : Int)).toNat = r := by omega
          have htn2 : n - k = r := hr.symm
          have htc2 : cap - k = rc := hrc.symm
          have htc : ((cap : Int) - (k : Int)).toNat = rc := by omega
          have hkle : (k : Int) ≤ (n : Int) := by omega
          have hkc : (k : Int) ≤ (cap : Int) := by omega
          have hne : ¬ cap = k := by omega
          have hrn : n = k + r := by omega
          have HRN := hid (And.intro hrn hr)
          have hrp : 1 ≤ r := by omega
          have hri : r ≤ 9223372036854775807 := by omega
          clear hr hrc hrn
          skip
          go_wp2
          go_loopw [5, 7] (fun v5 v7 wr => ∃ (kk k2 : Nat), 1 ≤ k2 ∧ k2 ≤ r ∧ 1 ≤ kk ∧ kk < k + k2 ∧ v5 = .int .i64 (kk : Int) ∧ v7 = .int .i64 (k2 : Int) ∧ Hid (K (k + k2) = kk) ∧ Cpt B w wr blk n kk Q) (fun _ v7 _ => r - (intOf v7).toNat)
          case atStart => exact ⟨k, 1, Nat.le_refl _, hrp, hk1, by omega, rfl, rfl, hid (by rw [HKS.out, HK.out]), hC.mono (Nat.zero_le _)⟩
          case round =>
            clear hC
            obtain ⟨kk, k2, h21, h2r, hkk1, hkk2, rfl, rfl, HKC, hC⟩ := hrel
            by_cases hlt2 : k2 < r
            · obtain ⟨k3, hk3⟩ : ∃ k3, k3 = k2 - 1 := ⟨_, rfl⟩
              have h2I : (k2 : Int) < r := by omega
              have h20 : (0 : Int) ≤ (k2 : Int) := by omega
              have h3I : (k3 : Int) < r := by omega
              have h30 : (0 : Int) ≤ (k3 : Int) := by omega
              have hkkI2 : (kk : Int) < n := by have := HRN.out; omega
              have hkk0 : (0 : Int) ≤ (kk : Int) := by omega
              have ewk3 : IntKind.i64.wrap ((k2 : Int) - 1) = (k3 : Int) := by rw [IntWalk.i64_in _ (by omega)]; omega
              have HK3 := hid hk3
              have HNN := hid (show k + k2 < n ∧ k + k3 < n ∧ kk ≤ k + k2 ∧ kk ≤ k + k3 ∧ k + k2 = k + k3 + 1 ∧ kk < n by have := HRN.out; omega)
              obtain ⟨m, hm⟩ : ∃ m, m = k + k2 := ⟨_, rfl⟩
              obtain ⟨m3, hm3⟩ : ∃ m3, m3 = k + k3 := ⟨_, rfl⟩
              have HM := hid (And.intro hm hm3)
              rw [← hm, ← hm3] at HNN
              clear hk3 hm hm3
              have hcl := fun V (h : Cpt B w V blk n kk Q) => Cpt.at2 h HM.out.1 HNN.out.2.2.1 HNN.out.1
              have hcl3 := fun V (h : Cpt B w V blk n kk Q) => Cpt.at2 h HM.out.2 HNN.out.2.2.2.1 HNN.out.2.1
              go_upto_region 11 with fail
              have S0 : BlS wr wr.drew := (Below.refl wr.heap.size wr).drew
              refine wp_region_headW 12 (fun w' => BlS wr w') (by kernel_rfl) (by kernel_rfl) ?_
              generalize wr.drew = Y0 at *
              refine HeadAt.takeW (i := 0) (.func (.func 64) #[] #[]) rfl (by kernel_rfl) (.inl ⟨rfl, fun _ _ => by simp [go_sem]⟩) S0 ?_
              (try simp only [Act.put, List.getElem_toArray, List.getElem_cons_succ, List.getElem_cons_zero, List.setIfInBounds_toArray, List.set_cons_succ, List.set_cons_zero])
              refine HeadAt.takeW (i := 1) (.slice (some ⟨blk, k * 2, none⟩) r rc) rfl (by kernel_rfl) (.inl ⟨rfl, fun _ _ => by simp [go_sem]⟩) S0 ?_
              (try simp only [Act.put, List.getElem_toArray, List.getElem_cons_succ, List.getElem_cons_zero, List.setIfInBounds_toArray, List.set_cons_succ, List.set_cons_zero])
              refine HeadAt.takeW (i := 2) (.int .i64 (k2 : Int)) rfl (by kernel_rfl) (.inl ⟨rfl, fun _ _ => by simp [go_sem]⟩) S0 ?_
              (try simp only [Act.put, List.getElem_toArray, List.getElem_cons_succ, List.getElem_cons_zero, List.setIfInBounds_toArray, List.set_cons_succ, List.set_cons_zero])
              refine HeadAt.takeW (i := 3) (.pointer (some ⟨blk, k * 2 + k2 * 2, none⟩)) rfl (by kernel_rfl) (.inl ⟨rfl, fun w' z => ?_⟩) S0 ?_
              · (simp [go_sem, h2I, h20])
              (try simp only [Act.put, List.getElem_toArray, List.getElem_cons_succ, List.getElem_cons_zero, List.setIfInBounds_toArray, List.set_cons_succ, List.set_cons_zero])
              refine HeadAt.takeW (i := 4) (.agg #[.slice (Q m).a1 (Q m).n1 (Q m).c1, .slice (Q m).a2 (Q m).l.length (Q m).c2]) rfl (by kernel_rfl) (.inl ⟨rfl, fun w' z => ?_⟩) S0 ?_
              · (have zc := hcl w' (hC.grow hB z); have z1 := zc.1; have z2 := zc.2; simp [go_sem, z1, z2])
              (try simp only [Act.put, List.getElem_toArray, List.getElem_cons_succ, List.getElem_cons_zero, List.setIfInBounds_toArray, List.set_cons_succ, List.set_cons_zero])
              refine HeadAt.takeW (i := 5) (.slice (some ⟨blk, k * 2, none⟩) r rc) rfl (by kernel_rfl) (.inl ⟨rfl, fun _ _ => by simp [go_sem]⟩) S0 ?_
              (try simp only [Act.put, List.getElem_toArray, List.getElem_cons_succ, List.getElem_cons_zero, List.setIfInBounds_toArray, List.set_cons_succ, List.set_cons_zero])
              refine HeadAt.takeW (i := 6) (.int .i64 (k2 : Int)) rfl (by kernel_rfl) (.inl ⟨rfl, fun _ _ => by simp [go_sem]⟩) S0 ?_
              (try simp only [Act.put, List.getElem_toArray, List.getElem_cons_succ, List.getElem_cons_zero, List.setIfInBounds_toArray, List.set_cons_succ, List.set_cons_zero])
              refine HeadAt.takeW (i := 7) (.int .i64 (k3 : Int)) rfl (by kernel_rfl) (.inl ⟨rfl, fun w' z => ?_⟩) S0 ?_
              · (simp [go_sem, ewk3])
              (try simp only [Act.put, List.getElem_toArray, List.getElem_cons_succ, List.getElem_cons_zero, List.setIfInBounds_toArray, List.set_cons_succ, List.set_cons_zero])
              refine HeadAt.takeW (i := 8) (.pointer (some ⟨blk, k * 2 + k3 * 2, none⟩)) rfl (by kernel_rfl) (.inl ⟨rfl, fun w' z => ?_⟩) S0 ?_
              · (simp [go_sem, h3I, h30])
              (try simp only [Act.put, List.getElem_toArray, List.getElem_cons_succ, List.getElem_cons_zero, List.setIfInBounds_toArray, List.set_cons_succ, List.set_cons_zero])
              refine HeadAt.takeW (i := 9) (.agg #[.slice (Q m3).a1 (Q m3).n1 (Q m3).c1, .slice (Q m3).a2 (Q m3).l.length (Q m3).c2]) rfl (by kernel_rfl) (.inl ⟨rfl, fun w' z => ?_⟩) S0 ?_
              · (have zc := hcl3 w' (hC.grow hB z); have z1 := zc.1; have z2 := zc.2; simp [go_sem, z1, z2])
              (try simp only [Act.put, List.getElem_toArray, List.getElem_cons_succ, List.getElem_cons_zero, List.setIfInBounds_toArray, List.set_cons_succ, List.set_cons_zero])
              skip
              refine HeadAt.one (i := 10) rfl (by kernel_rfl) ?_
              generalize hK : Upto _ _ = K0
              (try simp only [Act.put, List.getElem_toArray, List.getElem_cons_succ, List.getElem_cons_zero, List.setIfInBounds_toArray, List.set_cons_succ, List.set_cons_zero])
              replace hC := hC.grow hB S0
              have hsl := sameList_any (Q m).a1 (Q m3).a1 (Q m).a2 (Q m3).a2 (Q m).c1 (Q m3).c1 (Q m).c2 (Q m3).c2 (Q m).n1 (Q m3).n1 (Q m).l (Q m3).l Y0 (hC.good m HNN.out.1).1.i (hC.good m3 HNN.out.2.1).1.i
              by_cases heq : (Q m).l = (Q m3).l
              · rw [decide_eq_true heq] at hsl
                have HKT := hid (HKE.out m m3 HNN.out.2.2.2.2.1 heq)
                clear heq
                go_wp2_with fail
                refine hsl.mono ?_
                rintro e V2 ⟨rfl, hb2⟩
                go_wp2_with fail
                replace hC := hC.grow hB hb2
                replace S0 : BlS wr V2 := Below.trans S0 (hb2.mono (Below.size S0))
                subst hK
                refine ⟨S0, ?_⟩
                clear hsl hb2
                (try simp only [Act.put, List.getElem_toArray, List.getElem_cons_succ, List.getElem_cons_zero, List.setIfInBounds_toArray, List.set_cons_succ, List.set_cons_zero])
                refine HeadAt.takeW (i := 11) (.bool false) rfl (by kernel_rfl) (.inl ⟨rfl, fun _ _ => by simp [go_sem]⟩) S0 ?_
                (try simp only [Act.put, List.getElem_toArray, List.getElem_cons_succ, List.getElem_cons_zero, List.setIfInBounds_toArray, List.set_cons_succ, List.set_cons_zero])
                clear S0
                refine HeadAt.done (by kernel_rfl) ?_
                (try simp only [Act.put, List.drop_succ_cons, List.drop_zero, List.getElem_toArray, List.getElem_cons_succ, List.getElem_cons_zero])
                go_wp2_with fail
                refine NoPanic.normal ?_
                go_wp2
                go_roundw
                case rel => exact ⟨kk, k2 + 1, by omega, by omega, hkk1, by omega, rfl, by go_num, hid (by rw [← Nat.add_assoc, ← HM.out.1, HKT.out, HM.out.1, HKC.out]), hC⟩
                case measure => simp [intOf]; omega
              · rw [decide_eq_false heq] at hsl
                have HKT := hid (HKN.out m m3 HNN.out.2.2.2.2.1 heq)
                clear heq
                go_wp2_with fail
                refine hsl.mono ?_
                rintro e V2 ⟨rfl, hb2⟩
                go_wp2_with fail
                replace hC := hC.grow hB hb2
                replace S0 : BlS wr V2 := Below.trans S0 (hb2.mono (Below.size S0))
                subst hK
                refine ⟨S0, ?_⟩
                clear hsl hb2
                (try simp only [Act.put, List.getElem_toArray, List.getElem_cons_succ, List.getElem_cons_zero, List.setIfInBounds_toArray, List.set_cons_succ, List.set_cons_zero])
                refine HeadAt.takeW (i := 11) (.bool true) rfl (by kernel_rfl) (.inl ⟨rfl, fun _ _ => by simp [go_sem]⟩) S0 ?_
                (try simp only [Act.put, List.getElem_toArray, List.getElem_cons_succ, List.getElem_cons_zero, List.setIfInBounds_toArray, List.set_cons_succ, List.set_cons_zero])
                clear S0
                refine HeadAt.done (by kernel_rfl) ?_
                (try simp only [Act.put, List.drop_succ_cons, List.drop_zero, List.getElem_toArray, List.getElem_cons_succ, List.getElem_cons_zero])
                go_wp2_with fail
                refine NoPanic.normal ?_
                obtain ⟨z1, z2⟩ := hcl V2 hC
                obtain ⟨q1, hq1⟩ := Option.isSome_iff_exists.1 (hC.isC (j := kk * 2) (by have := HNN.out; omega)).1
                obtain ⟨q2, hq2⟩ := Option.isSome_iff_exists.1 (hC.isC (j := kk * 2 + 1) (by have := HNN.out; omega)).1
                have hf1 := (hC.isC (j := kk * 2) (by have := HNN.out; omega)).2
                have hf2 := (hC.isC (j := kk * 2 + 1) (by have := HNN.out; omega)).2
                have hne12 : ¬ kk * 2 = kk * 2 + 1 := by omega
                have hC2 := hC.set hB (.slice (Q m).a1 (Q m).n1 (Q m).c1) (.slice (Q m).a2 (Q m).l.length (Q m).c2)
                go_wp2
                go_roundw
                case rel => exact ⟨kk + 1, k2 + 1, by omega, by omega, by omega, by omega, by go_num, by go_num, hid (by rw [← Nat.add_assoc, ← HM.out.1, HKT.out, HM.out.1, HKC.out]), hC2⟩
                case measure => simp [intOf]; omega
            · have hkr : k2 = r := by omega
              obtain ⟨rk, hrk⟩ : ∃ rk, rk = n - kk := ⟨_, rfl⟩
              obtain ⟨rck, hrck⟩ : ∃ rck, rck = cap - kk := ⟨_, rfl⟩
              have h2I : ¬ (k2 : Int) < r := by omega
              have hkn : kk < n := by have := HRN.out; omega
              have hkcap : kk < cap := by omega
              have hknI : (kk : Int) ≤ n := by omega
              have hkcI : (kk : Int) ≤ cap := by omega
              have hkk0 : (0 : Int) ≤ (kk : Int) := by omega
              have e1 : n - kk = rk := hrk.symm
              have e2 : cap - kk = rck := hrck.symm
              have e3 : ((n : Int) - (kk : Int)).toNat = rk := by omega
              have e4 : ((cap : Int) - (kk : Int)).toNat = rck := by omega
              have e5 : ¬ cap = kk := by omega
              have e6 : ¬ cap = 0 := by omega
              have hcl := fun ty => run_clear62 wr ty blk (kk * 2) rk rck (by omega) (fun j hj => (hC.isC (by omega)).1) (fun j hj => (hC.isC (by omega)).2)
              have hbl := hC.below.trans (below_setCells (List.replicate (rk * 2) (.slice none 0 0)) wr blk (kk * 2) hB)
              have HR := hid (show K n = kk by rw [show n = k + k2 by have := HRN.out; omega]; exact HKC.out)
              clear hrk hrck hkn hkr hC
              go_wp2
              go_ret
              exact ⟨hbl, some ⟨blk, 0, none⟩, cap, by rw [HR.out]; rfl⟩
        · rw [decide_eq_false heq] at hsl
          have HKS := hid (HKN.out k k1 (by have := HKK.out; omega) heq)
          clear heq
          go_wp2_with fail
          refine hsl.mono ?_
          rintro e V1 ⟨rfl, hb1⟩
          go_wp2_with fail
          replace hC := hC.grow hB hb1
          replace S0 : BlS wr V1 := Below.trans S0 (hb1.mono (Below.size S0))
          subst hK
          refine ⟨S0, ?_⟩
          clear S0 hsl hb1
          (try simp only [Act.put, List.getElem_toArray, List.getElem_cons_succ, List.getElem_cons_zero, List.setIfInBounds_toArray, List.set_cons_succ, List.set_cons_zero])
          refine HeadAt.done (by kernel_rfl) ?_
          (try simp only [Act.put, List.drop_succ_cons, List.drop_zero, List.getElem_toArray, List.getElem_cons_succ, List.getElem_cons_zero])
          go_wp2_with fail
          refine NoPanic.normal ?_
          go_wp2
          go_roundw
          case rel => exact ⟨k + 1, by omega, by omega, by go_num, hid (by rw [HKS.out, HK.out]), hC⟩
          case measure => simp [intOf]; omega
      · have hkn : k = n := by omega
        have hkI : ¬ (k : Int) < n := by omega
        have HR := hid (show K n = n by rw [← hkn]; exact HK.out)
        have hbl := hC.below
        clear hkn hC
        go_wp2
        go_ret
        exact ⟨hbl, some ⟨blk, 0, none⟩, cap, by rw [HR.out]; rfl⟩
end Go.Proofs.Yteianfbdhakhpaa
