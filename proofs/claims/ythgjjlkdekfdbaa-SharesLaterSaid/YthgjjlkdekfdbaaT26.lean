import Derived.Test.YthgjjlkdekfdbaaT25
/-! Copies, and what program and reference answer alike. -/
namespace Go.Proofs.Ythgjjlkdekfdbaa
set_option linter.unusedSimpArgs false
set_option linter.unusedVariables false
open Go Go.RowKit

set_option maxRecDepth 100000 in
set_option maxHeartbeats 4000000 in
theorem Copy_any (ac : Option Addr) (cc : Nat) (cs : List Cl) (L : Int) (w : World) (hX : Clz w ac cs) : Calls Try.prog 16 #[.agg #[.slice ac cs.length cc, .int .i64 L]] w fun e w' => ∃ (a : Option Addr) (c : Nat), e = .returned (.agg #[.slice a cs.length c, .int .i64 L]) ∧ Clz w' a cs ∧ cs.length ≤ c ∧ Below w.heap.size w w' := by
  obtain ⟨j0, hj0, jz0, jz1, jz2⟩ := info_parts info56
  obtain ⟨W, hW, hb, hs, x0, x1⟩ := boxes2 w #[.slice ac cs.length cc, .int .i64 L] 24 #[.slice none 0 0, .int .i64 0] 24
  have hX1 := hX.below hb (Nat.le_refl _)
  have hlen := hX.len
  have HI := hid hX.2.1
  obtain ⟨n, hn⟩ : ∃ n, n = cs.length := ⟨_, rfl⟩
  rw [← hn] at x0 hW hlen ⊢
  have HN := hid hn
  have hcl : (ccells cs).length = n * 4 := by rw [ccells_len, hn]
  have HCL := hid hcl
  clear hn hcl hX
  go_enter Try.func16, Try.ntmps16
  go_upto_region 1 with fail
  clear hW
  have hsz : w.heap.size + 2 ≤ W.heap.size := by omega
  clear hs
  have hbd := (Below.refl W.heap.size W).drew
  have S0 := And.intro (x0.below hbd) (x1.below hbd)
  have hX2 := hX1.below hbd (Nat.le_refl _)
  have hb2 := hb.trans (hbd.mono hb.size)
  have hsz2 : w.heap.size + 2 ≤ W.drew.heap.size := hsz
  clear x0 x1 hX1 hb hbd hsz
  refine wp_region_head 7 (fun w' => Bx w' w.heap.size #[.slice ac n cc, .int .i64 L] 24 ∧ Bx w' (w.heap.size + 1) #[.slice none 0 0, .int .i64 0] 24) (by kernel_rfl) rfl ?_
  generalize W.drew = Y0 at *
  refine HeadAt.take (i := 1) (.pointer (some ⟨w.heap.size, 0, none⟩)) rfl (by kernel_rfl) (.inl ⟨rfl, fun _ _ => by simp [go_sem]⟩) S0 ?_
  (try simp only [Act.put, List.getElem_toArray, List.getElem_cons_succ, List.getElem_cons_zero, List.setIfInBounds_toArray, List.set_cons_succ, List.set_cons_zero])
  refine HeadAt.take (i := 2) (.slice ac n cc) rfl (by kernel_rfl) (.inl ⟨rfl, fun w' z => ?_⟩) S0 ?_
  · (have z0 := z.1.cell 0 rfl; simp [go_sem, z0])
  refine HeadAt.take (i := 4) (.pointer (some ⟨w.heap.size, 1, none⟩)) rfl (by kernel_rfl) (.inl ⟨rfl, fun _ _ => by simp [go_sem]⟩) S0 ?_
  (try simp only [Act.put, List.getElem_toArray, List.getElem_cons_succ, List.getElem_cons_zero, List.setIfInBounds_toArray, List.set_cons_succ, List.set_cons_zero])
  refine HeadAt.take (i := 5) (.int .i64 L) rfl (by kernel_rfl) (.inl ⟨rfl, fun w' z => ?_⟩) S0 ?_
  · (have z0 := z.1.cell 1 rfl; simp [go_sem, z0])
  (try simp only [Act.put, List.getElem_toArray, List.getElem_cons_succ, List.getElem_cons_zero, List.setIfInBounds_toArray, List.set_cons_succ, List.set_cons_zero])
  refine HeadAt.one (i := 0) rfl (by kernel_rfl) ?_
  generalize hK : Upto _ _ = K0
  (try simp only [Act.put, List.getElem_toArray, List.getElem_cons_succ, List.getElem_cons_zero, List.setIfInBounds_toArray, List.set_cons_succ, List.set_cons_zero])
  have hba := below_one (w := Y0) (.cells #[] 56)
  have ho1 := own_litB Y0 56 4 (B := w.heap.size + 2) hsz2
  have HY := hid (And.intro (S0.1.below hba) (And.intro (S0.2.below hba) (And.intro (hX2.below hba (Nat.le_refl _)) (And.intro (hb2.trans (hba.mono hb2.size)) (And.intro (Nat.le_trans hsz2 hba.size) ho1)))))
  clear S0 hX2 hb2 hsz2 hba ho1
  go_wp2_with fail
  obtain ⟨s1, s2, hX2, hb2, hsz2, ho1⟩ := HY.out
  clear HY
  generalize Y0.heap.size = gn at *
  generalize Y0.alloc _ = Y1 at *
  subst hK
  refine ⟨⟨s1, s2⟩, ?_⟩
  (try simp only [Act.put, List.getElem_toArray, List.getElem_cons_succ, List.getElem_cons_zero, List.setIfInBounds_toArray, List.set_cons_succ, List.set_cons_zero])
  refine HeadAt.one (i := 3) rfl (by kernel_rfl) ?_
  generalize hK : Upto _ _ = K0
  (try simp only [Act.put, List.getElem_toArray, List.getElem_cons_succ, List.getElem_cons_zero, List.setIfInBounds_toArray, List.set_cons_succ, List.set_cons_zero])
  have hge := own_ge2 ho1
  have hcls := hX2.cls
  go_wp2_with (first | (at_builtin; refine wpList_app rfl _ _ 22 rfl (w.heap.size + 2) 56 j0 _ 4 32 under22 hj0 jz0 jz1 jz2 rfl (by decide) _ 0 [] rfl ho1 ac n cc (ccells cs) rfl HCL.out hcls (ccells_one _) (by unfold maxLen; omega) (by omega) hsz2 ?_; intro v2 Y2 own2 hg2) | fail)
  have q1 := s1.gb hg2 (fun q hq => by have := hge q hq; omega)
  have q2 := s2.gb hg2 (fun q hq => by have := hge q hq; omega)
  have bl2 := hb2.grown hg2 (by omega) (fun q hq => by have := hge q hq; omega)
  have sz2 : w.heap.size + 2 ≤ Y2.heap.size := Nat.le_trans hsz2 hg2.size
  clear s1 s2 hge hcls hX2 hb2 hsz2 ho1 hg2
  subst hK
  refine ⟨⟨q1, q2⟩, ?_⟩
  (try simp only [Act.put, List.getElem_toArray, List.getElem_cons_succ, List.getElem_cons_zero, List.setIfInBounds_toArray, List.set_cons_succ, List.set_cons_zero])
  rw [Nat.zero_add, List.nil_append] at own2
  obtain ⟨a, ca, rfl, hC, hblk, hcap⟩ : ∃ a ca, v2 = .slice a n ca ∧ Clz Y2 a cs ∧ (∀ ad, a = some ad → w.heap.size + 2 ≤ ad.block ∧ ad.block < Y2.heap.size) ∧ n ≤ ca := by
    have hN := HN.out
    rw [hN] at own2
    obtain ⟨a, ca, he, hC, hblk⟩ := Clz.of_own own2 (by omega) HI.out
    refine ⟨a, ca, by rw [he, hN], hC, hblk, ?_⟩
    rcases own2.2 with ⟨_, h0⟩ | ⟨g, cap, cur, e, hb, hg, hc1, hc2, _⟩
    · omega
    · rw [he] at e
      simp only [Value.slice.injEq] at e
      omega
  refine HeadAt.take (i := 6) (.agg #[.slice a n ca, .int .i64 L]) rfl (by kernel_rfl) (.inl ⟨rfl, fun w' z => ?_⟩) (And.intro q1 q2) ?_
  · (simp [go_sem])
  (try simp only [Act.put, List.getElem_toArray, List.getElem_cons_succ, List.getElem_cons_zero, List.setIfInBounds_toArray, List.set_cons_succ, List.set_cons_zero])
  refine HeadAt.done (by kernel_rfl) ?_
  (try simp only [Act.put, List.drop_succ_cons, List.drop_zero, List.getElem_toArray, List.getElem_cons_succ, List.getElem_cons_zero])
  have d0 := q2.cell 0 rfl; have d1 := q2.cell 1 rfl
  have f0 := q2.free 0; have f1 := q2.free 1
  have z1 := q2.set2 (.slice a n ca) (.int .i64 L)
  have z2 := below_put2' bl2 (b := w.heap.size + 1) (by omega) (.slice a n ca) (.int .i64 L)
  have z3 := (hC.set (p := ⟨w.heap.size + 1, 0, none⟩) (fun ad e => by have := hblk ad e; show ad.block ≠ w.heap.size + 1; omega) (.slice a n ca)).set (p := ⟨w.heap.size + 1, 1, none⟩) (fun ad e => by have := hblk ad e; show ad.block ≠ w.heap.size + 1; omega) (.int .i64 L)
  have HZ := hid (And.intro z1 (And.intro z2 z3))
  clear z1 z2 z3 q1 q2 bl2 sz2 hblk hC own2
  go_wp2_with fail
  refine NoPanic.normal ?_
  obtain ⟨z1, z2, z3⟩ := HZ.out
  clear HZ
  generalize World.setCell _ _ _ = VV at *
  have k0 := z1.cell 0 rfl; have k1 := z1.cell 1 rfl
  go_wp2_with fail
  refine bodyPost_ret (v := .agg #[.slice a n ca, .int .i64 L]) ?_ rfl ⟨a, ca, rfl, z3, hcap, z2⟩
  simp [results, Try.results16, go_sem, k0, k1]

set_option maxRecDepth 100000 in
set_option maxHeartbeats 4000000 in
theorem same_eq (a b : Option Addr) (ca cb : Nat) (cs : List Cl) (L : Int) (w : World) (hA : Clz w a cs) (hB : Clz w b cs) : Calls Try.prog 27 #[.agg #[.slice a cs.length ca, .int .i64 L], .agg #[.slice b cs.length cb, .int .i64 L]] w fun e w' => e = .returned (.bool true) ∧ Below w.heap.size w w' := by
  obtain ⟨W, hW, hb, hs, x0, x1⟩ := boxes2 w #[.slice a cs.length ca, .int .i64 L] 24 #[.slice b cs.length cb, .int .i64 L] 24
  have hA1 := hA.below hb (Nat.le_refl _)
  have hB1 := hB.below hb (Nat.le_refl _)
  have hlen := hA.len
  obtain ⟨n, hn⟩ : ∃ n, n = cs.length := ⟨_, rfl⟩
  rw [← hn] at x0 x1 hW hlen ⊢
  have HN := hid hn
  have hne : ((n : Int) != (n : Int)) = false := by simp
  have hle : (L != L) = false := by simp
  clear hn hA hB hs
  have c0 := x0.cell 0 rfl; have c1 := x0.cell 1 rfl
  have d0 := x1.cell 0 rfl; have d1 := x1.cell 1 rfl
  go_enter Try.func27, Try.ntmps27
  go_wp2
  clear hW c0 c1 d0 d1
  go_loopw [5] (fun v5 wr => ∃ k : Nat, k ≤ n ∧ v5 = .int .i64 (k : Int) ∧ Below W.heap.size W wr) (fun v5 _ => n - (intOf v5).toNat)
  case atStart => exact ⟨0, Nat.zero_le _, rfl, Below.refl _ _⟩
  case round =>
    obtain ⟨k, hk, rfl, hb1⟩ := hrel
    replace x0 := x0.below hb1
    replace x1 := x1.below hb1
    have c0 := x0.cell 0 rfl
    by_cases hlt : k < n
    · obtain ⟨b1, o1, x, rfl, _, ⟨q0, q1, q2, q3⟩, _, _, hg1, _, _⟩ := (hA1.below hb1 (Nat.le_refl _)).at (k := k) (by rw [← HN.out]; exact hlt)
      obtain ⟨b2, o2, y, rfl, _, ⟨r0, r1, r2, r3⟩, _, _, hg2, _, _⟩ := (hB1.below hb1 (Nat.le_refl _)).at (k := k) (by rw [← HN.out]; exact hlt)
      obtain rfl : x = y := by have := hg1.out; rw [hg2.out] at this; injection this with e; exact e.symm
      have hkI : (k : Int) < n := by omega
      have hk0 : (0 : Int) ≤ (k : Int) := by omega
      clear hg1 hg2
      go_upto_region 6 with fail
      have u0 := x0.ext 0 rfl; have v0 := x1.ext 0 rfl
      have q0 := Ext.cell q0; have q1 := Ext.cell q1; have q2 := Ext.cell q2; have q3 := Ext.cell q3
      have r0 := Ext.cell r0; have r1 := Ext.cell r1; have r2 := Ext.cell r2; have r3 := Ext.cell r3
      refine wp_region_ext_lit (by kernel_rfl) (by kernel_rfl) ?_
      repeat (quiet_step (fail))
      refine wpQuiet_nil ?_
      intro _ hw'
      obtain ⟨tt, rfl⟩ := hw'
      have hb2 := hb1.trans (tt.below.mono hb1.size)
      clear u0 v0 q0 q1 q2 q3 r0 r1 r2 r3 c0
      go_wp2
      go_roundw
      case rel => exact ⟨k + 1, by omega, by simp, hb2⟩
      case measure => simp [intOf]; omega
    · obtain rfl : k = n := by omega
      have hbr := hb.trans (hb1.mono hb.size)
      go_wp2
      go_ret
      exact ⟨rfl, hbr⟩
end Go.Proofs.Ythgjjlkdekfdbaa
