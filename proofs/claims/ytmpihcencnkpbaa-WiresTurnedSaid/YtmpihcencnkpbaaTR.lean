import Derived.Test.YtmpihcencnkpbaaTQ
/-! The reference's PlaysOf, IsExplained. -/
namespace Go.Proofs.Ytmpihcencnkpbaa
set_option linter.unusedSimpArgs false
set_option linter.unusedVariables false
open Go Go.RowKit

theorem othL_rng {L N k M : Int} (hk : (k = 3 ∧ M = L) ∨ (k = 4 ∧ M = N)) : ∀ {s : List F3} {m : Int}, (∀ f ∈ s, Okf L N f) → (0 ≤ m ∧ m < M) → 0 ≤ othL k m s ∧ othL k m s < M
  | [], m, _, hm => hm
  | f :: r, m, h, hm => by
    have h1 := h f List.mem_cons_self
    have h2 := othL_rng hk (s := r) (fun g hg => h g (List.mem_cons_of_mem _ hg)) hm
    unfold Okf at h1
    rw [othL]
    split
    · split
      · omega
      · split
        · omega
        · exact h2
    · exact h2
set_option maxRecDepth 100000 in
set_option maxHeartbeats 3000000 in
theorem PlaysOf_any (L N : Int) (aP : Option Addr) (cP : Nat) (P : List F3) (F : Int) (aS : Option Addr) (cS : Nat) (s : List F3) (l n : Int) (w : World) (hS : Fz w aS s) (hL : 1 ≤ L ∧ L ≤ 5) (hN : 1 ≤ N ∧ N ≤ 5) (hl : 0 ≤ l ∧ l < L) (hn : 0 ≤ n ∧ n < N) (hO : ∀ f ∈ s, Okf L N f) (hs : setB L N s = true) :
    Calls Try.prog 46 #[.agg #[.int .i64 L, .int .i64 N, .slice aP P.length cP, .int .i64 F], .slice aS s.length cS, .int .i64 l, .int .i64 n] w fun e w' => e = .returned (.int .i64 (plV N s l n)) ∧ Below w.heap.size w w' := by
  obtain ⟨W, hW, hb, _, x0⟩ := boxes1 w #[.int .i64 L, .int .i64 N, .slice aP P.length cP, .int .i64 F] 24
  replace hS := hS.below hb (Nat.le_refl _)
  have hd1 := fun V (h : Fz V aS s) => (show Calls Try.prog 77 #[.slice aS s.length cS, .agg #[.int .i64 1, .int .i64 l, .int .i64 0]] V fun e w' => e = .returned (.bool (hasF s ⟨1, l, 0⟩)) ∧ Below V.heap.size V w' from Has_any aS cS s ⟨1, l, 0⟩ V h)
  have hd2 := fun V (h : Fz V aS s) => (show Calls Try.prog 77 #[.slice aS s.length cS, .agg #[.int .i64 2, .int .i64 n, .int .i64 0]] V fun e w' => e = .returned (.bool (hasF s ⟨2, n, 0⟩)) ∧ Below V.heap.size V w' from Has_any aS cS s ⟨2, n, 0⟩ V h)
  have ho1 := fun V (h : Fz V aS s) => other_any aS cS s 3 l V h
  have ho2 := fun V (h : Fz V aS s) => other_any aS cS s 4 n V h
  obtain ⟨r1, r2⟩ := othL_rng (L := L) (N := N) (.inl ⟨rfl, rfl⟩) hO hl
  obtain ⟨r3, r4⟩ := othL_rng (L := L) (N := N) (.inr ⟨rfl, rfl⟩) hO hn
  have hv : plV N s l n = if (hasF s ⟨1, l, 0⟩ || hasF s ⟨2, n, 0⟩) = true then -1 else othL 3 l s * N + othL 4 n s := (rplV_eq hs).symm
  rw [hv]
  clear hv hO hs
  generalize hasF s ⟨1, l, 0⟩ = d1 at *
  generalize hasF s ⟨2, n, 0⟩ = d2 at *
  generalize othL 3 l s = x at *
  generalize othL 4 n s = y at *
  have hxm := mul25 (x := x) (N := N) ⟨r1, by omega⟩ hN
  obtain ⟨z, hz⟩ : ∃ z, z = x * N := ⟨_, rfl⟩
  obtain ⟨v, hv⟩ : ∃ v, v = z + y := ⟨_, rfl⟩
  rw [← hz] at hxm ⊢
  rw [← hv]
  have hwm : IntKind.i64.wrap (x * N) = z := by rw [IntWalk.i64_in _ (by omega)]; exact hz.symm
  have hwa : IntKind.i64.wrap (z + y) = v := by rw [IntWalk.i64_in _ (by omega)]; exact hv.symm
  clear hz hv hxm r1 r2 r3 r4 hL hN hl hn
  obtain ⟨k, hk⟩ : ∃ k, k = s.length := ⟨_, rfl⟩
  rw [← hk] at hd1 hd2 ho1 ho2 ⊢
  clear hk
  cases d1
  · skip
    cases d2
    · skip
      have c0 := x0.cell 0 rfl; have c1 := x0.cell 1 rfl; have c2 := x0.cell 2 rfl; have c3 := x0.cell 3 rfl
      go_enter Try.func46, Try.ntmps46
      go_wp2_with fail
      refine (hd1 _ hS).mono ?_
      rintro e Vc1 ⟨rfl, hb1⟩
      clear c0 c1 c2 c3
      replace x0 := x0.below hb1
      replace hS := hS.below hb1 (Nat.le_refl _)
      replace hb := hb.trans (hb1.mono hb.size)
      clear hb1 hW hd1
      have c0 := x0.cell 0 rfl; have c1 := x0.cell 1 rfl; have c2 := x0.cell 2 rfl; have c3 := x0.cell 3 rfl
      go_wp2_with fail
      refine (hd2 _ hS).mono ?_
      rintro e Vc2 ⟨rfl, hb1⟩
      clear c0 c1 c2 c3
      replace x0 := x0.below hb1
      replace hS := hS.below hb1 (Nat.le_refl _)
      replace hb := hb.trans (hb1.mono hb.size)
      clear hb1 hd2
      have c0 := x0.cell 0 rfl; have c1 := x0.cell 1 rfl; have c2 := x0.cell 2 rfl; have c3 := x0.cell 3 rfl
      go_upto_region 3 with fail
      clear c0 c1 c2 c3
      have hbd := (Below.refl Vc2.heap.size Vc2).drew
      have S0 := (And.intro (x0.below hbd) (hS.below hbd (Nat.le_refl _)))
      replace hb := hb.trans (hbd.mono hb.size)
      clear hbd x0 hS
      refine wp_region_head 10 (fun w' => (Bx w' w.heap.size #[.int .i64 L, .int .i64 N, .slice aP P.length cP, .int .i64 F] 24) ∧ (Fz w' aS s)) (by kernel_rfl) rfl ?_
      generalize Vc2.drew = Y0 at *
      refine HeadAt.take (i := 0) (.slice aS k cS) rfl (by kernel_rfl) (.inl ⟨rfl, fun _ _ => by simp [go_sem]⟩) S0 ?_
      (try simp only [Act.put, List.getElem_toArray, List.getElem_cons_succ, List.getElem_cons_zero, List.setIfInBounds_toArray, List.set_cons_succ, List.set_cons_zero])
      refine HeadAt.take (i := 1) (.int .i64 l) rfl (by kernel_rfl) (.inl ⟨rfl, fun _ _ => by simp [go_sem]⟩) S0 ?_
      (try simp only [Act.put, List.getElem_toArray, List.getElem_cons_succ, List.getElem_cons_zero, List.setIfInBounds_toArray, List.set_cons_succ, List.set_cons_zero])
      refine HeadAt.take (i := 3) (.pointer (some ⟨w.heap.size, 1, none⟩)) rfl (by kernel_rfl) (.inl ⟨rfl, fun _ _ => by simp [go_sem]⟩) S0 ?_
      (try simp only [Act.put, List.getElem_toArray, List.getElem_cons_succ, List.getElem_cons_zero, List.setIfInBounds_toArray, List.set_cons_succ, List.set_cons_zero])
      refine HeadAt.take (i := 4) (.int .i64 N) rfl (by kernel_rfl) (.inl ⟨rfl, fun w' z => ?_⟩) S0 ?_
      · (have z0 := z.1.cell 1 rfl; simp [go_sem, z0])
      (try simp only [Act.put, List.getElem_toArray, List.getElem_cons_succ, List.getElem_cons_zero, List.setIfInBounds_toArray, List.set_cons_succ, List.set_cons_zero])
      refine HeadAt.take (i := 6) (.slice aS k cS) rfl (by kernel_rfl) (.inl ⟨rfl, fun _ _ => by simp [go_sem]⟩) S0 ?_
      (try simp only [Act.put, List.getElem_toArray, List.getElem_cons_succ, List.getElem_cons_zero, List.setIfInBounds_toArray, List.set_cons_succ, List.set_cons_zero])
      refine HeadAt.take (i := 7) (.int .i64 n) rfl (by kernel_rfl) (.inl ⟨rfl, fun _ _ => by simp [go_sem]⟩) S0 ?_
      (try simp only [Act.put, List.getElem_toArray, List.getElem_cons_succ, List.getElem_cons_zero, List.setIfInBounds_toArray, List.set_cons_succ, List.set_cons_zero])
      refine HeadAt.one (i := 2) rfl (by kernel_rfl) ?_
      generalize hK : Upto _ _ = K0
      (try simp only [Act.put, List.getElem_toArray, List.getElem_cons_succ, List.getElem_cons_zero, List.setIfInBounds_toArray, List.set_cons_succ, List.set_cons_zero])
      go_wp2_with fail
      refine (ho1 _ S0.2).mono ?_
      rintro e V3 ⟨rfl, hb1⟩
      go_wp2_with fail
      replace S0 := (And.intro (S0.1.below hb1) (S0.2.below hb1 (Nat.le_refl _)))
      replace hb := hb.trans (hb1.mono hb.size)
      clear hb1
      subst hK
      refine ⟨S0, ?_⟩
      (try simp only [Act.put, List.getElem_toArray, List.getElem_cons_succ, List.getElem_cons_zero, List.setIfInBounds_toArray, List.set_cons_succ, List.set_cons_zero])
      refine HeadAt.take (i := 5) (.int .i64 z) rfl (by kernel_rfl) (.inl ⟨rfl, fun w' z => ?_⟩) S0 ?_
      · (simp [go_sem, hwm])
      (try simp only [Act.put, List.getElem_toArray, List.getElem_cons_succ, List.getElem_cons_zero, List.setIfInBounds_toArray, List.set_cons_succ, List.set_cons_zero])
      refine HeadAt.one (i := 8) rfl (by kernel_rfl) ?_
      generalize hK : Upto _ _ = K0
      (try simp only [Act.put, List.getElem_toArray, List.getElem_cons_succ, List.getElem_cons_zero, List.setIfInBounds_toArray, List.set_cons_succ, List.set_cons_zero])
      go_wp2_with fail
      refine (ho2 _ S0.2).mono ?_
      rintro e V4 ⟨rfl, hb1⟩
      go_wp2_with fail
      replace S0 := (And.intro (S0.1.below hb1) (S0.2.below hb1 (Nat.le_refl _)))
      replace hb := hb.trans (hb1.mono hb.size)
      clear hb1
      subst hK
      refine ⟨S0, ?_⟩
      (try simp only [Act.put, List.getElem_toArray, List.getElem_cons_succ, List.getElem_cons_zero, List.setIfInBounds_toArray, List.set_cons_succ, List.set_cons_zero])
      refine HeadAt.take (i := 9) (.int .i64 v) rfl (by kernel_rfl) (.inl ⟨rfl, fun w' z => ?_⟩) S0 ?_
      · (simp [go_sem, hwa])
      (try simp only [Act.put, List.getElem_toArray, List.getElem_cons_succ, List.getElem_cons_zero, List.setIfInBounds_toArray, List.set_cons_succ, List.set_cons_zero])
      refine HeadAt.done (by kernel_rfl) ?_
      (try simp only [Act.put, List.drop_succ_cons, List.drop_zero, List.getElem_toArray, List.getElem_cons_succ, List.getElem_cons_zero])
      go_wp2_with fail
      refine NoPanic.normal ?_
      obtain ⟨x0, hS⟩ := S0
      go_wp2
      go_ret
      exact ⟨rfl, hb⟩
    · skip
      clear ho1 ho2 hwm hwa
      have c0 := x0.cell 0 rfl; have c1 := x0.cell 1 rfl; have c2 := x0.cell 2 rfl; have c3 := x0.cell 3 rfl
      go_enter Try.func46, Try.ntmps46
      go_wp2_with fail
      refine (hd1 _ hS).mono ?_
      rintro e Vc5 ⟨rfl, hb1⟩
      clear c0 c1 c2 c3
      replace x0 := x0.below hb1
      replace hS := hS.below hb1 (Nat.le_refl _)
      replace hb := hb.trans (hb1.mono hb.size)
      clear hb1 hW hd1
      have c0 := x0.cell 0 rfl; have c1 := x0.cell 1 rfl; have c2 := x0.cell 2 rfl; have c3 := x0.cell 3 rfl
      go_wp2_with fail
      refine (hd2 _ hS).mono ?_
      rintro e Vc6 ⟨rfl, hb1⟩
      clear c0 c1 c2 c3
      replace x0 := x0.below hb1
      replace hS := hS.below hb1 (Nat.le_refl _)
      replace hb := hb.trans (hb1.mono hb.size)
      clear hb1 hd2
      have c0 := x0.cell 0 rfl; have c1 := x0.cell 1 rfl; have c2 := x0.cell 2 rfl; have c3 := x0.cell 3 rfl
      go_wp2
      go_ret
      exact ⟨rfl, hb⟩
  · skip
    clear ho1 ho2 hwm hwa hd2
    have c0 := x0.cell 0 rfl; have c1 := x0.cell 1 rfl; have c2 := x0.cell 2 rfl; have c3 := x0.cell 3 rfl
    go_enter Try.func46, Try.ntmps46
    go_wp2_with fail
    refine (hd1 _ hS).mono ?_
    rintro e Vc7 ⟨rfl, hb1⟩
    clear c0 c1 c2 c3
    replace x0 := x0.below hb1
    replace hS := hS.below hb1 (Nat.le_refl _)
    replace hb := hb.trans (hb1.mono hb.size)
    clear hb1 hW hd1
    have c0 := x0.cell 0 rfl; have c1 := x0.cell 1 rfl; have c2 := x0.cell 2 rfl; have c3 := x0.cell 3 rfl
    go_wp2
    go_ret
    exact ⟨rfl, hb⟩

set_option maxRecDepth 100000 in
set_option maxHeartbeats 4000000 in
theorem IsExplained_any (L N : Int) (aP : Option Addr) (cP : Nat) (P : List F3) (F : Int) (aS : Option Addr) (cS : Nat) (s : List F3) (w : World) (hS : Fz w aS s) (hQ : Fz w aP P) (hL : 1 ≤ L ∧ L ≤ 5) (hN : 1 ≤ N ∧ N ≤ 5) (hq : ∀ p ∈ P, (0 ≤ p.k ∧ p.k < L) ∧ (0 ≤ p.a ∧ p.a < N)) (hO : ∀ f ∈ s, Okf L N f) (hs : setB L N s = true) :
    Calls Try.prog 62 #[.agg #[.int .i64 L, .int .i64 N, .slice aP P.length cP, .int .i64 F], .slice aS s.length cS] w fun e w' => e = .returned (.bool (exB N s P)) ∧ Below w.heap.size w w' := by
  have hlen := hQ.len
  have HN := fun p hp h => exB_no (N := N) (s := s) (Q := P) (p := p) hp h
  have HA : P.all (fun p => decide (plV N s p.k p.a = p.b)) = true → exB N s P = true := fun h => h
  obtain ⟨r, hr⟩ : ∃ r, r = exB N s P := ⟨_, rfl⟩
  rw [← hr] at HN HA ⊢
  clear hr
  have hpo := fun l n V (h : Fz V aS s) hl hn => PlaysOf_any L N aP cP P F aS cS s l n V h hL hN hl hn hO hs
  obtain ⟨m, hm⟩ : ∃ m, m = P.length := ⟨_, rfl⟩
  obtain ⟨ns, hns⟩ : ∃ ns, ns = s.length := ⟨_, rfl⟩
  rw [← hm, ← hns] at hpo
  rw [← hm] at hlen
  rw [← hm, ← hns]
  have HLN := hid hm
  obtain ⟨W, hW, hb, _, x0⟩ := boxes1 w #[.int .i64 L, .int .i64 N, .slice aP m cP, .int .i64 F] 24
  have hS1 := hS.below hb (Nat.le_refl _)
  have hQ1 := hQ.below hb (Nat.le_refl _)
  have HQ := hid hq
  clear hS hQ hO hq hm hns hs
  have c0 := x0.cell 0 rfl; have c1 := x0.cell 1 rfl; have c2 := x0.cell 2 rfl; have c3 := x0.cell 3 rfl
  go_enter Try.func62, Try.ntmps62
  go_wp2
  clear hW c0 c1 c2 c3
  go_loopw [4, 5, 6] (fun v4 v5 v6 wr => ∃ k : Nat, k ≤ m ∧ v5 = .int .i64 (k : Int) ∧ Hid ((P.take k).all (fun p => decide (plV N s p.k p.a = p.b)) = true) ∧ Below W.heap.size W wr) (fun _ v5 _ _ => m - (intOf v5).toNat)
  case atStart => exact ⟨0, Nat.zero_le _, rfl, hid rfl, Below.refl _ _⟩
  case round =>
    obtain ⟨k, hk, rfl, HK, hb1⟩ := hrel
    have xr := x0.below hb1
    by_cases hlt : k < m
    · have hQr := hQ1.below hb1 (Nat.le_refl _)
      have hSr := hS1.below hb1 (Nat.le_refl _)
      obtain ⟨b, off, p, rfl, hbl, ⟨q0, q1, q2⟩, _, hmem, _, _, htk⟩ := hQr.at (k := k) (by rw [← HLN.out]; exact hlt)
      have hkI : (k : Int) < m := by omega
      have hk0 : (0 : Int) ≤ (k : Int) := by omega
      have hno := HN p hmem
      have hp := HQ.out p hmem
      have hpl := fun v hv => hpo p.k p.a v hv hp.1 hp.2
      have HG := hid (show (fun p : F3 => decide (plV N s p.k p.a = p.b)) p = decide (plV N s p.k p.a = p.b) from rfl)
      generalize plV N s p.k p.a = u at *
      have hba := below_one (w := wr) (.cells #[.int .i64 p.k, .int .i64 p.a, .int .i64 p.b] 58)
      have hb2 := hb1.trans (hba.mono hb1.size)
      have x1 := Bx.new wr #[.int .i64 p.k, .int .i64 p.a, .int .i64 p.b] 58
      have x0r := xr.below hba
      have hSa := hSr.below hba (Nat.le_refl _)
      have HXa := hid (And.intro hb2 (And.intro x1 (And.intro x0r hSa)))
      have c0 := xr.cell 0 rfl; have c1 := xr.cell 1 rfl; have c2 := xr.cell 2 rfl; have c3 := xr.cell 3 rfl
      clear hb1 hba hb2 x1 x0r hmem HN hQr hSr hSa xr hpo
      go_upto_region 5 with fail
      obtain ⟨hb2, x1, x0r, hSa⟩ := HXa.out
      clear HXa
      generalize wr.heap.size = sa at *
      generalize World.alloc _ _ = Va at *
      clear q0 q1 q2 c0 c1 c2 c3
      have hbd := (Below.refl Va.heap.size Va).drew
      have S0 := (And.intro (x1.below hbd) (And.intro (x0r.below hbd) (hSa.below hbd (Nat.le_refl _))))
      replace hb2 := hb2.trans (hbd.mono hb2.size)
      clear hbd x1 x0r hSa
      refine wp_region_head 9 (fun w' => (Bx w' sa #[.int .i64 p.k, .int .i64 p.a, .int .i64 p.b] 58) ∧ (Bx w' w.heap.size #[.int .i64 L, .int .i64 N, .slice (some ⟨b, off, none⟩) m cP, .int .i64 F] 24) ∧ (Fz w' aS s)) (by kernel_rfl) rfl ?_
      generalize Va.drew = Y0 at *
      refine HeadAt.take (i := 0) (.agg #[.int .i64 L, .int .i64 N, .slice (some ⟨b, off, none⟩) m cP, .int .i64 F]) rfl (by kernel_rfl) (.inl ⟨rfl, fun w' z => ?_⟩) S0 ?_
      · (have z0 := z.2.1.cell 0 rfl; have z1 := z.2.1.cell 1 rfl; have z2 := z.2.1.cell 2 rfl; have z3 := z.2.1.cell 3 rfl; simp [go_sem, z0, z1, z2, z3])
      (try simp only [Act.put, List.getElem_toArray, List.getElem_cons_succ, List.getElem_cons_zero, List.setIfInBounds_toArray, List.set_cons_succ, List.set_cons_zero])
      refine HeadAt.take (i := 1) (.slice aS ns cS) rfl (by kernel_rfl) (.inl ⟨rfl, fun _ _ => by simp [go_sem]⟩) S0 ?_
      (try simp only [Act.put, List.getElem_toArray, List.getElem_cons_succ, List.getElem_cons_zero, List.setIfInBounds_toArray, List.set_cons_succ, List.set_cons_zero])
      refine HeadAt.take (i := 2) (.pointer (some ⟨sa, 0, none⟩)) rfl (by kernel_rfl) (.inl ⟨rfl, fun _ _ => by simp [go_sem]⟩) S0 ?_
      (try simp only [Act.put, List.getElem_toArray, List.getElem_cons_succ, List.getElem_cons_zero, List.setIfInBounds_toArray, List.set_cons_succ, List.set_cons_zero])
      refine HeadAt.take (i := 3) (.int .i64 p.k) rfl (by kernel_rfl) (.inl ⟨rfl, fun w' z => ?_⟩) S0 ?_
      · (have z0 := z.1.cell 0 rfl; simp [go_sem, z0])
      (try simp only [Act.put, List.getElem_toArray, List.getElem_cons_succ, List.getElem_cons_zero, List.setIfInBounds_toArray, List.set_cons_succ, List.set_cons_zero])
      refine HeadAt.take (i := 4) (.pointer (some ⟨sa, 1, none⟩)) rfl (by kernel_rfl) (.inl ⟨rfl, fun _ _ => by simp [go_sem]⟩) S0 ?_
      (try simp only [Act.put, List.getElem_toArray, List.getElem_cons_succ, List.getElem_cons_zero, List.setIfInBounds_toArray, List.set_cons_succ, List.set_cons_zero])
      refine HeadAt.take (i := 5) (.int .i64 p.a) rfl (by kernel_rfl) (.inl ⟨rfl, fun w' z => ?_⟩) S0 ?_
      · (have z0 := z.1.cell 1 rfl; simp [go_sem, z0])
      (try simp only [Act.put, List.getElem_toArray, List.getElem_cons_succ, List.getElem_cons_zero, List.setIfInBounds_toArray, List.set_cons_succ, List.set_cons_zero])
      refine HeadAt.take (i := 7) (.pointer (some ⟨sa, 2, none⟩)) rfl (by kernel_rfl) (.inl ⟨rfl, fun _ _ => by simp [go_sem]⟩) S0 ?_
      (try simp only [Act.put, List.getElem_toArray, List.getElem_cons_succ, List.getElem_cons_zero, List.setIfInBounds_toArray, List.set_cons_succ, List.set_cons_zero])
      refine HeadAt.take (i := 8) (.int .i64 p.b) rfl (by kernel_rfl) (.inl ⟨rfl, fun w' z => ?_⟩) S0 ?_
      · (have z0 := z.1.cell 2 rfl; simp [go_sem, z0])
      (try simp only [Act.put, List.getElem_toArray, List.getElem_cons_succ, List.getElem_cons_zero, List.setIfInBounds_toArray, List.set_cons_succ, List.set_cons_zero])
      refine HeadAt.one (i := 6) rfl (by kernel_rfl) ?_
      generalize hK : Upto _ _ = K0
      (try simp only [Act.put, List.getElem_toArray, List.getElem_cons_succ, List.getElem_cons_zero, List.setIfInBounds_toArray, List.set_cons_succ, List.set_cons_zero])
      go_wp2_with fail
      refine (hpl _ S0.2.2).mono ?_
      rintro e V1 ⟨rfl, hb1⟩
      go_wp2_with fail
      replace S0 := (And.intro (S0.1.below hb1) (And.intro (S0.2.1.below hb1) (S0.2.2.below hb1 (Nat.le_refl _))))
      replace hb2 := hb2.trans (hb1.mono hb2.size)
      clear hb1
      subst hK
      refine ⟨S0, ?_⟩
      (try simp only [Act.put, List.getElem_toArray, List.getElem_cons_succ, List.getElem_cons_zero, List.setIfInBounds_toArray, List.set_cons_succ, List.set_cons_zero])
      refine HeadAt.done (by kernel_rfl) ?_
      (try simp only [Act.put, List.drop_succ_cons, List.drop_zero, List.getElem_toArray, List.getElem_cons_succ, List.getElem_cons_zero])
      clear S0 hpl
      cases hB : (u != p.b)
      all_goals
        go_wp2_with fail
        refine NoPanic.normal ?_
      · have he : u = p.b := by simpa using hB
        have HK2 := hid (show (P.take (k + 1)).all (fun p => decide (plV N s p.k p.a = p.b)) = true by rw [htk.out]; exact all_snoc3 HK.out (by rw [HG.out]; exact decide_eq_true he))
        clear hno htk HK HA he
        go_wp2
        go_roundw
        case rel => exact ⟨k + 1, by omega, by simp, HK2, hb2⟩
        case measure => simp [intOf]; omega
      · have he : ¬ u = p.b := by simpa using hB
        have HR := hid (hno he)
        replace hb := hb.trans (hb2.mono hb.size)
        clear hno htk HK HA he
        go_wp2
        go_ret
        exact ⟨ret_bool (by rw [HR.out]), hb⟩
    · have hkn : k = m := by omega
      have hall : P.all (fun p => decide (plV N s p.k p.a = p.b)) = true := by
        have := HK.out
        rwa [hkn, HLN.out, List.take_length] at this
      have HR := hid (HA hall)
      have hkI : ¬ (k : Int) < m := by omega
      replace hb := hb.trans (hb1.mono hb.size)
      have c0 := xr.cell 0 rfl; have c1 := xr.cell 1 rfl; have c2 := xr.cell 2 rfl; have c3 := xr.cell 3 rfl
      clear hall hkn HA HN HK hQ1 hS1 x0 hb1 xr hpo
      go_wp2
      go_ret
      exact ⟨ret_bool (by rw [HR.out]), hb⟩
end Go.Proofs.Ytmpihcencnkpbaa
