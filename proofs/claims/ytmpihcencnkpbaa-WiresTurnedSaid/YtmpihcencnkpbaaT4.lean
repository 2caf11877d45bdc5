import Derived.Test.YtmpihcencnkpbaaT3
/-! Whether a list of faults is a set; Plays, Explains. -/
namespace Go.Proofs.Ytmpihcencnkpbaa
set_option linter.unusedSimpArgs false
set_option linter.unusedVariables false
open Go Go.RowKit

/-- A slice of presses that is read where there are not far too many. -/
def Pz (w : World) (a : Option Addr) (P : List F3) : Prop := P.length ≤ 9223372036854775807 ∧ (P.length ≤ 1000 → Fz w a P)
theorem Pz.below {w w' : World} {a : Option Addr} {P : List F3} (h : Pz w a P) {B : Nat} (hb : Below B w w') (hB : w.heap.size ≤ B) : Pz w' a P := ⟨h.1, fun k => (h.2 k).below hb hB⟩
theorem Fz.pz {w : World} {a : Option Addr} {P : List F3} (h : Fz w a P) : Pz w a P := ⟨by have := h.len; omega, fun _ => h⟩
theorem setB_take {L N : Int} {s : List F3} (h : setB L N s = true) (k : Nat) : setB L N (s.take k) = true := by
  rw [setB_iff] at h ⊢
  exact ⟨fun f hf => h.1 f (List.mem_of_mem_take hf), h.2.sublist (List.take_sublist k s)⟩
theorem setB_no {L N : Int} {s : List F3} {k : Nat} {f : F3} (ht : s.take (k + 1) = s.take k ++ [f]) (h : faultB L N f = false ∨ fitB (s.take k) f = false) : setB L N s = false := by
  rw [← Bool.not_eq_true]
  intro hs
  have := setB_take hs (k + 1)
  rw [ht, setB_snoc] at this
  rcases h with h | h
  · rw [h] at this; cases this.2.1
  · rw [h] at this; cases this.2.2

set_option maxRecDepth 100000 in
set_option maxHeartbeats 4000000 in
theorem isSet_any (L N : Int) (aP : Option Addr) (cP : Nat) (P : List F3) (F : Int) (aS : Option Addr) (cS : Nat) (s : List F3) (w : World) (hS : Fz w aS s) (hc : s.length ≤ cS) :
    Calls Try.prog 57 #[.agg #[.int .i64 L, .int .i64 N, .slice aP P.length cP, .int .i64 F], .slice aS s.length cS] w fun e w' => e = .returned (.bool (setB L N s)) ∧ Below w.heap.size w w' := by
  obtain ⟨W, hW, hb, _, x0⟩ := boxes1 w #[.int .i64 L, .int .i64 N, .slice aP P.length cP, .int .i64 F] 24
  have hlen := hS.len
  have HN := fun k f ht h => setB_no (L := L) (N := N) (s := s) (k := k) (f := f) ht h
  have HA : setB L N s = true → setB L N s = true := fun h => h
  obtain ⟨r, hr⟩ : ∃ r, r = setB L N s := ⟨_, rfl⟩
  rw [← hr] at HN ⊢
  have HA := hid (show setB L N s = true → r = true from fun h => by rw [hr, h])
  clear hr
  obtain ⟨m, hm⟩ : ∃ m, m = s.length := ⟨_, rfl⟩
  rw [← hm] at hlen hc
  rw [← hm]
  have HLN := hid hm
  have hS1 := hS.below hb (Nat.le_refl _)
  clear hS hm
  have c0 := x0.cell 0 rfl; have c1 := x0.cell 1 rfl; have c2 := x0.cell 2 rfl; have c3 := x0.cell 3 rfl
  go_enter Try.func57, Try.ntmps57
  go_wp2
  clear hW c0 c1 c2 c3
  go_loopw [5, 6, 9] (fun v5 v6 v9 wr => ∃ k : Nat, k ≤ m ∧ v9 = .int .i64 (k : Int) ∧ Hid (setB L N (s.take k) = true) ∧ Below W.heap.size W wr) (fun _ _ v9 _ => m - (intOf v9).toNat)
  case atStart => exact ⟨0, Nat.zero_le _, rfl, hid rfl, Below.refl _ _⟩
  case round =>
    obtain ⟨k, hk, rfl, HK, hb1⟩ := hrel
    by_cases hlt : k < m
    · have hSr := hS1.below hb1 (Nat.le_refl _)
      obtain ⟨b, off, f, rfl, hbl, ⟨q0, q1, q2⟩, _, hmem, _, _, htk⟩ := hSr.at (k := k) (by rw [← HLN.out]; exact hlt)
      have hkI : (k : Int) < m := by omega
      have hk0 : (0 : Int) ≤ (k : Int) := by omega
      have hno := HN k f htk.out
      have hfa := fun v => isFault_any L N aP cP P F f v
      have hfi := fun v hv => fits_any (some ⟨b, off, none⟩) cS (s.take k) f v hv
      rw [show (s.take k).length = k by rw [List.length_take, ← HLN.out]; omega] at hfi
      have hsl := slice_h25 (some ⟨b, off, none⟩) m cS k (by omega)
      have hyes := hid (fun h1 h2 => show setB L N (s.take (k + 1)) = true by rw [htk.out]; exact setB_snoc.2 ⟨HK.out, h1, h2⟩)
      generalize faultB L N f = d1 at *
      generalize fitB (s.take k) f = d2 at *
      have hba := below_one (w := wr) (.cells #[.int .i64 f.k, .int .i64 f.a, .int .i64 f.b] 63)
      have hb2 := hb1.trans (hba.mono hb1.size)
      have x1 := Bx.new wr #[.int .i64 f.k, .int .i64 f.a, .int .i64 f.b] 63
      have x0r := (x0.below hb1).below hba
      have hSa := (hSr.take k).below hba (Nat.le_refl _)
      have HXa := hid (And.intro hb2 (And.intro x1 (And.intro x0r hSa)))
      clear hb1 hba hb2 x1 x0r hmem HN hSr hSa
      go_upto_region 4 with fail
      obtain ⟨hb2, x1, x0r, hSa⟩ := HXa.out
      clear HXa
      generalize wr.heap.size = sa at *
      generalize World.alloc _ _ = Va at *
      clear q0 q1 q2
      cases d1
      · have HR := hid (hno (by simp))
        have hbd := (Below.refl Va.heap.size Va).drew
        have S0 := (And.intro (x1.below hbd) (And.intro (x0r.below hbd) (hSa.below hbd (Nat.le_refl _))))
        replace hb2 := hb2.trans (hbd.mono hb2.size)
        clear hbd x1 x0r hSa
        refine wp_region_head 11 (fun w' => (Bx w' sa #[.int .i64 f.k, .int .i64 f.a, .int .i64 f.b] 63) ∧ (Bx w' w.heap.size #[.int .i64 L, .int .i64 N, .slice aP P.length cP, .int .i64 F] 24) ∧ (Fz w' (some ⟨b, off, none⟩) (s.take k))) (by kernel_rfl) rfl ?_
        generalize Va.drew = Y0 at *
        refine HeadAt.take (i := 0) (.agg #[.int .i64 L, .int .i64 N, .slice aP P.length cP, .int .i64 F]) rfl (by kernel_rfl) (.inl ⟨rfl, fun w' z => ?_⟩) S0 ?_
        · (have z0 := z.2.1.cell 0 rfl; have z1 := z.2.1.cell 1 rfl; have z2 := z.2.1.cell 2 rfl; have z3 := z.2.1.cell 3 rfl; simp [go_sem, z0, z1, z2, z3])
        (try simp only [Act.put, List.getElem_toArray, List.getElem_cons_succ, List.getElem_cons_zero, List.setIfInBounds_toArray, List.set_cons_succ, List.set_cons_zero])
        refine HeadAt.take (i := 1) (.agg #[.int .i64 f.k, .int .i64 f.a, .int .i64 f.b]) rfl (by kernel_rfl) (.inl ⟨rfl, fun w' z => ?_⟩) S0 ?_
        · (have z0 := z.1.cell 0 rfl; have z1 := z.1.cell 1 rfl; have z2 := z.1.cell 2 rfl; simp [go_sem, z0, z1, z2])
        (try simp only [Act.put, List.getElem_toArray, List.getElem_cons_succ, List.getElem_cons_zero, List.setIfInBounds_toArray, List.set_cons_succ, List.set_cons_zero])
        refine HeadAt.one (i := 2) rfl (by kernel_rfl) ?_
        generalize hK : Upto _ _ = K0
        (try simp only [Act.put, List.getElem_toArray, List.getElem_cons_succ, List.getElem_cons_zero, List.setIfInBounds_toArray, List.set_cons_succ, List.set_cons_zero])
        go_wp2_with fail
        refine (hfa _).mono ?_
        rintro e V1 ⟨rfl, hb1⟩
        go_wp2_with fail
        replace S0 := (And.intro (S0.1.below hb1) (And.intro (S0.2.1.below hb1) (S0.2.2.below hb1 (Nat.le_refl _))))
        replace hb2 := hb2.trans (hb1.mono hb2.size)
        clear hb1
        subst hK
        refine ⟨S0, ?_⟩
        (try simp only [Act.put, List.getElem_toArray, List.getElem_cons_succ, List.getElem_cons_zero, List.setIfInBounds_toArray, List.set_cons_succ, List.set_cons_zero])
        refine HeadAt.take (i := 3) (.bool true) rfl (by kernel_rfl) (.inl ⟨rfl, fun _ _ => by simp [go_sem]⟩) S0 ?_
        (try simp only [Act.put, List.getElem_toArray, List.getElem_cons_succ, List.getElem_cons_zero, List.setIfInBounds_toArray, List.set_cons_succ, List.set_cons_zero])
        refine HeadAt.take (i := 4) (.bool true) rfl (by kernel_rfl) (.inl ⟨rfl, fun _ _ => by simp [go_sem]⟩) S0 ?_
        (try simp only [Act.put, List.getElem_toArray, List.getElem_cons_succ, List.getElem_cons_zero, List.setIfInBounds_toArray, List.set_cons_succ, List.set_cons_zero])
        refine HeadAt.take (i := 5) undef rfl (by kernel_rfl) (.inr ⟨by kernel_rfl, rfl⟩) S0 ?_
        (try simp only [Act.put, List.getElem_toArray, List.getElem_cons_succ, List.getElem_cons_zero, List.setIfInBounds_toArray, List.set_cons_succ, List.set_cons_zero])
        refine HeadAt.take (i := 6) undef rfl (by kernel_rfl) (.inr ⟨by kernel_rfl, rfl⟩) S0 ?_
        (try simp only [Act.put, List.getElem_toArray, List.getElem_cons_succ, List.getElem_cons_zero, List.setIfInBounds_toArray, List.set_cons_succ, List.set_cons_zero])
        refine HeadAt.take (i := 7) undef rfl (by kernel_rfl) (.inr ⟨by kernel_rfl, rfl⟩) S0 ?_
        (try simp only [Act.put, List.getElem_toArray, List.getElem_cons_succ, List.getElem_cons_zero, List.setIfInBounds_toArray, List.set_cons_succ, List.set_cons_zero])
        refine HeadAt.take (i := 8) undef rfl (by kernel_rfl) (.inr ⟨by kernel_rfl, rfl⟩) S0 ?_
        (try simp only [Act.put, List.getElem_toArray, List.getElem_cons_succ, List.getElem_cons_zero, List.setIfInBounds_toArray, List.set_cons_succ, List.set_cons_zero])
        refine HeadAt.take (i := 9) undef rfl (by kernel_rfl) (.inr ⟨by kernel_rfl, rfl⟩) S0 ?_
        (try simp only [Act.put, List.getElem_toArray, List.getElem_cons_succ, List.getElem_cons_zero, List.setIfInBounds_toArray, List.set_cons_succ, List.set_cons_zero])
        refine HeadAt.take (i := 10) undef rfl (by kernel_rfl) (.inr ⟨by kernel_rfl, rfl⟩) S0 ?_
        (try simp only [Act.put, List.getElem_toArray, List.getElem_cons_succ, List.getElem_cons_zero, List.setIfInBounds_toArray, List.set_cons_succ, List.set_cons_zero])
        refine HeadAt.done (by kernel_rfl) ?_
        (try simp only [Act.put, List.drop_succ_cons, List.drop_zero, List.getElem_toArray, List.getElem_cons_succ, List.getElem_cons_zero])
        go_wp2_with fail
        refine NoPanic.normal ?_
        replace hb := hb.trans (hb2.mono hb.size)
        clear S0 hno htk HK HA hfa hfi hsl hyes
        go_wp2
        go_ret
        exact ⟨ret_bool (by rw [HR.out]), hb⟩
      · cases d2
        · have HR := hid (hno (by simp))
          have hbd := (Below.refl Va.heap.size Va).drew
          have S0 := (And.intro (x1.below hbd) (And.intro (x0r.below hbd) (hSa.below hbd (Nat.le_refl _))))
          replace hb2 := hb2.trans (hbd.mono hb2.size)
          clear hbd x1 x0r hSa
          refine wp_region_head 11 (fun w' => (Bx w' sa #[.int .i64 f.k, .int .i64 f.a, .int .i64 f.b] 63) ∧ (Bx w' w.heap.size #[.int .i64 L, .int .i64 N, .slice aP P.length cP, .int .i64 F] 24) ∧ (Fz w' (some ⟨b, off, none⟩) (s.take k))) (by kernel_rfl) rfl ?_
          generalize Va.drew = Y0 at *
          refine HeadAt.take (i := 0) (.agg #[.int .i64 L, .int .i64 N, .slice aP P.length cP, .int .i64 F]) rfl (by kernel_rfl) (.inl ⟨rfl, fun w' z => ?_⟩) S0 ?_
          · (have z0 := z.2.1.cell 0 rfl; have z1 := z.2.1.cell 1 rfl; have z2 := z.2.1.cell 2 rfl; have z3 := z.2.1.cell 3 rfl; simp [go_sem, z0, z1, z2, z3])
          (try simp only [Act.put, List.getElem_toArray, List.getElem_cons_succ, List.getElem_cons_zero, List.setIfInBounds_toArray, List.set_cons_succ, List.set_cons_zero])
          refine HeadAt.take (i := 1) (.agg #[.int .i64 f.k, .int .i64 f.a, .int .i64 f.b]) rfl (by kernel_rfl) (.inl ⟨rfl, fun w' z => ?_⟩) S0 ?_
          · (have z0 := z.1.cell 0 rfl; have z1 := z.1.cell 1 rfl; have z2 := z.1.cell 2 rfl; simp [go_sem, z0, z1, z2])
          (try simp only [Act.put, List.getElem_toArray, List.getElem_cons_succ, List.getElem_cons_zero, List.setIfInBounds_toArray, List.set_cons_succ, List.set_cons_zero])
          refine HeadAt.one (i := 2) rfl (by kernel_rfl) ?_
          generalize hK : Upto _ _ = K0
          (try simp only [Act.put, List.getElem_toArray, List.getElem_cons_succ, List.getElem_cons_zero, List.setIfInBounds_toArray, List.set_cons_succ, List.set_cons_zero])
          go_wp2_with fail
          refine (hfa _).mono ?_
          rintro e V1 ⟨rfl, hb1⟩
          go_wp2_with fail
          replace S0 := (And.intro (S0.1.below hb1) (And.intro (S0.2.1.below hb1) (S0.2.2.below hb1 (Nat.le_refl _))))
          replace hb2 := hb2.trans (hb1.mono hb2.size)
          clear hb1
          subst hK
          refine ⟨S0, ?_⟩
          (try simp only [Act.put, List.getElem_toArray, List.getElem_cons_succ, List.getElem_cons_zero, List.setIfInBounds_toArray, List.set_cons_succ, List.set_cons_zero])
          refine HeadAt.take (i := 3) (.bool false) rfl (by kernel_rfl) (.inl ⟨rfl, fun _ _ => by simp [go_sem]⟩) S0 ?_
          (try simp only [Act.put, List.getElem_toArray, List.getElem_cons_succ, List.getElem_cons_zero, List.setIfInBounds_toArray, List.set_cons_succ, List.set_cons_zero])
          refine HeadAt.take (i := 4) (.bool false) rfl (by kernel_rfl) (.inl ⟨rfl, fun _ _ => by simp [go_sem]⟩) S0 ?_
          (try simp only [Act.put, List.getElem_toArray, List.getElem_cons_succ, List.getElem_cons_zero, List.setIfInBounds_toArray, List.set_cons_succ, List.set_cons_zero])
          refine HeadAt.take (i := 5) (.slice (some ⟨b, off, none⟩) m cS) rfl (by kernel_rfl) (.inl ⟨rfl, fun _ _ => by simp [go_sem]⟩) S0 ?_
          (try simp only [Act.put, List.getElem_toArray, List.getElem_cons_succ, List.getElem_cons_zero, List.setIfInBounds_toArray, List.set_cons_succ, List.set_cons_zero])
          refine HeadAt.take (i := 6) (.int .i64 (k : Int)) rfl (by kernel_rfl) (.inl ⟨rfl, fun _ _ => by simp [go_sem]⟩) S0 ?_
          (try simp only [Act.put, List.getElem_toArray, List.getElem_cons_succ, List.getElem_cons_zero, List.setIfInBounds_toArray, List.set_cons_succ, List.set_cons_zero])
          refine HeadAt.take (i := 7) (.slice (some ⟨b, off, none⟩) k cS) rfl (by kernel_rfl) (.inl ⟨rfl, fun w' z => ?_⟩) S0 ?_
          · (simp [go_sem, hsl])
          (try simp only [Act.put, List.getElem_toArray, List.getElem_cons_succ, List.getElem_cons_zero, List.setIfInBounds_toArray, List.set_cons_succ, List.set_cons_zero])
          refine HeadAt.take (i := 8) (.agg #[.int .i64 f.k, .int .i64 f.a, .int .i64 f.b]) rfl (by kernel_rfl) (.inl ⟨rfl, fun w' z => ?_⟩) S0 ?_
          · (have z0 := z.1.cell 0 rfl; have z1 := z.1.cell 1 rfl; have z2 := z.1.cell 2 rfl; simp [go_sem, z0, z1, z2])
          (try simp only [Act.put, List.getElem_toArray, List.getElem_cons_succ, List.getElem_cons_zero, List.setIfInBounds_toArray, List.set_cons_succ, List.set_cons_zero])
          refine HeadAt.one (i := 9) rfl (by kernel_rfl) ?_
          generalize hK : Upto _ _ = K0
          (try simp only [Act.put, List.getElem_toArray, List.getElem_cons_succ, List.getElem_cons_zero, List.setIfInBounds_toArray, List.set_cons_succ, List.set_cons_zero])
          go_wp2_with fail
          refine (hfi _ S0.2.2).mono ?_
          rintro e V2 ⟨rfl, hb1⟩
          go_wp2_with fail
          replace S0 := (And.intro (S0.1.below hb1) (And.intro (S0.2.1.below hb1) (S0.2.2.below hb1 (Nat.le_refl _))))
          replace hb2 := hb2.trans (hb1.mono hb2.size)
          clear hb1
          subst hK
          refine ⟨S0, ?_⟩
          (try simp only [Act.put, List.getElem_toArray, List.getElem_cons_succ, List.getElem_cons_zero, List.setIfInBounds_toArray, List.set_cons_succ, List.set_cons_zero])
          refine HeadAt.take (i := 10) (.bool true) rfl (by kernel_rfl) (.inl ⟨rfl, fun _ _ => by simp [go_sem]⟩) S0 ?_
          (try simp only [Act.put, List.getElem_toArray, List.getElem_cons_succ, List.getElem_cons_zero, List.setIfInBounds_toArray, List.set_cons_succ, List.set_cons_zero])
          refine HeadAt.done (by kernel_rfl) ?_
          (try simp only [Act.put, List.drop_succ_cons, List.drop_zero, List.getElem_toArray, List.getElem_cons_succ, List.getElem_cons_zero])
          go_wp2_with fail
          refine NoPanic.normal ?_
          replace hb := hb.trans (hb2.mono hb.size)
          clear S0 hno htk HK HA hfa hfi hsl hyes
          go_wp2
          go_ret
          exact ⟨ret_bool (by rw [HR.out]), hb⟩
        · have HK2 := hid (hyes.out (by simp) (by simp))
          have hbd := (Below.refl Va.heap.size Va).drew
          have S0 := (And.intro (x1.below hbd) (And.intro (x0r.below hbd) (hSa.below hbd (Nat.le_refl _))))
          replace hb2 := hb2.trans (hbd.mono hb2.size)
          clear hbd x1 x0r hSa
          refine wp_region_head 11 (fun w' => (Bx w' sa #[.int .i64 f.k, .int .i64 f.a, .int .i64 f.b] 63) ∧ (Bx w' w.heap.size #[.int .i64 L, .int .i64 N, .slice aP P.length cP, .int .i64 F] 24) ∧ (Fz w' (some ⟨b, off, none⟩) (s.take k))) (by kernel_rfl) rfl ?_
          generalize Va.drew = Y0 at *
          refine HeadAt.take (i := 0) (.agg #[.int .i64 L, .int .i64 N, .slice aP P.length cP, .int .i64 F]) rfl (by kernel_rfl) (.inl ⟨rfl, fun w' z => ?_⟩) S0 ?_
          · (have z0 := z.2.1.cell 0 rfl; have z1 := z.2.1.cell 1 rfl; have z2 := z.2.1.cell 2 rfl; have z3 := z.2.1.cell 3 rfl; simp [go_sem, z0, z1, z2, z3])
          (try simp only [Act.put, List.getElem_toArray, List.getElem_cons_succ, List.getElem_cons_zero, List.setIfInBounds_toArray, List.set_cons_succ, List.set_cons_zero])
          refine HeadAt.take (i := 1) (.agg #[.int .i64 f.k, .int .i64 f.a, .int .i64 f.b]) rfl (by kernel_rfl) (.inl ⟨rfl, fun w' z => ?_⟩) S0 ?_
          · (have z0 := z.1.cell 0 rfl; have z1 := z.1.cell 1 rfl; have z2 := z.1.cell 2 rfl; simp [go_sem, z0, z1, z2])
          (try simp only [Act.put, List.getElem_toArray, List.getElem_cons_succ, List.getElem_cons_zero, List.setIfInBounds_toArray, List.set_cons_succ, List.set_cons_zero])
          refine HeadAt.one (i := 2) rfl (by kernel_rfl) ?_
          generalize hK : Upto _ _ = K0
          (try simp only [Act.put, List.getElem_toArray, List.getElem_cons_succ, List.getElem_cons_zero, List.setIfInBounds_toArray, List.set_cons_succ, List.set_cons_zero])
          go_wp2_with fail
          refine (hfa _).mono ?_
          rintro e V1 ⟨rfl, hb1⟩
          go_wp2_with fail
          replace S0 := (And.intro (S0.1.below hb1) (And.intro (S0.2.1.below hb1) (S0.2.2.below hb1 (Nat.le_refl _))))
          replace hb2 := hb2.trans (hb1.mono hb2.size)
          clear hb1
          subst hK
          refine ⟨S0, ?_⟩
          (try simp only [Act.put, List.getElem_toArray, List.getElem_cons_succ, List.getElem_cons_zero, List.setIfInBounds_toArray, List.set_cons_succ, List.set_cons_zero])
          refine HeadAt.take (i := 3) (.bool false) rfl (by kernel_rfl) (.inl ⟨rfl, fun _ _ => by simp [go_sem]⟩) S0 ?_
          (try simp only [Act.put, List.getElem_toArray, List.getElem_cons_succ, List.getElem_cons_zero, List.setIfInBounds_toArray, List.set_cons_succ, List.set_cons_zero])
          refine HeadAt.take (i := 4) (.bool false) rfl (by kernel_rfl) (.inl ⟨rfl, fun _ _ => by simp [go_sem]⟩) S0 ?_
          (try simp only [Act.put, List.getElem_toArray, List.getElem_cons_succ, List.getElem_cons_zero, List.setIfInBounds_toArray, List.set_cons_succ, List.set_cons_zero])
          refine HeadAt.take (i := 5) (.slice (some ⟨b, off, none⟩) m cS) rfl (by kernel_rfl) (.inl ⟨rfl, fun _ _ => by simp [go_sem]⟩) S0 ?_
          (try simp only [Act.put, List.getElem_toArray, List.getElem_cons_succ, List.getElem_cons_zero, List.setIfInBounds_toArray, List.set_cons_succ, List.set_cons_zero])
          refine HeadAt.take (i := 6) (.int .i64 (k : Int)) rfl (by kernel_rfl) (.inl ⟨rfl, fun _ _ => by simp [go_sem]⟩) S0 ?_
          (try simp only [Act.put, List.getElem_toArray, List.getElem_cons_succ, List.getElem_cons_zero, List.setIfInBounds_toArray, List.set_cons_succ, List.set_cons_zero])
          refine HeadAt.take (i := 7) (.slice (some ⟨b, off, none⟩) k cS) rfl (by kernel_rfl) (.inl ⟨rfl, fun w' z => ?_⟩) S0 ?_
          · (simp [go_sem, hsl])
          (try simp only [Act.put, List.getElem_toArray, List.getElem_cons_succ, List.getElem_cons_zero, List.setIfInBounds_toArray, List.set_cons_succ, List.set_cons_zero])
          refine HeadAt.take (i := 8) (.agg #[.int .i64 f.k, .int .i64 f.a, .int .i64 f.b]) rfl (by kernel_rfl) (.inl ⟨rfl, fun w' z => ?_⟩) S0 ?_
          · (have z0 := z.1.cell 0 rfl; have z1 := z.1.cell 1 rfl; have z2 := z.1.cell 2 rfl; simp [go_sem, z0, z1, z2])
          (try simp only [Act.put, List.getElem_toArray, List.getElem_cons_succ, List.getElem_cons_zero, List.setIfInBounds_toArray, List.set_cons_succ, List.set_cons_zero])
          refine HeadAt.one (i := 9) rfl (by kernel_rfl) ?_
          generalize hK : Upto _ _ = K0
          (try simp only [Act.put, List.getElem_toArray, List.getElem_cons_succ, List.getElem_cons_zero, List.setIfInBounds_toArray, List.set_cons_succ, List.set_cons_zero])
          go_wp2_with fail
          refine (hfi _ S0.2.2).mono ?_
          rintro e V2 ⟨rfl, hb1⟩
          go_wp2_with fail
          replace S0 := (And.intro (S0.1.below hb1) (And.intro (S0.2.1.below hb1) (S0.2.2.below hb1 (Nat.le_refl _))))
          replace hb2 := hb2.trans (hb1.mono hb2.size)
          clear hb1
          subst hK
          refine ⟨S0, ?_⟩
          (try simp only [Act.put, List.getElem_toArray, List.getElem_cons_succ, List.getElem_cons_zero, List.setIfInBounds_toArray, List.set_cons_succ, List.set_cons_zero])
          refine HeadAt.take (i := 10) (.bool false) rfl (by kernel_rfl) (.inl ⟨rfl, fun _ _ => by simp [go_sem]⟩) S0 ?_
          (try simp only [Act.put, List.getElem_toArray, List.getElem_cons_succ, List.getElem_cons_zero, List.setIfInBounds_toArray, List.set_cons_succ, List.set_cons_zero])
          refine HeadAt.done (by kernel_rfl) ?_
          (try simp only [Act.put, List.drop_succ_cons, List.drop_zero, List.getElem_toArray, List.getElem_cons_succ, List.getElem_cons_zero])
          go_wp2_with fail
          refine NoPanic.normal ?_
          clear S0 hno htk HK HA hfa hfi hsl hyes
          go_wp2
          go_roundw
          case rel => exact ⟨k + 1, by omega, by simp, HK2, hb2⟩
          case measure => simp [intOf]; omega
    · have hkn : k = m := by omega
      have hall : setB L N s = true := by
        have := HK.out
        rwa [hkn, HLN.out, List.take_length] at this
      have HR := hid (HA.out hall)
      have hkI : ¬ (k : Int) < m := by omega
      replace hb := hb.trans (hb1.mono hb.size)
      clear hall hkn HA HN HK hS1 x0 hb1
      go_wp2
      go_ret
      exact ⟨ret_bool (by rw [HR.out]), hb⟩


theorem chE_v {L N F : Int} {P : List F3} {o : Bool} (h : chE L N P F o = 0) : vB L N P F = true ∧ o = true := by
  unfold chE at h
  cases hv : vB L N P F
  · rw [hv] at h; simp at h
  · rw [hv] at h; cases o
    · simp at h
    · exact ⟨rfl, rfl⟩
theorem setB_ok {L N F : Int} {P s : List F3} (hv : vB L N P F = true) (hs : setB L N s = true) : ∀ f ∈ s, Okf L N f := fun f hf => by
  obtain ⟨hL, hN, _⟩ := vB_siz hv
  exact Okf.of hL hN ((faultB_iff hL hN).1 ((setB_iff.1 hs).1 f hf))
theorem prB_rng {L N l n : Int} (hL : 1 ≤ L ∧ L ≤ 5) (hN : 1 ≤ N ∧ N ≤ 5) (h : prB L N l n = true) : (0 ≤ l ∧ l < L) ∧ (0 ≤ n ∧ n < N) := by
  unfold prB fromI at h
  rw [w64_in (x := L - 1) (by omega), w64_in (x := N - 1) (by omega)] at h
  simp only [Bool.and_eq_true, decide_eq_true_eq] at h
  omega
theorem vB_pr {L N F : Int} {P : List F3} (hv : vB L N P F = true) : ∀ p ∈ P, (0 ≤ p.k ∧ p.k < L) ∧ (0 ≤ p.a ∧ p.a < N) := fun p hp => by
  obtain ⟨hL, hN, _, _, h⟩ := vB_siz hv
  unfold presB at h
  have := List.all_eq_true.1 h p hp
  rw [Bool.and_eq_true] at this
  exact prB_rng hL hN this.1

/-- What Plays returns. -/
def plE (L N : Int) (P : List F3) (F : Int) (s : List F3) (l n : Int) : Int := chE L N P F (setB L N s && prB L N l n)
def plR (L N : Int) (P : List F3) (F : Int) (s : List F3) (l n : Int) : Int := if plE L N P F s l n = 0 then plV N s l n else 0
set_option maxRecDepth 100000 in
set_option maxHeartbeats 4000000 in
theorem Plays_any (L N : Int) (aP : Option Addr) (cP : Nat) (P : List F3) (F : Int) (aS : Option Addr) (cS : Nat) (s : List F3) (l n : Int) (w : World) (hP : Pz w aP P) (hS : Fz w aS s) (hc : s.length ≤ cS) :
    Calls Try.prog 18 #[.agg #[.int .i64 L, .int .i64 N, .slice aP P.length cP, .int .i64 F], .slice aS s.length cS, .int .i64 l, .int .i64 n] w fun e w' => e = .returned (.tuple #[.int .i64 (plR L N P F s l n), .int .i64 (plE L N P F s l n)]) ∧ Below w.heap.size w w' := by
  obtain ⟨W, hW, hb, _, x0⟩ := boxes1 w #[.int .i64 L, .int .i64 N, .slice aP P.length cP, .int .i64 F] 24
  replace hP := hP.below hb (Nat.le_refl _)
  replace hS := hS.below hb (Nat.le_refl _)
  have hst := fun v hv => isSet_any L N aP cP P F aS cS s v hv hc
  have hpr := fun v => isPress_any L N aP cP P F l n v
  have hck := fun v o (hv : Pz v aP P) => check_any L N aP cP P F o v hv.2 hv.1
  have HR : Hid (plR L N P F s l n = if plE L N P F s l n = 0 then plV N s l n else 0) := hid rfl
  have hpl := fun (h : plE L N P F s l n = 0) v hv => by
    obtain ⟨h1, h2⟩ := chE_v h
    rw [Bool.and_eq_true] at h2
    obtain ⟨hL, hN, _⟩ := vB_siz h1
    obtain ⟨hl, hn⟩ := prB_rng hL hN h2.2
    exact plays_any L N aP cP P F aS cS s l n v hv hL hN hl hn (setB_ok h1 h2.1)
  have HE : Hid (plE L N P F s l n = chE L N P F (setB L N s && prB L N l n)) := hid rfl
  generalize plR L N P F s l n = r at *
  generalize plE L N P F s l n = E at *
  generalize setB L N s = q1 at *
  generalize prB L N l n = q2 at *
  generalize plV N s l n = v at *
  obtain ⟨m, hm⟩ : ∃ m, m = s.length := ⟨_, rfl⟩
  rw [← hm] at hst hpl
  rw [← hm]
  clear hm
  have c0 := x0.cell 0 rfl; have c1 := x0.cell 1 rfl; have c2 := x0.cell 2 rfl; have c3 := x0.cell 3 rfl
  go_enter Try.func18, Try.ntmps18
  go_upto_region 1 with fail
  clear hW c0 c1 c2 c3
  cases q1
  · skip
    have hbd := (Below.refl W.heap.size W).drew
    have S0 := (And.intro (x0.below hbd) (And.intro (hP.below hbd (Nat.le_refl _)) (hS.below hbd (Nat.le_refl _))))
    replace hb := hb.trans (hbd.mono hb.size)
    clear hbd x0 hP hS
    refine wp_region_head 11 (fun w' => (Bx w' w.heap.size #[.int .i64 L, .int .i64 N, .slice aP P.length cP, .int .i64 F] 24) ∧ (Pz w' aP P) ∧ (Fz w' aS s)) (by kernel_rfl) rfl ?_
    generalize W.drew = Y0 at *
    refine HeadAt.take (i := 0) (.agg #[.int .i64 L, .int .i64 N, .slice aP P.length cP, .int .i64 F]) rfl (by kernel_rfl) (.inl ⟨rfl, fun w' z => ?_⟩) S0 ?_
    · (have z0 := z.1.cell 0 rfl; have z1 := z.1.cell 1 rfl; have z2 := z.1.cell 2 rfl; have z3 := z.1.cell 3 rfl; simp [go_sem, z0, z1, z2, z3])
    (try simp only [Act.put, List.getElem_toArray, List.getElem_cons_succ, List.getElem_cons_zero, List.setIfInBounds_toArray, List.set_cons_succ, List.set_cons_zero])
    refine HeadAt.take (i := 1) (.agg #[.int .i64 L, .int .i64 N, .slice aP P.length cP, .int .i64 F]) rfl (by kernel_rfl) (.inl ⟨rfl, fun w' z => ?_⟩) S0 ?_
    · (have z0 := z.1.cell 0 rfl; have z1 := z.1.cell 1 rfl; have z2 := z.1.cell 2 rfl; have z3 := z.1.cell 3 rfl; simp [go_sem, z0, z1, z2, z3])
    (try simp only [Act.put, List.getElem_toArray, List.getElem_cons_succ, List.getElem_cons_zero, List.setIfInBounds_toArray, List.set_cons_succ, List.set_cons_zero])
    refine HeadAt.take (i := 2) (.slice aS m cS) rfl (by kernel_rfl) (.inl ⟨rfl, fun _ _ => by simp [go_sem]⟩) S0 ?_
    (try simp only [Act.put, List.getElem_toArray, List.getElem_cons_succ, List.getElem_cons_zero, List.setIfInBounds_toArray, List.set_cons_succ, List.set_cons_zero])
    refine HeadAt.one (i := 3) rfl (by kernel_rfl) ?_
    generalize hK : Upto _ _ = K0
    (try simp only [Act.put, List.getElem_toArray, List.getElem_cons_succ, List.getElem_cons_zero, List.setIfInBounds_toArray, List.set_cons_succ, List.set_cons_zero])
    go_wp2_with fail
    refine (hst _ S0.2.2).mono ?_
    rintro e V1 ⟨rfl, hb1⟩
    go_wp2_with fail
    replace S0 := (And.intro (S0.1.below hb1) (And.intro (S0.2.1.below hb1 (Nat.le_refl _)) (S0.2.2.below hb1 (Nat.le_refl _))))
    replace hb := hb.trans (hb1.mono hb.size)
    clear hb1
    subst hK
    refine ⟨S0, ?_⟩
    (try simp only [Act.put, List.getElem_toArray, List.getElem_cons_succ, List.getElem_cons_zero, List.setIfInBounds_toArray, List.set_cons_succ, List.set_cons_zero])
    refine HeadAt.take (i := 4) (.bool false) rfl (by kernel_rfl) (.inl ⟨rfl, fun _ _ => by simp [go_sem]⟩) S0 ?_
    (try simp only [Act.put, List.getElem_toArray, List.getElem_cons_succ, List.getElem_cons_zero, List.setIfInBounds_toArray, List.set_cons_succ, List.set_cons_zero])
    refine HeadAt.take (i := 5) undef rfl (by kernel_rfl) (.inr ⟨by kernel_rfl, rfl⟩) S0 ?_
    (try simp only [Act.put, List.getElem_toArray, List.getElem_cons_succ, List.getElem_cons_zero, List.setIfInBounds_toArray, List.set_cons_succ, List.set_cons_zero])
    refine HeadAt.take (i := 6) undef rfl (by kernel_rfl) (.inr ⟨by kernel_rfl, rfl⟩) S0 ?_
    (try simp only [Act.put, List.getElem_toArray, List.getElem_cons_succ, List.getElem_cons_zero, List.setIfInBounds_toArray, List.set_cons_succ, List.set_cons_zero])
    refine HeadAt.take (i := 7) undef rfl (by kernel_rfl) (.inr ⟨by kernel_rfl, rfl⟩) S0 ?_
    (try simp only [Act.put, List.getElem_toArray, List.getElem_cons_succ, List.getElem_cons_zero, List.setIfInBounds_toArray, List.set_cons_succ, List.set_cons_zero])
    refine HeadAt.take (i := 8) undef rfl (by kernel_rfl) (.inr ⟨by kernel_rfl, rfl⟩) S0 ?_
    (try simp only [Act.put, List.getElem_toArray, List.getElem_cons_succ, List.getElem_cons_zero, List.setIfInBounds_toArray, List.set_cons_succ, List.set_cons_zero])
    refine HeadAt.take (i := 9) (.bool false) rfl (by kernel_rfl) (.inl ⟨rfl, fun _ _ => by simp [go_sem]⟩) S0 ?_
    (try simp only [Act.put, List.getElem_toArray, List.getElem_cons_succ, List.getElem_cons_zero, List.setIfInBounds_toArray, List.set_cons_succ, List.set_cons_zero])
    refine HeadAt.one (i := 10) rfl (by kernel_rfl) ?_
    generalize hK : Upto _ _ = K0
    (try simp only [Act.put, List.getElem_toArray, List.getElem_cons_succ, List.getElem_cons_zero, List.setIfInBounds_toArray, List.set_cons_succ, List.set_cons_zero])
    go_wp2_with fail
    refine (hck _ false S0.2.1).mono ?_
    rintro e V2 ⟨rfl, hb1⟩
    go_wp2_with fail
    replace S0 := (And.intro (S0.1.below hb1) (And.intro (S0.2.1.below hb1 (Nat.le_refl _)) (S0.2.2.below hb1 (Nat.le_refl _))))
    replace hb := hb.trans (hb1.mono hb.size)
    clear hb1
    subst hK
    refine ⟨S0, ?_⟩
    (try simp only [Act.put, List.getElem_toArray, List.getElem_cons_succ, List.getElem_cons_zero, List.setIfInBounds_toArray, List.set_cons_succ, List.set_cons_zero])
    rw [show chE L N P F false = E by rw [HE.out]; simp]
    refine HeadAt.done (by kernel_rfl) ?_
    (try simp only [Act.put, List.drop_succ_cons, List.drop_zero, List.getElem_toArray, List.getElem_cons_succ, List.getElem_cons_zero])
    go_wp2_with fail
    refine NoPanic.normal ?_
    obtain ⟨x0, hP, hS⟩ := S0
    clear hst hpr hck HE hP
    by_cases hE : E = 0
    · have hvr := HR.out
      rw [if_pos hE] at hvr
      subst hE
      subst hvr
      replace hpl := hpl rfl
      have c0 := x0.cell 0 rfl; have c1 := x0.cell 1 rfl; have c2 := x0.cell 2 rfl; have c3 := x0.cell 3 rfl
      go_wp2_with fail
      refine (hpl _ hS).mono ?_
      rintro e V9 ⟨rfl, hb1⟩
      replace hb := hb.trans (hb1.mono hb.size)
      clear hb1 c0 c1 c2 c3 x0 hS hpl
      go_wp2
      go_ret2
      exact ⟨rfl, hb⟩
    · have hB : (E != 0) = true := by simpa using hE
      have hvr := HR.out
      rw [if_neg hE] at hvr
      subst hvr
      clear hE hpl x0 hS
      go_wp2
      go_ret2
      exact ⟨rfl, hb⟩
  · skip
    have hbd := (Below.refl W.heap.size W).drew
    have S0 := (And.intro (x0.below hbd) (And.intro (hP.below hbd (Nat.le_refl _)) (hS.below hbd (Nat.le_refl _))))
    replace hb := hb.trans (hbd.mono hb.size)
    clear hbd x0 hP hS
    refine wp_region_head 11 (fun w' => (Bx w' w.heap.size #[.int .i64 L, .int .i64 N, .slice aP P.length cP, .int .i64 F] 24) ∧ (Pz w' aP P) ∧ (Fz w' aS s)) (by kernel_rfl) rfl ?_
    generalize W.drew = Y0 at *
    refine HeadAt.take (i := 0) (.agg #[.int .i64 L, .int .i64 N, .slice aP P.length cP, .int .i64 F]) rfl (by kernel_rfl) (.inl ⟨rfl, fun w' z => ?_⟩) S0 ?_
    · (have z0 := z.1.cell 0 rfl; have z1 := z.1.cell 1 rfl; have z2 := z.1.cell 2 rfl; have z3 := z.1.cell 3 rfl; simp [go_sem, z0, z1, z2, z3])
    (try simp only [Act.put, List.getElem_toArray, List.getElem_cons_succ, List.getElem_cons_zero, List.setIfInBounds_toArray, List.set_cons_succ, List.set_cons_zero])
    refine HeadAt.take (i := 1) (.agg #[.int .i64 L, .int .i64 N, .slice aP P.length cP, .int .i64 F]) rfl (by kernel_rfl) (.inl ⟨rfl, fun w' z => ?_⟩) S0 ?_
    · (have z0 := z.1.cell 0 rfl; have z1 := z.1.cell 1 rfl; have z2 := z.1.cell 2 rfl; have z3 := z.1.cell 3 rfl; simp [go_sem, z0, z1, z2, z3])
    (try simp only [Act.put, List.getElem_toArray, List.getElem_cons_succ, List.getElem_cons_zero, List.setIfInBounds_toArray, List.set_cons_succ, List.set_cons_zero])
    refine HeadAt.take (i := 2) (.slice aS m cS) rfl (by kernel_rfl) (.inl ⟨rfl, fun _ _ => by simp [go_sem]⟩) S0 ?_
    (try simp only [Act.put, List.getElem_toArray, List.getElem_cons_succ, List.getElem_cons_zero, List.setIfInBounds_toArray, List.set_cons_succ, List.set_cons_zero])
    refine HeadAt.one (i := 3) rfl (by kernel_rfl) ?_
    generalize hK : Upto _ _ = K0
    (try simp only [Act.put, List.getElem_toArray, List.getElem_cons_succ, List.getElem_cons_zero, List.setIfInBounds_toArray, List.set_cons_succ, List.set_cons_zero])
    go_wp2_with fail
    refine (hst _ S0.2.2).mono ?_
    rintro e V1 ⟨rfl, hb1⟩
    go_wp2_with fail
    replace S0 := (And.intro (S0.1.below hb1) (And.intro (S0.2.1.below hb1 (Nat.le_refl _)) (S0.2.2.below hb1 (Nat.le_refl _))))
    replace hb := hb.trans (hb1.mono hb.size)
    clear hb1
    subst hK
    refine ⟨S0, ?_⟩
    (try simp only [Act.put, List.getElem_toArray, List.getElem_cons_succ, List.getElem_cons_zero, List.setIfInBounds_toArray, List.set_cons_succ, List.set_cons_zero])
    refine HeadAt.take (i := 4) (.bool true) rfl (by kernel_rfl) (.inl ⟨rfl, fun _ _ => by simp [go_sem]⟩) S0 ?_
    (try simp only [Act.put, List.getElem_toArray, List.getElem_cons_succ, List.getElem_cons_zero, List.setIfInBounds_toArray, List.set_cons_succ, List.set_cons_zero])
    refine HeadAt.take (i := 5) (.agg #[.int .i64 L, .int .i64 N, .slice aP P.length cP, .int .i64 F]) rfl (by kernel_rfl) (.inl ⟨rfl, fun w' z => ?_⟩) S0 ?_
    · (have z0 := z.1.cell 0 rfl; have z1 := z.1.cell 1 rfl; have z2 := z.1.cell 2 rfl; have z3 := z.1.cell 3 rfl; simp [go_sem, z0, z1, z2, z3])
    (try simp only [Act.put, List.getElem_toArray, List.getElem_cons_succ, List.getElem_cons_zero, List.setIfInBounds_toArray, List.set_cons_succ, List.set_cons_zero])
    refine HeadAt.take (i := 6) (.int .i64 l) rfl (by kernel_rfl) (.inl ⟨rfl, fun _ _ => by simp [go_sem]⟩) S0 ?_
    (try simp only [Act.put, List.getElem_toArray, List.getElem_cons_succ, List.getElem_cons_zero, List.setIfInBounds_toArray, List.set_cons_succ, List.set_cons_zero])
    refine HeadAt.take (i := 7) (.int .i64 n) rfl (by kernel_rfl) (.inl ⟨rfl, fun _ _ => by simp [go_sem]⟩) S0 ?_
    (try simp only [Act.put, List.getElem_toArray, List.getElem_cons_succ, List.getElem_cons_zero, List.setIfInBounds_toArray, List.set_cons_succ, List.set_cons_zero])
    refine HeadAt.one (i := 8) rfl (by kernel_rfl) ?_
    generalize hK : Upto _ _ = K0
    (try simp only [Act.put, List.getElem_toArray, List.getElem_cons_succ, List.getElem_cons_zero, List.setIfInBounds_toArray, List.set_cons_succ, List.set_cons_zero])
    go_wp2_with fail
    refine (hpr _).mono ?_
    rintro e V2 ⟨rfl, hb1⟩
    go_wp2_with fail
    replace S0 := (And.intro (S0.1.below hb1) (And.intro (S0.2.1.below hb1 (Nat.le_refl _)) (S0.2.2.below hb1 (Nat.le_refl _))))
    replace hb := hb.trans (hb1.mono hb.size)
    clear hb1
    subst hK
    refine ⟨S0, ?_⟩
    (try simp only [Act.put, List.getElem_toArray, List.getElem_cons_succ, List.getElem_cons_zero, List.setIfInBounds_toArray, List.set_cons_succ, List.set_cons_zero])
    refine HeadAt.take (i := 9) (.bool q2) rfl (by kernel_rfl) (.inl ⟨rfl, fun _ _ => by simp [go_sem]⟩) S0 ?_
    (try simp only [Act.put, List.getElem_toArray, List.getElem_cons_succ, List.getElem_cons_zero, List.setIfInBounds_toArray, List.set_cons_succ, List.set_cons_zero])
    refine HeadAt.one (i := 10) rfl (by kernel_rfl) ?_
    generalize hK : Upto _ _ = K0
    (try simp only [Act.put, List.getElem_toArray, List.getElem_cons_succ, List.getElem_cons_zero, List.setIfInBounds_toArray, List.set_cons_succ, List.set_cons_zero])
    go_wp2_with fail
    refine (hck _ q2 S0.2.1).mono ?_
    rintro e V3 ⟨rfl, hb1⟩
    go_wp2_with fail
    replace S0 := (And.intro (S0.1.below hb1) (And.intro (S0.2.1.below hb1 (Nat.le_refl _)) (S0.2.2.below hb1 (Nat.le_refl _))))
    replace hb := hb.trans (hb1.mono hb.size)
    clear hb1
    subst hK
    refine ⟨S0, ?_⟩
    (try simp only [Act.put, List.getElem_toArray, List.getElem_cons_succ, List.getElem_cons_zero, List.setIfInBounds_toArray, List.set_cons_succ, List.set_cons_zero])
    rw [show chE L N P F q2 = E by rw [HE.out]; simp]
    refine HeadAt.done (by kernel_rfl) ?_
    (try simp only [Act.put, List.drop_succ_cons, List.drop_zero, List.getElem_toArray, List.getElem_cons_succ, List.getElem_cons_zero])
    go_wp2_with fail
    refine NoPanic.normal ?_
    obtain ⟨x0, hP, hS⟩ := S0
    clear hst hpr hck HE hP
    by_cases hE : E = 0
    · have hvr := HR.out
      rw [if_pos hE] at hvr
      subst hE
      subst hvr
      replace hpl := hpl rfl
      have c0 := x0.cell 0 rfl; have c1 := x0.cell 1 rfl; have c2 := x0.cell 2 rfl; have c3 := x0.cell 3 rfl
      go_wp2_with fail
      refine (hpl _ hS).mono ?_
      rintro e V9 ⟨rfl, hb1⟩
      replace hb := hb.trans (hb1.mono hb.size)
      clear hb1 c0 c1 c2 c3 x0 hS hpl
      go_wp2
      go_ret2
      exact ⟨rfl, hb⟩
    · have hB : (E != 0) = true := by simpa using hE
      have hvr := HR.out
      rw [if_neg hE] at hvr
      subst hvr
      clear hE hpl x0 hS
      go_wp2
      go_ret2
      exact ⟨rfl, hb⟩

/-- What Explains returns. -/
def exE (L N : Int) (P : List F3) (F : Int) (s : List F3) : Int := chE L N P F (setB L N s)
def exR (L N : Int) (P : List F3) (F : Int) (s : List F3) : Bool := if exE L N P F s = 0 then exB N s P else false
set_option maxRecDepth 100000 in
set_option maxHeartbeats 4000000 in
theorem Explains_any (L N : Int) (aP : Option Addr) (cP : Nat) (P : List F3) (F : Int) (aS : Option Addr) (cS : Nat) (s : List F3) (w : World) (hP : Pz w aP P) (hS : Fz w aS s) (hc : s.length ≤ cS) :
    Calls Try.prog 20 #[.agg #[.int .i64 L, .int .i64 N, .slice aP P.length cP, .int .i64 F], .slice aS s.length cS] w fun e w' => e = .returned (.tuple #[.bool (exR L N P F s), .int .i64 (exE L N P F s)]) ∧ Below w.heap.size w w' := by
  obtain ⟨W, hW, hb, _, x0⟩ := boxes1 w #[.int .i64 L, .int .i64 N, .slice aP P.length cP, .int .i64 F] 24
  replace hP := hP.below hb (Nat.le_refl _)
  replace hS := hS.below hb (Nat.le_refl _)
  have hst := fun v hv => isSet_any L N aP cP P F aS cS s v hv hc
  have hck := fun v o (hv : Pz v aP P) => check_any L N aP cP P F o v hv.2 hv.1
  have HR : Hid (exR L N P F s = if exE L N P F s = 0 then exB N s P else false) := hid rfl
  have hpl := fun (h : exE L N P F s = 0) v (hv : Fz v aS s) (hp : Pz v aP P) => by
    obtain ⟨h1, h2⟩ := chE_v h
    obtain ⟨hL, hN, hl, _⟩ := vB_siz h1
    exact explains_any L N aP cP P F aS aP cS cP s P v hv (hp.2 (by omega)) hL hN (vB_pr h1) (setB_ok h1 h2)
  have HE : Hid (exE L N P F s = chE L N P F (setB L N s)) := hid rfl
  generalize exR L N P F s = r at *
  generalize exE L N P F s = E at *
  generalize setB L N s = q1 at *
  generalize exB N s P = v at *
  obtain ⟨m, hm⟩ : ∃ m, m = s.length := ⟨_, rfl⟩
  rw [← hm] at hst hpl
  rw [← hm]
  clear hm
  have c0 := x0.cell 0 rfl; have c1 := x0.cell 1 rfl; have c2 := x0.cell 2 rfl; have c3 := x0.cell 3 rfl
  go_enter Try.func20, Try.ntmps20
  go_upto_region 1 with fail
  clear hW c0 c1 c2 c3
  have hbd := (Below.refl W.heap.size W).drew
  have S0 := (And.intro (x0.below hbd) (And.intro (hP.below hbd (Nat.le_refl _)) (hS.below hbd (Nat.le_refl _))))
  replace hb := hb.trans (hbd.mono hb.size)
  clear hbd x0 hP hS
  refine wp_region_head 5 (fun w' => (Bx w' w.heap.size #[.int .i64 L, .int .i64 N, .slice aP P.length cP, .int .i64 F] 24) ∧ (Pz w' aP P) ∧ (Fz w' aS s)) (by kernel_rfl) rfl ?_
  generalize W.drew = Y0 at *
  refine HeadAt.take (i := 0) (.agg #[.int .i64 L, .int .i64 N, .slice aP P.length cP, .int .i64 F]) rfl (by kernel_rfl) (.inl ⟨rfl, fun w' z => ?_⟩) S0 ?_
  · (have z0 := z.1.cell 0 rfl; have z1 := z.1.cell 1 rfl; have z2 := z.1.cell 2 rfl; have z3 := z.1.cell 3 rfl; simp [go_sem, z0, z1, z2, z3])
  (try simp only [Act.put, List.getElem_toArray, List.getElem_cons_succ, List.getElem_cons_zero, List.setIfInBounds_toArray, List.set_cons_succ, List.set_cons_zero])
  refine HeadAt.take (i := 1) (.agg #[.int .i64 L, .int .i64 N, .slice aP P.length cP, .int .i64 F]) rfl (by kernel_rfl) (.inl ⟨rfl, fun w' z => ?_⟩) S0 ?_
  · (have z0 := z.1.cell 0 rfl; have z1 := z.1.cell 1 rfl; have z2 := z.1.cell 2 rfl; have z3 := z.1.cell 3 rfl; simp [go_sem, z0, z1, z2, z3])
  (try simp only [Act.put, List.getElem_toArray, List.getElem_cons_succ, List.getElem_cons_zero, List.setIfInBounds_toArray, List.set_cons_succ, List.set_cons_zero])
  refine HeadAt.take (i := 2) (.slice aS m cS) rfl (by kernel_rfl) (.inl ⟨rfl, fun _ _ => by simp [go_sem]⟩) S0 ?_
  (try simp only [Act.put, List.getElem_toArray, List.getElem_cons_succ, List.getElem_cons_zero, List.setIfInBounds_toArray, List.set_cons_succ, List.set_cons_zero])
  refine HeadAt.one (i := 3) rfl (by kernel_rfl) ?_
  generalize hK : Upto _ _ = K0
  (try simp only [Act.put, List.getElem_toArray, List.getElem_cons_succ, List.getElem_cons_zero, List.setIfInBounds_toArray, List.set_cons_succ, List.set_cons_zero])
  go_wp2_with fail
  refine (hst _ S0.2.2).mono ?_
  rintro e V1 ⟨rfl, hb1⟩
  go_wp2_with fail
  replace S0 := (And.intro (S0.1.below hb1) (And.intro (S0.2.1.below hb1 (Nat.le_refl _)) (S0.2.2.below hb1 (Nat.le_refl _))))
  replace hb := hb.trans (hb1.mono hb.size)
  clear hb1
  subst hK
  refine ⟨S0, ?_⟩
  (try simp only [Act.put, List.getElem_toArray, List.getElem_cons_succ, List.getElem_cons_zero, List.setIfInBounds_toArray, List.set_cons_succ, List.set_cons_zero])
  refine HeadAt.one (i := 4) rfl (by kernel_rfl) ?_
  generalize hK : Upto _ _ = K0
  (try simp only [Act.put, List.getElem_toArray, List.getElem_cons_succ, List.getElem_cons_zero, List.setIfInBounds_toArray, List.set_cons_succ, List.set_cons_zero])
  go_wp2_with fail
  refine (hck _ q1 S0.2.1).mono ?_
  rintro e V2 ⟨rfl, hb1⟩
  go_wp2_with fail
  replace S0 := (And.intro (S0.1.below hb1) (And.intro (S0.2.1.below hb1 (Nat.le_refl _)) (S0.2.2.below hb1 (Nat.le_refl _))))
  replace hb := hb.trans (hb1.mono hb.size)
  clear hb1
  subst hK
  refine ⟨S0, ?_⟩
  (try simp only [Act.put, List.getElem_toArray, List.getElem_cons_succ, List.getElem_cons_zero, List.setIfInBounds_toArray, List.set_cons_succ, List.set_cons_zero])
  rw [show chE L N P F q1 = E from HE.out.symm]
  refine HeadAt.done (by kernel_rfl) ?_
  (try simp only [Act.put, List.drop_succ_cons, List.drop_zero, List.getElem_toArray, List.getElem_cons_succ, List.getElem_cons_zero])
  go_wp2_with fail
  refine NoPanic.normal ?_
  obtain ⟨x0, hP, hS⟩ := S0
  clear hst hck HE
  by_cases hE : E = 0
  · have hvr := HR.out
    rw [if_pos hE] at hvr
    subst hE
    subst hvr
    replace hpl := hpl rfl
    have c0 := x0.cell 0 rfl; have c1 := x0.cell 1 rfl; have c2 := x0.cell 2 rfl; have c3 := x0.cell 3 rfl
    go_wp2_with fail
    refine (hpl _ hS hP).mono ?_
    rintro e V9 ⟨rfl, hb1⟩
    replace hb := hb.trans (hb1.mono hb.size)
    clear hb1 c0 c1 c2 c3 x0 hS hP hpl
    go_wp2
    go_ret2
    exact ⟨rfl, hb⟩
  · have hB : (E != 0) = true := by simpa using hE
    have hvr := HR.out
    rw [if_neg hE] at hvr
    subst hvr
    clear hE hpl x0 hS hP
    go_wp2
    go_ret2
    exact ⟨rfl, hb⟩
end Go.Proofs.Ytmpihcencnkpbaa
