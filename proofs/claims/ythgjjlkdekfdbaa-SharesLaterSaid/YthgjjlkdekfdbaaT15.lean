import Derived.Test.YthgjjlkdekfdbaaT14
/-! Best; the same numbers; the chapter's example. -/
namespace Go.Proofs.Ythgjjlkdekfdbaa
set_option linter.unusedSimpArgs false
set_option linter.unusedVariables false
open Go Go.RowKit

set_option maxRecDepth 100000 in
set_option maxHeartbeats 2000000 in
theorem Best_bad (ac : Option Addr) (cc : Nat) (cs : List Cl) (L : Int) (t : Int) (w : World) (hX : Clz w ac cs) (r : Int) (hr : r = askE cs L (cenB t)) (h0 : r ≠ 0) : Calls Try.prog 32 #[.agg #[.slice ac cs.length cc, .int .i64 L], .int .i64 t] w fun e w' => e = .returned (.tuple #[.slice none 0 0, .int .i64 r]) ∧ Below w.heap.size w w' := by
  obtain ⟨W, hW, hb, hs, x0⟩ := boxes1 w #[.slice ac cs.length cc, .int .i64 L] 24
  have hX1 := hX.below hb (Nat.le_refl _)
  have h1 := fun (q : Ext W) => (isCents_any t q.w).mono (fun e w' h => And.intro h.1 (Below.of_eq (B := q.w.heap.size) h.2))
  have h2 := fun (q : Ext W) => check_any ac cc cs L (cenB t) q.w (hX1.below q.below (Nat.le_refl _))
  rw [← hr] at h2
  generalize cenB t = o at *
  have c0 := x0.ext 0 rfl; have c1 := x0.ext 1 rfl
  clear hr hX hX1 x0 hs
  go_enter Try.func32, Try.ntmps32
  go_upto_region 1 with fail
  clear hW
  refine wp_region_ext_lit (by kernel_rfl) (by kernel_rfl) ?_
  repeat (quiet_step (first | (go_at_call 51; exact quiet_ext (h1 _)) | (go_at_call 50; exact quiet_ext (h2 _))))
  refine wpQuiet_nil ?_
  intro _ hw'
  obtain ⟨tt, rfl⟩ := hw'
  have hbt := tt.below
  clear c0 c1 h1 h2
  go_wp2
  go_ret2
  exact ⟨rfl, hb.trans (hbt.mono hb.size)⟩
set_option maxRecDepth 100000 in
set_option maxHeartbeats 4000000 in
theorem Best_ok (ac : Option Addr) (cc : Nat) (cs : List Cl) (L : Int) (t : Int) (w : World) (hX : Clz w ac cs) (h : shB cs L = true) (ht : cenB t = true) (bo : List Int) (hbo : bo = bestO L cs t) : Calls Try.prog 32 #[.agg #[.slice ac cs.length cc, .int .i64 L], .int .i64 t] w fun e w' => ∃ (a : Option Addr) (c : Nat), e = .returned (.tuple #[.slice a bo.length c, .int .i64 0]) ∧ Ints w' a bo ∧ Below w.heap.size w w' := by
  obtain ⟨W, hW, hb, hs, x0⟩ := boxes1 w #[.slice ac cs.length cc, .int .i64 L] 24
  have hX1 := hX.below hb (Nat.le_refl _)
  have h1 := fun (q : Ext W) => (isCents_any t q.w).mono (fun e w' h => And.intro h.1 (Below.of_eq (B := q.w.heap.size) h.2))
  have h2 := fun (q : Ext W) => check_any ac cc cs L (cenB t) q.w (hX1.below q.below (Nat.le_refl _))
  have ha : askE cs L (cenB t) = 0 := by unfold askE; rw [h, ht]; rfl
  rw [ha] at h2
  have h3 := fun (V : World) hh => bestOrder_any ac cc cs L t (shB_ok h).1 (Ok.of h ht) V hh bo hbo
  generalize cenB t = o at *
  obtain ⟨nb, hnb⟩ : ∃ nb, nb = bo.length := ⟨_, rfl⟩
  rw [← hnb] at h3
  have HNB := hid hnb
  have c0 := x0.ext 0 rfl; have c1 := x0.ext 1 rfl
  clear hbo h ht hX hs ha hnb
  go_enter Try.func32, Try.ntmps32
  go_upto_region 1 with fail
  clear hW
  refine wp_region_ext_lit (by kernel_rfl) (by kernel_rfl) ?_
  repeat (quiet_step (first | (go_at_call 51; exact quiet_ext (h1 _)) | (go_at_call 50; exact quiet_ext (h2 _))))
  refine wpQuiet_nil ?_
  intro _ hw'
  obtain ⟨tt, rfl⟩ := hw'
  have hbt := tt.below
  clear c0 c1 h1 h2
  replace x0 := x0.below hbt
  replace hb := hb.trans (hbt.mono hb.size)
  have h4 := h3 _ (hX1.below hbt (Nat.le_refl _))
  clear hbt h3 hX1
  generalize tt.w = V2 at *
  have c0 := x0.cell 0 rfl; have c1 := x0.cell 1 rfl
  go_wp2_with fail
  refine h4.mono ?_
  rintro e V3 ⟨a, c, rfl, hI, hb1⟩
  replace hb := hb.trans (hb1.mono hb.size)
  clear hb1 h4 c0 c1 x0
  go_wp2
  go_ret2
  exact ⟨a, c, by rw [HNB.out]; rfl, hI, hb⟩

set_option maxRecDepth 100000 in
set_option maxHeartbeats 2000000 in
theorem SameInts_eq (a b : Option Addr) (ca cb : Nat) (xs : List Int) (w : World) (hA : Ints w a xs) (hB : Ints w b xs) : Calls Try.prog 31 #[.slice a xs.length ca, .slice b xs.length cb] w fun e w' => e = .returned (.bool true) ∧ Below w.heap.size w w' := by
  have hlen := hA.len
  obtain ⟨n, hn⟩ : ∃ n, n = xs.length := ⟨_, rfl⟩
  rw [← hn] at hlen ⊢
  have HN := hid hn
  have hne : ((n : Int) != (n : Int)) = false := by simp
  clear hn
  go_enter Try.func31, Try.ntmps31
  go_wp2
  go_loopw [5] (fun v5 wr => ∃ k : Nat, k ≤ n ∧ v5 = .int .i64 (k : Int) ∧ Below w.heap.size w wr) (fun v5 _ => n - (intOf v5).toNat)
  case atStart => exact ⟨0, Nat.zero_le _, rfl, Below.refl _ _⟩
  case round =>
    obtain ⟨k, hk, rfl, hb⟩ := hrel
    by_cases hlt : k < n
    · obtain ⟨b1, o1, x, rfl, _, hc1, _, _, hg1, _⟩ := (hA.below hb (Nat.le_refl _)).at (k := k) (by rw [← HN.out]; exact hlt)
      obtain ⟨b2, o2, y, rfl, _, hc2, _, _, hg2, _⟩ := (hB.below hb (Nat.le_refl _)).at (k := k) (by rw [← HN.out]; exact hlt)
      obtain rfl : x = y := by have := hg1.out; rw [hg2.out] at this; injection this with e; exact e.symm
      have hkI : (k : Int) < n := by omega
      have hk0 : (0 : Int) ≤ (k : Int) := by omega
      have hxx : (x != x) = false := by simp
      have u1 := Ext.cell hc1
      have u2 := Ext.cell hc2
      clear hg1 hg2 hc1 hc2
      go_upto_region 6 with fail
      refine wp_region_ext_lit (by kernel_rfl) (by kernel_rfl) ?_
      repeat (quiet_step (fail))
      refine wpQuiet_nil ?_
      intro _ hw'
      obtain ⟨tt, rfl⟩ := hw'
      have hb2 := hb.trans (tt.below.mono hb.size)
      go_wp2
      go_roundw
      case rel => exact ⟨k + 1, by omega, by simp, hb2⟩
      case measure => simp [intOf]; omega
    · obtain rfl : k = n := by omega
      go_wp2
      go_ret
      exact ⟨rfl, hb⟩

/-- The contract of the chapter's examples. -/
def exC : List Cl := [⟨1, 500, 0, 0⟩, ⟨2, 300, 0, 0⟩, ⟨4, 1000, 40, 60⟩, ⟨5, 450, 0, 0⟩]
set_option maxRecDepth 100000 in
set_option maxHeartbeats 2000000 in
theorem Example_any (w : World) : Calls Try.prog 47 #[] w fun e w' => Below w.heap.size w w' ∧ ∃ (a : Option Addr), e = .returned (.agg #[.slice a 4 4, .int .i64 700]) ∧ Clz w' a exC := by
  obtain ⟨W, hW, hb, hs, x0, x1⟩ := boxes2 w #[.slice none 0 0, .int .i64 0] 24 #[.int .i64 1, .int .i64 500, .int .i64 0, .int .i64 0, .int .i64 2, .int .i64 300, .int .i64 0, .int .i64 0, .int .i64 4, .int .i64 1000, .int .i64 40, .int .i64 60, .int .i64 5, .int .i64 450, .int .i64 0, .int .i64 0] 56
  have hC : Clz W (some ⟨w.heap.size + 1, 0, none⟩) exC := Clz.of_bx (xs := exC) x1 (by decide) (by
    intro x hx
    simp only [exC, List.mem_cons, List.not_mem_nil, or_false] at hx
    rcases hx with rfl | rfl | rfl | rfl <;> (unfold Cl.i64; simp))
  have c0 := x0.cell 0 rfl; have c1 := x0.cell 1 rfl
  have f0 := x0.free 0; have f1 := x0.free 1
  have z1 := x0.set2 (.slice (some ⟨w.heap.size + 1, 0, none⟩) 4 4) (.int .i64 700)
  have z2 := below_put2' hb (b := w.heap.size) (Nat.le_refl _) (.slice (some ⟨w.heap.size + 1, 0, none⟩) 4 4) (.int .i64 700)
  have z3 := (hC.set (p := ⟨w.heap.size, 0, none⟩) (fun ad e => by cases e; show w.heap.size + 1 ≠ w.heap.size; omega) (.slice (some ⟨w.heap.size + 1, 0, none⟩) 4 4)).set (p := ⟨w.heap.size, 1, none⟩) (fun ad e => by cases e; show w.heap.size + 1 ≠ w.heap.size; omega) (.int .i64 700)
  have HZ := hid (And.intro z1 (And.intro z2 z3))
  clear z1 z2 z3 hC x0 x1 hb hs
  go_enter Try.func47, Try.ntmps47
  go_wp2_with fail
  obtain ⟨z1, z2, z3⟩ := HZ.out
  clear HZ hW
  generalize World.setCell _ _ _ = VV at *
  have k0 := z1.cell 0 rfl; have k1 := z1.cell 1 rfl
  refine bodyPost_ret (v := .agg #[.slice (some ⟨w.heap.size + 1, 0, none⟩) 4 4, .int .i64 700]) ?_ rfl ⟨z2, _, rfl, z3⟩
  simp [results, Try.results47, go_sem, k0, k1]
end Go.Proofs.Ythgjjlkdekfdbaa
