import Derived.Test.YteianfbdhakhpaaTQ
import Derived.Test.YteianfbdhakhpaaTD
import Derived.Test.YteianfbdhakhpaaTF
/-! The reference: Rising, Check; ready, Far, isKnown. -/
namespace Go.Proofs.Yteianfbdhakhpaa
set_option linter.unusedSimpArgs false
set_option linter.unusedVariables false
open Go Go.RowKit

def risOk (lo hi : Int) (l : List Int) (i : Nat) : Bool := fromI lo (l.getD i 0) hi && (decide (i = 0) || decide (l.getD (i - 1) 0 < l.getD i 0))
/-- Whether numbers rise within bounds. -/
def risB (lo hi : Int) (l : List Int) : Bool := (List.range l.length).all (risOk lo hi l)
theorem risB_no {lo hi : Int} {l : List Int} {k : Nat} (hk : k < l.length) (h : risOk lo hi l k = false) : risB lo hi l = false := all_range_no _ hk h
theorem timesB_ris (l : List Int) : timesB l = (risB 0 99999 l && decide (l.length ≤ 24)) := rfl
set_option maxRecDepth 100000 in
set_option maxHeartbeats 3000000 in
theorem Rising_any (a : Option Addr) (c : Nat) (l : List Int) (lo hi : Int) (w : World) (hI : Ints w a l) : Calls Try.prog 50 #[.slice a l.length c, .int .i64 lo, .int .i64 hi] w fun e w' => e = .returned (.bool (risB lo hi l)) ∧ Below w.heap.size w w' := by
  have hlen := hI.len
  have H1 := hid (show ∀ k, k < l.length → risOk lo hi l k = false → risB lo hi l = false from fun k hk h => risB_no hk h)
  have H2 := hid (show (List.range l.length).all (risOk lo hi l) = true → risB lo hi l = true from fun h => h)
  generalize risB lo hi l = r at *
  obtain ⟨n, hn⟩ : ∃ n, n = l.length := ⟨_, rfl⟩
  rw [← hn] at hlen H1 H2 ⊢
  have HN := hid hn
  clear hn
  go_enter Try.func50, Try.ntmps50
  go_wp2
  go_loopw [7] (fun v7 wr => ∃ k : Nat, k ≤ n ∧ v7 = .int .i64 (k : Int) ∧ Hid ((List.range k).all (risOk lo hi l) = true) ∧ Below w.heap.size w wr) (fun v7 _ => n - (intOf v7).toNat)
  case atStart => exact ⟨0, Nat.zero_le _, rfl, hid rfl, Below.refl _ _⟩
  case round =>
    obtain ⟨k, hk, rfl, HA, hb⟩ := hrel
    by_cases hlt : k < n
    · obtain ⟨b, off, y, rfl, hbl, hc, hy1, hy2, hg, _⟩ := (hI.below hb (Nat.le_refl _)).at (k := k) (by rw [← HN.out]; exact hlt)
      have hkI : (k : Int) < n := by omega
      have hk0 : (0 : Int) ≤ (k : Int) := by omega
      have hcl : ClB wr b (off + k) (.int .i64 y) := ⟨hc, hbl⟩
      have hyd : l.getD k 0 = y := by rw [List.getD_eq_getElem?_getD, hg.out]; rfl
      have hrow : risOk lo hi l k = (fromI lo y hi && (decide (k = 0) || decide (l.getD (k - 1) 0 < y))) := by unfold risOk; rw [hyd]
      have hno := H1.out k hlt
      have h1 := fun V => Within_any lo y hi V
      cases hy : fromI lo y hi with
      | false =>
        rw [hy] at h1 hrow
        have HR := hid (hno hrow)
        clear hno hrow hyd hg HA H2 hy hc
        go_upto_region 4 with fail
        have S0 : BlS wr wr.drew := (Below.refl wr.heap.size wr).drew
        refine wp_region_head 23 (fun w' => BlS wr w') (by kernel_rfl) rfl ?_
        generalize wr.drew = Y0 at *
        refine HeadAt.take (i := 0) (.slice (some ⟨b, off, none⟩) n c) rfl (by kernel_rfl) (.inl ⟨rfl, fun _ _ => by simp [go_sem]⟩) S0 ?_
        (try simp only [Act.put, List.getElem_toArray, List.getElem_cons_succ, List.getElem_cons_zero, List.setIfInBounds_toArray, List.set_cons_succ, List.set_cons_zero])
        refine HeadAt.take (i := 1) (.int .i64 (k : Int)) rfl (by kernel_rfl) (.inl ⟨rfl, fun _ _ => by simp [go_sem]⟩) S0 ?_
        (try simp only [Act.put, List.getElem_toArray, List.getElem_cons_succ, List.getElem_cons_zero, List.setIfInBounds_toArray, List.set_cons_succ, List.set_cons_zero])
        refine HeadAt.take (i := 2) (.pointer (some ⟨b, off + k, none⟩)) rfl (by kernel_rfl) (.inl ⟨rfl, fun w' z => ?_⟩) S0 ?_
        · (simp [go_sem, hkI, hk0])
        (try simp only [Act.put, List.getElem_toArray, List.getElem_cons_succ, List.getElem_cons_zero, List.setIfInBounds_toArray, List.set_cons_succ, List.set_cons_zero])
        refine HeadAt.take (i := 3) (.int .i64 y) rfl (by kernel_rfl) (.inl ⟨rfl, fun w' z => ?_⟩) S0 ?_
        · (have z0 := (hcl.below z).1; simp [go_sem, z0])
        (try simp only [Act.put, List.getElem_toArray, List.getElem_cons_succ, List.getElem_cons_zero, List.setIfInBounds_toArray, List.set_cons_succ, List.set_cons_zero])
        refine HeadAt.take (i := 4) (.int .i64 lo) rfl (by kernel_rfl) (.inl ⟨rfl, fun _ _ => by simp [go_sem]⟩) S0 ?_
        (try simp only [Act.put, List.getElem_toArray, List.getElem_cons_succ, List.getElem_cons_zero, List.setIfInBounds_toArray, List.set_cons_succ, List.set_cons_zero])
        refine HeadAt.take (i := 5) (.int .i64 hi) rfl (by kernel_rfl) (.inl ⟨rfl, fun _ _ => by simp [go_sem]⟩) S0 ?_
        (try simp only [Act.put, List.getElem_toArray, List.getElem_cons_succ, List.getElem_cons_zero, List.setIfInBounds_toArray, List.set_cons_succ, List.set_cons_zero])
        refine HeadAt.one (i := 6) rfl (by kernel_rfl) ?_
        generalize hK : Upto _ _ = K0
        (try simp only [Act.put, List.getElem_toArray, List.getElem_cons_succ, List.getElem_cons_zero, List.setIfInBounds_toArray, List.set_cons_succ, List.set_cons_zero])
        go_wp2_with fail
        refine (h1 _).mono ?_
        rintro e V1 ⟨rfl, rfl⟩
        go_wp2_with fail
        subst hK
        refine ⟨S0, ?_⟩
        (try simp only [Act.put, List.getElem_toArray, List.getElem_cons_succ, List.getElem_cons_zero, List.setIfInBounds_toArray, List.set_cons_succ, List.set_cons_zero])
        refine HeadAt.take (i := 7) (.bool true) rfl (by kernel_rfl) (.inl ⟨rfl, fun _ _ => by simp [go_sem]⟩) S0 ?_
        (try simp only [Act.put, List.getElem_toArray, List.getElem_cons_succ, List.getElem_cons_zero, List.setIfInBounds_toArray, List.set_cons_succ, List.set_cons_zero])
        refine HeadAt.take (i := 8) (.bool true) rfl (by kernel_rfl) (.inl ⟨rfl, fun _ _ => by simp [go_sem]⟩) S0 ?_
        (try simp only [Act.put, List.getElem_toArray, List.getElem_cons_succ, List.getElem_cons_zero, List.setIfInBounds_toArray, List.set_cons_succ, List.set_cons_zero])
        refine HeadAt.take (i := 9) undef rfl (by kernel_rfl) (.inr ⟨by kernel_rfl, rfl⟩) S0 ?_
        (try simp only [Act.put, List.getElem_toArray, List.getElem_cons_succ, List.getElem_cons_zero, List.setIfInBounds_toArray, List.set_cons_succ, List.set_cons_zero])
        refine HeadAt.take (i := 10) undef rfl (by kernel_rfl) (.inr ⟨by kernel_rfl, rfl⟩) S0 ?_
        (try simp only [Act.put, List.getElem_toArray, List.getElem_cons_succ, List.getElem_cons_zero, List.setIfInBounds_toArray, List.set_cons_succ, List.set_cons_zero])
        refine HeadAt.take (i := 11) undef rfl (by kernel_rfl) (.inr ⟨by kernel_rfl, rfl⟩) S0 ?_
        (try simp only [Act.put, List.getElem_toArray, List.getElem_cons_succ, List.getElem_cons_zero, List.setIfInBounds_toArray, List.set_cons_succ, List.set_cons_zero])
        refine HeadAt.take (i := 12) undef rfl (by kernel_rfl) (.inr ⟨by kernel_rfl, rfl⟩) S0 ?_
        (try simp only [Act.put, List.getElem_toArray, List.getElem_cons_succ, List.getElem_cons_zero, List.setIfInBounds_toArray, List.set_cons_succ, List.set_cons_zero])
        refine HeadAt.take (i := 13) undef rfl (by kernel_rfl) (.inr ⟨by kernel_rfl, rfl⟩) S0 ?_
        (try simp only [Act.put, List.getElem_toArray, List.getElem_cons_succ, List.getElem_cons_zero, List.setIfInBounds_toArray, List.set_cons_succ, List.set_cons_zero])
        refine HeadAt.take (i := 14) undef rfl (by kernel_rfl) (.inr ⟨by kernel_rfl, rfl⟩) S0 ?_
        (try simp only [Act.put, List.getElem_toArray, List.getElem_cons_succ, List.getElem_cons_zero, List.setIfInBounds_toArray, List.set_cons_succ, List.set_cons_zero])
        refine HeadAt.take (i := 15) undef rfl (by kernel_rfl) (.inr ⟨by kernel_rfl, rfl⟩) S0 ?_
        (try simp only [Act.put, List.getElem_toArray, List.getElem_cons_succ, List.getElem_cons_zero, List.setIfInBounds_toArray, List.set_cons_succ, List.set_cons_zero])
        refine HeadAt.take (i := 16) undef rfl (by kernel_rfl) (.inr ⟨by kernel_rfl, rfl⟩) S0 ?_
        (try simp only [Act.put, List.getElem_toArray, List.getElem_cons_succ, List.getElem_cons_zero, List.setIfInBounds_toArray, List.set_cons_succ, List.set_cons_zero])
        refine HeadAt.take (i := 17) undef rfl (by kernel_rfl) (.inr ⟨by kernel_rfl, rfl⟩) S0 ?_
        (try simp only [Act.put, List.getElem_toArray, List.getElem_cons_succ, List.getElem_cons_zero, List.setIfInBounds_toArray, List.set_cons_succ, List.set_cons_zero])
        refine HeadAt.take (i := 18) undef rfl (by kernel_rfl) (.inr ⟨by kernel_rfl, rfl⟩) S0 ?_
        (try simp only [Act.put, List.getElem_toArray, List.getElem_cons_succ, List.getElem_cons_zero, List.setIfInBounds_toArray, List.set_cons_succ, List.set_cons_zero])
        refine HeadAt.take (i := 19) undef rfl (by kernel_rfl) (.inr ⟨by kernel_rfl, rfl⟩) S0 ?_
        (try simp only [Act.put, List.getElem_toArray, List.getElem_cons_succ, List.getElem_cons_zero, List.setIfInBounds_toArray, List.set_cons_succ, List.set_cons_zero])
        refine HeadAt.take (i := 20) undef rfl (by kernel_rfl) (.inr ⟨by kernel_rfl, rfl⟩) S0 ?_
        (try simp only [Act.put, List.getElem_toArray, List.getElem_cons_succ, List.getElem_cons_zero, List.setIfInBounds_toArray, List.set_cons_succ, List.set_cons_zero])
        refine HeadAt.take (i := 21) undef rfl (by kernel_rfl) (.inr ⟨by kernel_rfl, rfl⟩) S0 ?_
        (try simp only [Act.put, List.getElem_toArray, List.getElem_cons_succ, List.getElem_cons_zero, List.setIfInBounds_toArray, List.set_cons_succ, List.set_cons_zero])
        refine HeadAt.take (i := 22) undef rfl (by kernel_rfl) (.inr ⟨by kernel_rfl, rfl⟩) S0 ?_
        (try simp only [Act.put, List.getElem_toArray, List.getElem_cons_succ, List.getElem_cons_zero, List.setIfInBounds_toArray, List.set_cons_succ, List.set_cons_zero])
        refine HeadAt.done (by kernel_rfl) ?_
        (try simp only [Act.put, List.drop_succ_cons, List.drop_zero, List.getElem_toArray, List.getElem_cons_succ, List.getElem_cons_zero])
        go_wp2_with fail
        refine NoPanic.normal ?_
        have hbz := hb.trans (Below.mono S0 hb.size)
        clear S0
        go_wp2
        go_ret
        exact ⟨ret_bool HR.out.symm, hbz⟩
      | true =>
        rw [hy] at h1 hrow
        by_cases hk00 : k = 0
        · have HB := hid (show (List.range (k + 1)).all (risOk lo hi l) = true by rw [all_range_succ, HA.out, hrow]; simp [hk00])
          have hjg : ¬ (k : Int) > 0 := by omega
          clear hno hrow hyd hg HA hy hk00 hc
          go_upto_region 4 with fail
          have S0 : BlS wr wr.drew := (Below.refl wr.heap.size wr).drew
          refine wp_region_head 23 (fun w' => BlS wr w') (by kernel_rfl) rfl ?_
          generalize wr.drew = Y0 at *
          refine HeadAt.take (i := 0) (.slice (some ⟨b, off, none⟩) n c) rfl (by kernel_rfl) (.inl ⟨rfl, fun _ _ => by simp [go_sem]⟩) S0 ?_
          (try simp only [Act.put, List.getElem_toArray, List.getElem_cons_succ, List.getElem_cons_zero, List.setIfInBounds_toArray, List.set_cons_succ, List.set_cons_zero])
          refine HeadAt.take (i := 1) (.int .i64 (k : Int)) rfl (by kernel_rfl) (.inl ⟨rfl, fun _ _ => by simp [go_sem]⟩) S0 ?_
          (try simp only [Act.put, List.getElem_toArray, List.getElem_cons_succ, List.getElem_cons_zero, List.setIfInBounds_toArray, List.set_cons_succ, List.set_cons_zero])
          refine HeadAt.take (i := 2) (.pointer (some ⟨b, off + k, none⟩)) rfl (by kernel_rfl) (.inl ⟨rfl, fun w' z => ?_⟩) S0 ?_
          · (simp [go_sem, hkI, hk0])
          (try simp only [Act.put, List.getElem_toArray, List.getElem_cons_succ, List.getElem_cons_zero, List.setIfInBounds_toArray, List.set_cons_succ, List.set_cons_zero])
          refine HeadAt.take (i := 3) (.int .i64 y) rfl (by kernel_rfl) (.inl ⟨rfl, fun w' z => ?_⟩) S0 ?_
          · (have z0 := (hcl.below z).1; simp [go_sem, z0])
          (try simp only [Act.put, List.getElem_toArray, List.getElem_cons_succ, List.getElem_cons_zero, List.setIfInBounds_toArray, List.set_cons_succ, List.set_cons_zero])
          refine HeadAt.take (i := 4) (.int .i64 lo) rfl (by kernel_rfl) (.inl ⟨rfl, fun _ _ => by simp [go_sem]⟩) S0 ?_
          (try simp only [Act.put, List.getElem_toArray, List.getElem_cons_succ, List.getElem_cons_zero, List.setIfInBounds_toArray, List.set_cons_succ, List.set_cons_zero])
          refine HeadAt.take (i := 5) (.int .i64 hi) rfl (by kernel_rfl) (.inl ⟨rfl, fun _ _ => by simp [go_sem]⟩) S0 ?_
          (try simp only [Act.put, List.getElem_toArray, List.getElem_cons_succ, List.getElem_cons_zero, List.setIfInBounds_toArray, List.set_cons_succ, List.set_cons_zero])
          refine HeadAt.one (i := 6) rfl (by kernel_rfl) ?_
          generalize hK : Upto _ _ = K0
          (try simp only [Act.put, List.getElem_toArray, List.getElem_cons_succ, List.getElem_cons_zero, List.setIfInBounds_toArray, List.set_cons_succ, List.set_cons_zero])
          go_wp2_with fail
          refine (h1 _).mono ?_
          rintro e V1 ⟨rfl, rfl⟩
          go_wp2_with fail
          subst hK
          refine ⟨S0, ?_⟩
          (try simp only [Act.put, List.getElem_toArray, List.getElem_cons_succ, List.getElem_cons_zero, List.setIfInBounds_toArray, List.set_cons_succ, List.set_cons_zero])
          refine HeadAt.take (i := 7) (.bool false) rfl (by kernel_rfl) (.inl ⟨rfl, fun _ _ => by simp [go_sem]⟩) S0 ?_
          (try simp only [Act.put, List.getElem_toArray, List.getElem_cons_succ, List.getElem_cons_zero, List.setIfInBounds_toArray, List.set_cons_succ, List.set_cons_zero])
          refine HeadAt.take (i := 8) (.bool false) rfl (by kernel_rfl) (.inl ⟨rfl, fun _ _ => by simp [go_sem]⟩) S0 ?_
          (try simp only [Act.put, List.getElem_toArray, List.getElem_cons_succ, List.getElem_cons_zero, List.setIfInBounds_toArray, List.set_cons_succ, List.set_cons_zero])
          refine HeadAt.take (i := 9) (.int .i64 (k : Int)) rfl (by kernel_rfl) (.inl ⟨rfl, fun _ _ => by simp [go_sem]⟩) S0 ?_
          (try simp only [Act.put, List.getElem_toArray, List.getElem_cons_succ, List.getElem_cons_zero, List.setIfInBounds_toArray, List.set_cons_succ, List.set_cons_zero])
          refine HeadAt.take (i := 10) (.bool false) rfl (by kernel_rfl) (.inl ⟨rfl, fun w' z => ?_⟩) S0 ?_
          · (simp [go_sem, hjg] <;> omega)
          (try simp only [Act.put, List.getElem_toArray, List.getElem_cons_succ, List.getElem_cons_zero, List.setIfInBounds_toArray, List.set_cons_succ, List.set_cons_zero])
          refine HeadAt.take (i := 11) (.bool false) rfl (by kernel_rfl) (.inl ⟨rfl, fun _ _ => by simp [go_sem]⟩) S0 ?_
          (try simp only [Act.put, List.getElem_toArray, List.getElem_cons_succ, List.getElem_cons_zero, List.setIfInBounds_toArray, List.set_cons_succ, List.set_cons_zero])
          refine HeadAt.take (i := 12) undef rfl (by kernel_rfl) (.inr ⟨by kernel_rfl, rfl⟩) S0 ?_
          (try simp only [Act.put, List.getElem_toArray, List.getElem_cons_succ, List.getElem_cons_zero, List.setIfInBounds_toArray, List.set_cons_succ, List.set_cons_zero])
          refine HeadAt.take (i := 13) undef rfl (by kernel_rfl) (.inr ⟨by kernel_rfl, rfl⟩) S0 ?_
          (try simp only [Act.put, List.getElem_toArray, List.getElem_cons_succ, List.getElem_cons_zero, List.setIfInBounds_toArray, List.set_cons_succ, List.set_cons_zero])
          refine HeadAt.take (i := 14) undef rfl (by kernel_rfl) (.inr ⟨by kernel_rfl, rfl⟩) S0 ?_
          (try simp only [Act.put, List.getElem_toArray, List.getElem_cons_succ, List.getElem_cons_zero, List.setIfInBounds_toArray, List.set_cons_succ, List.set_cons_zero])
          refine HeadAt.take (i := 15) undef rfl (by kernel_rfl) (.inr ⟨by kernel_rfl, rfl⟩) S0 ?_
          (try simp only [Act.put, List.getElem_toArray, List.getElem_cons_succ, List.getElem_cons_zero, List.setIfInBounds_toArray, List.set_cons_succ, List.set_cons_zero])
          refine HeadAt.take (i := 16) undef rfl (by kernel_rfl) (.inr ⟨by kernel_rfl, rfl⟩) S0 ?_
          (try simp only [Act.put, List.getElem_toArray, List.getElem_cons_succ, List.getElem_cons_zero, List.setIfInBounds_toArray, List.set_cons_succ, List.set_cons_zero])
          refine HeadAt.take (i := 17) undef rfl (by kernel_rfl) (.inr ⟨by kernel_rfl, rfl⟩) S0 ?_
          (try simp only [Act.put, List.getElem_toArray, List.getElem_cons_succ, List.getElem_cons_zero, List.setIfInBounds_toArray, List.set_cons_succ, List.set_cons_zero])
          refine HeadAt.take (i := 18) undef rfl (by kernel_rfl) (.inr ⟨by kernel_rfl, rfl⟩) S0 ?_
          (try simp only [Act.put, List.getElem_toArray, List.getElem_cons_succ, List.getElem_cons_zero, List.setIfInBounds_toArray, List.set_cons_succ, List.set_cons_zero])
          refine HeadAt.take (i := 19) undef rfl (by kernel_rfl) (.inr ⟨by kernel_rfl, rfl⟩) S0 ?_
          (try simp only [Act.put, List.getElem_toArray, List.getElem_cons_succ, List.getElem_cons_zero, List.setIfInBounds_toArray, List.set_cons_succ, List.set_cons_zero])
          refine HeadAt.take (i := 20) undef rfl (by kernel_rfl) (.inr ⟨by kernel_rfl, rfl⟩) S0 ?_
          (try simp only [Act.put, List.getElem_toArray, List.getElem_cons_succ, List.getElem_cons_zero, List.setIfInBounds_toArray, List.set_cons_succ, List.set_cons_zero])
          refine HeadAt.take (i := 21) undef rfl (by kernel_rfl) (.inr ⟨by kernel_rfl, rfl⟩) S0 ?_
          (try simp only [Act.put, List.getElem_toArray, List.getElem_cons_succ, List.getElem_cons_zero, List.setIfInBounds_toArray, List.set_cons_succ, List.set_cons_zero])
          refine HeadAt.take (i := 22) (.bool false) rfl (by kernel_rfl) (.inl ⟨rfl, fun _ _ => by simp [go_sem]⟩) S0 ?_
          (try simp only [Act.put, List.getElem_toArray, List.getElem_cons_succ, List.getElem_cons_zero, List.setIfInBounds_toArray, List.set_cons_succ, List.set_cons_zero])
          refine HeadAt.done (by kernel_rfl) ?_
          (try simp only [Act.put, List.drop_succ_cons, List.drop_zero, List.getElem_toArray, List.getElem_cons_succ, List.getElem_cons_zero])
          go_wp2_with fail
          refine NoPanic.normal ?_
          have hbz := hb.trans (Below.mono S0 hb.size)
          clear S0
          go_wp2
          go_roundw
          case rel => exact ⟨k + 1, by omega, by simp, HB, hbz⟩
          case measure => simp [intOf]; omega
        · obtain ⟨j, hj⟩ : ∃ j, j = k - 1 := ⟨_, rfl⟩
          obtain ⟨b', off', z, eb, hbl', hc', hz1, hz2, hg', _⟩ := (hI.below hb (Nat.le_refl _)).at (k := j) (by rw [← HN.out]; omega)
          simp only [Option.some.injEq, Addr.mk.injEq, and_true] at eb
          obtain ⟨rfl, rfl⟩ := eb
          have hzd : l.getD (k - 1) 0 = z := by rw [← hj, List.getD_eq_getElem?_getD, hg'.out]; rfl
          rw [hzd] at hrow
          have hcl' : ClB wr b (off + j) (.int .i64 z) := ⟨hc', hbl'⟩
          have hjI : (j : Int) < n := by omega
          have hj0 : (0 : Int) ≤ (j : Int) := by omega
          have hjg : (k : Int) > 0 := by omega
          have ewj : IntKind.i64.wrap ((k : Int) - 1) = (j : Int) := by rw [IntWalk.i64_in _ (by omega)]; omega
          by_cases hlt2 : z < y
          · have HB := hid (show (List.range (k + 1)).all (risOk lo hi l) = true by rw [all_range_succ, HA.out, hrow]; simp [hlt2])
            have hle3 : ¬ y ≤ z := by omega
            clear hno hrow hyd hzd hg hg' HA hy hj hk00 hc hc' 
            go_upto_region 4 with fail
            have S0 : BlS wr wr.drew := (Below.refl wr.heap.size wr).drew
            refine wp_region_head 23 (fun w' => BlS wr w') (by kernel_rfl) rfl ?_
            generalize wr.drew = Y0 at *
            refine HeadAt.take (i := 0) (.slice (some ⟨b, off, none⟩) n c) rfl (by kernel_rfl) (.inl ⟨rfl, fun _ _ => by simp [go_sem]⟩) S0 ?_
            (try simp only [Act.put, List.getElem_toArray, List.getElem_cons_succ, List.getElem_cons_zero, List.setIfInBounds_toArray, List.set_cons_succ, List.set_cons_zero])
            refine HeadAt.take (i := 1) (.int .i64 (k : Int)) rfl (by kernel_rfl) (.inl ⟨rfl, fun _ _ => by simp [go_sem]⟩) S0 ?_
            (try simp only [Act.put, List.getElem_toArray, List.getElem_cons_succ, List.getElem_cons_zero, List.setIfInBounds_toArray, List.set_cons_succ, List.set_cons_zero])
            refine HeadAt.take (i := 2) (.pointer (some ⟨b, off + k, none⟩)) rfl (by kernel_rfl) (.inl ⟨rfl, fun w' z => ?_⟩) S0 ?_
            · (simp [go_sem, hkI, hk0])
            (try simp only [Act.put, List.getElem_toArray, List.getElem_cons_succ, List.getElem_cons_zero, List.setIfInBounds_toArray, List.set_cons_succ, List.set_cons_zero])
            refine HeadAt.take (i := 3) (.int .i64 y) rfl (by kernel_rfl) (.inl ⟨rfl, fun w' z => ?_⟩) S0 ?_
            · (have z0 := (hcl.below z).1; simp [go_sem, z0])
            (try simp only [Act.put, List.getElem_toArray, List.getElem_cons_succ, List.getElem_cons_zero, List.setIfInBounds_toArray, List.set_cons_succ, List.set_cons_zero])
            refine HeadAt.take (i := 4) (.int .i64 lo) rfl (by kernel_rfl) (.inl ⟨rfl, fun _ _ => by simp [go_sem]⟩) S0 ?_
            (try simp only [Act.put, List.getElem_toArray, List.getElem_cons_succ, List.getElem_cons_zero, List.setIfInBounds_toArray, List.set_cons_succ, List.set_cons_zero])
            refine HeadAt.take (i := 5) (.int .i64 hi) rfl (by kernel_rfl) (.inl ⟨rfl, fun _ _ => by simp [go_sem]⟩) S0 ?_
            (try simp only [Act.put, List.getElem_toArray, List.getElem_cons_succ, List.getElem_cons_zero, List.setIfInBounds_toArray, List.set_cons_succ, List.set_cons_zero])
            refine HeadAt.one (i := 6) rfl (by kernel_rfl) ?_
            generalize hK : Upto _ _ = K0
            (try simp only [Act.put, List.getElem_toArray, List.getElem_cons_succ, List.getElem_cons_zero, List.setIfInBounds_toArray, List.set_cons_succ, List.set_cons_zero])
            go_wp2_with fail
            refine (h1 _).mono ?_
            rintro e V1 ⟨rfl, rfl⟩
            go_wp2_with fail
            subst hK
            refine ⟨S0, ?_⟩
            (try simp only [Act.put, List.getElem_toArray, List.getElem_cons_succ, List.getElem_cons_zero, List.setIfInBounds_toArray, List.set_cons_succ, List.set_cons_zero])
            refine HeadAt.take (i := 7) (.bool false) rfl (by kernel_rfl) (.inl ⟨rfl, fun _ _ => by simp [go_sem]⟩) S0 ?_
            (try simp only [Act.put, List.getElem_toArray, List.getElem_cons_succ, List.getElem_cons_zero, List.setIfInBounds_toArray, List.set_cons_succ, List.set_cons_zero])
            refine HeadAt.take (i := 8) (.bool false) rfl (by kernel_rfl) (.inl ⟨rfl, fun _ _ => by simp [go_sem]⟩) S0 ?_
            (try simp only [Act.put, List.getElem_toArray, List.getElem_cons_succ, List.getElem_cons_zero, List.setIfInBounds_toArray, List.set_cons_succ, List.set_cons_zero])
            refine HeadAt.take (i := 9) (.int .i64 (k : Int)) rfl (by kernel_rfl) (.inl ⟨rfl, fun _ _ => by simp [go_sem]⟩) S0 ?_
            (try simp only [Act.put, List.getElem_toArray, List.getElem_cons_succ, List.getElem_cons_zero, List.setIfInBounds_toArray, List.set_cons_succ, List.set_cons_zero])
            refine HeadAt.take (i := 10) (.bool true) rfl (by kernel_rfl) (.inl ⟨rfl, fun w' z => ?_⟩) S0 ?_
            · (simp [go_sem, hjg] <;> omega)
            (try simp only [Act.put, List.getElem_toArray, List.getElem_cons_succ, List.getElem_cons_zero, List.setIfInBounds_toArray, List.set_cons_succ, List.set_cons_zero])
            refine HeadAt.take (i := 11) (.bool true) rfl (by kernel_rfl) (.inl ⟨rfl, fun _ _ => by simp [go_sem]⟩) S0 ?_
            (try simp only [Act.put, List.getElem_toArray, List.getElem_cons_succ, List.getElem_cons_zero, List.setIfInBounds_toArray, List.set_cons_succ, List.set_cons_zero])
            refine HeadAt.take (i := 12) (.slice (some ⟨b, off, none⟩) n c) rfl (by kernel_rfl) (.inl ⟨rfl, fun _ _ => by simp [go_sem]⟩) S0 ?_
            (try simp only [Act.put, List.getElem_toArray, List.getElem_cons_succ, List.getElem_cons_zero, List.setIfInBounds_toArray, List.set_cons_succ, List.set_cons_zero])
            refine HeadAt.take (i := 13) (.int .i64 (k : Int)) rfl (by kernel_rfl) (.inl ⟨rfl, fun _ _ => by simp [go_sem]⟩) S0 ?_
            (try simp only [Act.put, List.getElem_toArray, List.getElem_cons_succ, List.getElem_cons_zero, List.setIfInBounds_toArray, List.set_cons_succ, List.set_cons_zero])
            refine HeadAt.take (i := 14) (.pointer (some ⟨b, off + k, none⟩)) rfl (by kernel_rfl) (.inl ⟨rfl, fun w' z => ?_⟩) S0 ?_
            · (simp [go_sem, hkI, hk0])
            (try simp only [Act.put, List.getElem_toArray, List.getElem_cons_succ, List.getElem_cons_zero, List.setIfInBounds_toArray, List.set_cons_succ, List.set_cons_zero])
            refine HeadAt.take (i := 15) (.int .i64 y) rfl (by kernel_rfl) (.inl ⟨rfl, fun w' z => ?_⟩) S0 ?_
            · (have z0 := (hcl.below z).1; simp [go_sem, z0])
            (try simp only [Act.put, List.getElem_toArray, List.getElem_cons_succ, List.getElem_cons_zero, List.setIfInBounds_toArray, List.set_cons_succ, List.set_cons_zero])
            refine HeadAt.take (i := 16) (.slice (some ⟨b, off, none⟩) n c) rfl (by kernel_rfl) (.inl ⟨rfl, fun _ _ => by simp [go_sem]⟩) S0 ?_
            (try simp only [Act.put, List.getElem_toArray, List.getElem_cons_succ, List.getElem_cons_zero, List.setIfInBounds_toArray, List.set_cons_succ, List.set_cons_zero])
            refine HeadAt.take (i := 17) (.int .i64 (k : Int)) rfl (by kernel_rfl) (.inl ⟨rfl, fun _ _ => by simp [go_sem]⟩) S0 ?_
            (try simp only [Act.put, List.getElem_toArray, List.getElem_cons_succ, List.getElem_cons_zero, List.setIfInBounds_toArray, List.set_cons_succ, List.set_cons_zero])
            refine HeadAt.take (i := 18) (.int .i64 (j : Int)) rfl (by kernel_rfl) (.inl ⟨rfl, fun w' z => ?_⟩) S0 ?_
            · (simp [go_sem, ewj])
            (try simp only [Act.put, List.getElem_toArray, List.getElem_cons_succ, List.getElem_cons_zero, List.setIfInBounds_toArray, List.set_cons_succ, List.set_cons_zero])
            refine HeadAt.take (i := 19) (.pointer (some ⟨b, off + j, none⟩)) rfl (by kernel_rfl) (.inl ⟨rfl, fun w' z => ?_⟩) S0 ?_
            · (simp [go_sem, hjI, hj0])
            (try simp only [Act.put, List.getElem_toArray, List.getElem_cons_succ, List.getElem_cons_zero, List.setIfInBounds_toArray, List.set_cons_succ, List.set_cons_zero])
            refine HeadAt.take (i := 20) (.int .i64 z) rfl (by kernel_rfl) (.inl ⟨rfl, fun w' z => ?_⟩) S0 ?_
            · (have z0 := (hcl'.below z).1; simp [go_sem, z0])
            (try simp only [Act.put, List.getElem_toArray, List.getElem_cons_succ, List.getElem_cons_zero, List.setIfInBounds_toArray, List.set_cons_succ, List.set_cons_zero])
            refine HeadAt.take (i := 21) (.bool false) rfl (by kernel_rfl) (.inl ⟨rfl, fun w' z => ?_⟩) S0 ?_
            · (simp [go_sem] <;> omega)
            (try simp only [Act.put, List.getElem_toArray, List.getElem_cons_succ, List.getElem_cons_zero, List.setIfInBounds_toArray, List.set_cons_succ, List.set_cons_zero])
            refine HeadAt.take (i := 22) (.bool false) rfl (by kernel_rfl) (.inl ⟨rfl, fun _ _ => by simp [go_sem]⟩) S0 ?_
            (try simp only [Act.put, List.getElem_toArray, List.getElem_cons_succ, List.getElem_cons_zero, List.setIfInBounds_toArray, List.set_cons_succ, List.set_cons_zero])
            refine HeadAt.done (by kernel_rfl) ?_
            (try simp only [Act.put, List.drop_succ_cons, List.drop_zero, List.getElem_toArray, List.getElem_cons_succ, List.getElem_cons_zero])
            go_wp2_with fail
            refine NoPanic.normal ?_
            have hbz := hb.trans (Below.mono S0 hb.size)
            clear S0
            go_wp2
            go_roundw
            case rel => exact ⟨k + 1, by omega, by simp, HB, hbz⟩
            case measure => simp [intOf]; omega
          · have hle2 : y ≤ z := by omega
            have HR := hid (hno (by rw [hrow]; simp [hlt2, hk00]))
            clear hno hrow hyd hzd hg hg' HA hy H2 hj hk00 hc hc' 
            go_upto_region 4 with fail
            have S0 : BlS wr wr.drew := (Below.refl wr.heap.size wr).drew
            refine wp_region_head 23 (fun w' => BlS wr w') (by kernel_rfl) rfl ?_
            generalize wr.drew = Y0 at *
            refine HeadAt.take (i := 0) (.slice (some ⟨b, off, none⟩) n c) rfl (by kernel_rfl) (.inl ⟨rfl, fun _ _ => by simp [go_sem]⟩) S0 ?_
            (try simp only [Act.put, List.getElem_toArray, List.getElem_cons_succ, List.getElem_cons_zero, List.setIfInBounds_toArray, List.set_cons_succ, List.set_cons_zero])
            refine HeadAt.take (i := 1) (.int .i64 (k : Int)) rfl (by kernel_rfl) (.inl ⟨rfl, fun _ _ => by simp [go_sem]⟩) S0 ?_
            (try simp only [Act.put, List.getElem_toArray, List.getElem_cons_succ, List.getElem_cons_zero, List.setIfInBounds_toArray, List.set_cons_succ, List.set_cons_zero])
            refine HeadAt.take (i := 2) (.pointer (some ⟨b, off + k, none⟩)) rfl (by kernel_rfl) (.inl ⟨rfl, fun w' z => ?_⟩) S0 ?_
            · (simp [go_sem, hkI, hk0])
            (try simp only [Act.put, List.getElem_toArray, List.getElem_cons_succ, List.getElem_cons_zero, List.setIfInBounds_toArray, List.set_cons_succ, List.set_cons_zero])
            refine HeadAt.take (i := 3) (.int .i64 y) rfl (by kernel_rfl) (.inl ⟨rfl, fun w' z => ?_⟩) S0 ?_
            · (have z0 := (hcl.below z).1; simp [go_sem, z0])
            (try simp only [Act.put, List.getElem_toArray, List.getElem_cons_succ, List.getElem_cons_zero, List.setIfInBounds_toArray, List.set_cons_succ, List.set_cons_zero])
            refine HeadAt.take (i := 4) (.int .i64 lo) rfl (by kernel_rfl) (.inl ⟨rfl, fun _ _ => by simp [go_sem]⟩) S0 ?_
            (try simp only [Act.put, List.getElem_toArray, List.getElem_cons_succ, List.getElem_cons_zero, List.setIfInBounds_toArray, List.set_cons_succ, List.set_cons_zero])
            refine HeadAt.take (i := 5) (.int .i64 hi) rfl (by kernel_rfl) (.inl ⟨rfl, fun _ _ => by simp [go_sem]⟩) S0 ?_
            (try simp only [Act.put, List.getElem_toArray, List.getElem_cons_succ, List.getElem_cons_zero, List.setIfInBounds_toArray, List.set_cons_succ, List.set_cons_zero])
            refine HeadAt.one (i := 6) rfl (by kernel_rfl) ?_
            generalize hK : Upto _ _ = K0
            (try simp only [Act.put, List.getElem_toArray, List.getElem_cons_succ, List.getElem_cons_zero, List.setIfInBounds_toArray, List.set_cons_succ, List.set_cons_zero])
            go_wp2_with fail
            refine (h1 _).mono ?_
            rintro e V1 ⟨rfl, rfl⟩
            go_wp2_with fail
            subst hK
            refine ⟨S0, ?_⟩
            (try simp only [Act.put, List.getElem_toArray, List.getElem_cons_succ, List.getElem_cons_zero, List.setIfInBounds_toArray, List.set_cons_succ, List.set_cons_zero])
            refine HeadAt.take (i := 7) (.bool false) rfl (by kernel_rfl) (.inl ⟨rfl, fun _ _ => by simp [go_sem]⟩) S0 ?_
            (try simp only [Act.put, List.getElem_toArray, List.getElem_cons_succ, List.getElem_cons_zero, List.setIfInBounds_toArray, List.set_cons_succ, List.set_cons_zero])
            refine HeadAt.take (i := 8) (.bool false) rfl (by kernel_rfl) (.inl ⟨rfl, fun _ _ => by simp [go_sem]⟩) S0 ?_
            (try simp only [Act.put, List.getElem_toArray, List.getElem_cons_succ, List.getElem_cons_zero, List.setIfInBounds_toArray, List.set_cons_succ, List.set_cons_zero])
            refine HeadAt.take (i := 9) (.int .i64 (k : Int)) rfl (by kernel_rfl) (.inl ⟨rfl, fun _ _ => by simp [go_sem]⟩) S0 ?_
            (try simp only [Act.put, List.getElem_toArray, List.getElem_cons_succ, List.getElem_cons_zero, List.setIfInBounds_toArray, List.set_cons_succ, List.set_cons_zero])
            refine HeadAt.take (i := 10) (.bool true) rfl (by kernel_rfl) (.inl ⟨rfl, fun w' z => ?_⟩) S0 ?_
            · (simp [go_sem, hjg] <;> omega)
            (try simp only [Act.put, List.getElem_toArray, List.getElem_cons_succ, List.getElem_cons_zero, List.setIfInBounds_toArray, List.set_cons_succ, List.set_cons_zero])
            refine HeadAt.take (i := 11) (.bool true) rfl (by kernel_rfl) (.inl ⟨rfl, fun _ _ => by simp [go_sem]⟩) S0 ?_
            (try simp only [Act.put, List.getElem_toArray, List.getElem_cons_succ, List.getElem_cons_zero, List.setIfInBounds_toArray, List.set_cons_succ, List.set_cons_zero])
            refine HeadAt.take (i := 12) (.slice (some ⟨b, off, none⟩) n c) rfl (by kernel_rfl) (.inl ⟨rfl, fun _ _ => by simp [go_sem]⟩) S0 ?_
            (try simp only [Act.put, List.getElem_toArray, List.getElem_cons_succ, List.getElem_cons_zero, List.setIfInBounds_toArray, List.set_cons_succ, List.set_cons_zero])
            refine HeadAt.take (i := 13) (.int .i64 (k : Int)) rfl (by kernel_rfl) (.inl ⟨rfl, fun _ _ => by simp [go_sem]⟩) S0 ?_
            (try simp only [Act.put, List.getElem_toArray, List.getElem_cons_succ, List.getElem_cons_zero, List.setIfInBounds_toArray, List.set_cons_succ, List.set_cons_zero])
            refine HeadAt.take (i := 14) (.pointer (some ⟨b, off + k, none⟩)) rfl (by kernel_rfl) (.inl ⟨rfl, fun w' z => ?_⟩) S0 ?_
            · (simp [go_sem, hkI, hk0])
            (try simp only [Act.put, List.getElem_toArray, List.getElem_cons_succ, List.getElem_cons_zero, List.setIfInBounds_toArray, List.set_cons_succ, List.set_cons_zero])
            refine HeadAt.take (i := 15) (.int .i64 y) rfl (by kernel_rfl) (.inl ⟨rfl, fun w' z => ?_⟩) S0 ?_
            · (have z0 := (hcl.below z).1; simp [go_sem, z0])
            (try simp only [Act.put, List.getElem_toArray, List.getElem_cons_succ, List.getElem_cons_zero, List.setIfInBounds_toArray, List.set_cons_succ, List.set_cons_zero])
            refine HeadAt.take (i := 16) (.slice (some ⟨b, off, none⟩) n c) rfl (by kernel_rfl) (.inl ⟨rfl, fun _ _ => by simp [go_sem]⟩) S0 ?_
            (try simp only [Act.put, List.getElem_toArray, List.getElem_cons_succ, List.getElem_cons_zero, List.setIfInBounds_toArray, List.set_cons_succ, List.set_cons_zero])
            refine HeadAt.take (i := 17) (.int .i64 (k : Int)) rfl (by kernel_rfl) (.inl ⟨rfl, fun _ _ => by simp [go_sem]⟩) S0 ?_
            (try simp only [Act.put, List.getElem_toArray, List.getElem_cons_succ, List.getElem_cons_zero, List.setIfInBounds_toArray, List.set_cons_succ, List.set_cons_zero])
            refine HeadAt.take (i := 18) (.int .i64 (j : Int)) rfl (by kernel_rfl) (.inl ⟨rfl, fun w' z => ?_⟩) S0 ?_
            · (simp [go_sem, ewj])
            (try simp only [Act.put, List.getElem_toArray, List.getElem_cons_succ, List.getElem_cons_zero, List.setIfInBounds_toArray, List.set_cons_succ, List.set_cons_zero])
            refine HeadAt.take (i := 19) (.pointer (some ⟨b, off + j, none⟩)) rfl (by kernel_rfl) (.inl ⟨rfl, fun w' z => ?_⟩) S0 ?_
            · (simp [go_sem, hjI, hj0])
            (try simp only [Act.put, List.getElem_toArray, List.getElem_cons_succ, List.getElem_cons_zero, List.setIfInBounds_toArray, List.set_cons_succ, List.set_cons_zero])
            refine HeadAt.take (i := 20) (.int .i64 z) rfl (by kernel_rfl) (.inl ⟨rfl, fun w' z => ?_⟩) S0 ?_
            · (have z0 := (hcl'.below z).1; simp [go_sem, z0])
            (try simp only [Act.put, List.getElem_toArray, List.getElem_cons_succ, List.getElem_cons_zero, List.setIfInBounds_toArray, List.set_cons_succ, List.set_cons_zero])
            refine HeadAt.take (i := 21) (.bool true) rfl (by kernel_rfl) (.inl ⟨rfl, fun w' z => ?_⟩) S0 ?_
            · (simp [go_sem] <;> omega)
            (try simp only [Act.put, List.getElem_toArray, List.getElem_cons_succ, List.getElem_cons_zero, List.setIfInBounds_toArray, List.set_cons_succ, List.set_cons_zero])
            refine HeadAt.take (i := 22) (.bool true) rfl (by kernel_rfl) (.inl ⟨rfl, fun _ _ => by simp [go_sem]⟩) S0 ?_
            (try simp only [Act.put, List.getElem_toArray, List.getElem_cons_succ, List.getElem_cons_zero, List.setIfInBounds_toArray, List.set_cons_succ, List.set_cons_zero])
            refine HeadAt.done (by kernel_rfl) ?_
            (try simp only [Act.put, List.drop_succ_cons, List.drop_zero, List.getElem_toArray, List.getElem_cons_succ, List.getElem_cons_zero])
            go_wp2_with fail
            refine NoPanic.normal ?_
            have hbz := hb.trans (Below.mono S0 hb.size)
            clear S0
            go_wp2
            go_ret
            exact ⟨ret_bool HR.out.symm, hbz⟩
    · obtain rfl : k = n := by omega
      have HR := hid (H2.out HA.out)
      go_wp2
      go_ret
      exact ⟨ret_bool HR.out.symm, hb⟩
end Go.Proofs.Yteianfbdhakhpaa
/-! The reference's Check; ready, Far, isKnown. -/
namespace Go.Proofs.Yteianfbdhakhpaa
set_option linter.unusedSimpArgs false
set_option linter.unusedVariables false
open Go Go.RowKit

theorem vB_iff (X : Pu) : vB X = true ↔ ((1 ≤ X.l ∧ X.l ≤ 5) ∧ (1 ≤ X.n ∧ X.n ≤ 5) ∧ (1 ≤ X.pi ∧ X.pi ≤ 99) ∧ (0 ≤ X.sl ∧ X.sl ≤ X.pi - 1) ∧ (1 ≤ X.pa ∧ X.pa ≤ 999) ∧ (X.pi + X.sl + 1 ≤ X.ga ∧ X.ga ≤ X.pa - 1) ∧ (0 ≤ X.sp ∧ X.sp ≤ 3) ∧ X.ts.length ≤ 24 ∧ risB 0 99999 X.ts = true) := by
  unfold vB distB
  rw [timesB_ris]
  simp only [Bool.and_eq_true, fromI_iff, decide_eq_true_eq]
  constructor
  · rintro ⟨h1, h2, ⟨h3, h4, h5, h6, h7⟩, h8, h9, h10⟩
    exact ⟨h1, h2, h3, h4, by omega, by omega, h8, h10, h9⟩
  · rintro ⟨h1, h2, h3, h4, h5, h6, h7, h8, h9⟩
    exact ⟨h1, h2, ⟨h3, h4, by omega, by omega, by omega⟩, h7, h9, h8⟩
theorem within_true {lo x hi : Int} (h : lo ≤ x ∧ x ≤ hi) (w : World) : Calls Try.prog 49 #[.int .i64 x, .int .i64 lo, .int .i64 hi] w fun e w' => e = .returned (.bool true) ∧ w = w' := by
  have := within_any lo x hi w
  rwa [fromI_iff.2 h] at this
theorem within_false {lo x hi : Int} (h : ¬ (lo ≤ x ∧ x ≤ hi)) (w : World) : Calls Try.prog 49 #[.int .i64 x, .int .i64 lo, .int .i64 hi] w fun e w' => e = .returned (.bool false) ∧ w = w' := by
  have := within_any lo x hi w
  rwa [show fromI lo x hi = false from Bool.eq_false_iff.2 (fun h2 => h (fromI_iff.1 h2))] at this
/-- The error of a train by itself. -/
def vE (X : Pu) : Int := if vB X = true then 0 else 130
set_option maxRecDepth 100000 in
set_option maxHeartbeats 6000000 in
theorem rCheck_any (aT : Option Addr) (cT : Nat) (X : Pu) (w : World) (hX : Ints w aT X.ts) : Calls Try.prog 16 #[.agg #[.int .i64 X.l, .int .i64 X.n, .int .i64 X.pi, .int .i64 X.sl, .int .i64 X.ga, .int .i64 X.pa, .int .i64 X.sp, .slice aT X.ts.length cT]] w fun e w' => e = .returned (.int .i64 (vE X)) ∧ Below w.heap.size w w' := by
  obtain ⟨W, hW, hb, _, x0⟩ := boxes1 w #[.int .i64 X.l, .int .i64 X.n, .int .i64 X.pi, .int .i64 X.sl, .int .i64 X.ga, .int .i64 X.pa, .int .i64 X.sp, .slice aT X.ts.length cT] 24
  have c0 := x0.cell 0 rfl; have c1 := x0.cell 1 rfl; have c2 := x0.cell 2 rfl; have c3 := x0.cell 3 rfl; have c4 := x0.cell 4 rfl; have c5 := x0.cell 5 rfl; have c6 := x0.cell 6 rfl; have c7 := x0.cell 7 rfl
  have hri := Rising_any aT cT X.ts 0 99999 W (hX.below hb (Nat.le_refl _))
  have HV := hid (vB_iff X)
  have HE := hid (show vE X = if vB X = true then 0 else 130 from rfl)
  have HN := hid (show vB X ≠ true → vE X = 130 from fun h => by rw [HE.out, if_neg h])
  have HY := hid (show vB X = true → vE X = 0 from fun h => by rw [HE.out, if_pos h])
  generalize vE X = E at *
  generalize vB X = r at *
  clear HE hX x0
  obtain ⟨rb, hrb⟩ : ∃ rb, rb = risB 0 99999 X.ts := ⟨_, rfl⟩
  rw [← hrb] at hri HV
  obtain ⟨m, hm⟩ : ∃ m, m = X.ts.length := ⟨_, rfl⟩
  rw [← hm] at hri HV c7 hW ⊢
  clear hrb hm
  go_enter Try.func16, Try.ntmps16
  by_cases p0 : 1 ≤ X.l ∧ X.l ≤ 5
  · have hc := within_true p0 W
    go_wp2_with fail
    refine hc.mono ?_
    rintro e V0 ⟨rfl, rfl⟩
    clear hc
    by_cases p1 : 1 ≤ X.n ∧ X.n ≤ 5
    · have hc := within_true p1 W
      go_wp2_with fail
      refine hc.mono ?_
      rintro e V1 ⟨rfl, rfl⟩
      clear hc
      by_cases p2 : 1 ≤ X.pi ∧ X.pi ≤ 99
      · have hc := within_true p2 W
        go_wp2_with fail
        refine hc.mono ?_
        rintro e V2 ⟨rfl, rfl⟩
        clear hc
        have ew3 : IntKind.i64.wrap (X.pi - 1) = X.pi - 1 := IntWalk.i64_in _ (by omega)
        by_cases p3 : 0 ≤ X.sl ∧ X.sl ≤ X.pi - 1
        · have hc := within_true p3 W
          go_wp2_with fail
          refine hc.mono ?_
          rintro e V3 ⟨rfl, rfl⟩
          clear hc
          by_cases p4 : 1 ≤ X.pa ∧ X.pa ≤ 999
          · have hc := within_true p4 W
            go_wp2_with fail
            refine hc.mono ?_
            rintro e V4 ⟨rfl, rfl⟩
            clear hc
            have ew5 : IntKind.i64.wrap (X.pi + X.sl) = X.pi + X.sl := IntWalk.i64_in _ (by omega)
            have ew6 : IntKind.i64.wrap (X.pi + X.sl + 1) = X.pi + X.sl + 1 := IntWalk.i64_in _ (by omega)
            have ew7 : IntKind.i64.wrap (X.pa - 1) = X.pa - 1 := IntWalk.i64_in _ (by omega)
            by_cases p5 : X.pi + X.sl + 1 ≤ X.ga ∧ X.ga ≤ X.pa - 1
            · have hc := within_true p5 W
              go_wp2_with fail
              refine hc.mono ?_
              rintro e V5 ⟨rfl, rfl⟩
              clear hc
              by_cases p6 : 0 ≤ X.sp ∧ X.sp ≤ 3
              · have hc := within_true p6 W
                go_wp2_with fail
                refine hc.mono ?_
                rintro e V6 ⟨rfl, rfl⟩
                clear hc
                by_cases p7 : m ≤ 24
                · have p7I : ¬ (m : Int) > 24 := by omega
                  cases rb with
                  | true =>
                    have HR := hid (HY.out (HV.out.2 ⟨p0, p1, p2, p3, p4, p5, p6, p7, rfl⟩))
                    clear HV HN HY
                    go_wp2_with fail
                    refine hri.mono ?_
                    rintro e V9 ⟨rfl, hb9⟩
                    replace hb := hb.trans (hb9.mono hb.size)
                    clear hb9
                    go_wp2
                    go_ret
                    exact ⟨by rw [HR.out]; rfl, hb⟩
                  | false =>
                    have HR := hid (HN.out fun hr => by have := (HV.out.1 hr).2.2.2.2.2.2.2.2; cases this)
                    clear HV HN HY
                    go_wp2_with fail
                    refine hri.mono ?_
                    rintro e V9 ⟨rfl, hb9⟩
                    replace hb := hb.trans (hb9.mono hb.size)
                    clear hb9
                    go_wp2
                    go_ret
                    exact ⟨by rw [HR.out]; rfl, hb⟩
                · have p7I : (m : Int) > 24 := by omega
                  have HR := hid (HN.out fun hr => p7 (HV.out.1 hr).2.2.2.2.2.2.2.1)
                  clear HV HN HY hri
                  go_wp2
                  go_ret
                  exact ⟨by rw [HR.out]; rfl, hb⟩
              · have hc := within_false p6 W
                have HR := hid (HN.out fun hr => p6 ((HV.out.1 hr).2.2.2.2.2.2.1))
                clear HV HN HY hri
                go_wp2_with fail
                refine hc.mono ?_
                rintro e V6 ⟨rfl, rfl⟩
                go_wp2
                go_ret
                exact ⟨by rw [HR.out]; rfl, hb⟩
            · have hc := within_false p5 W
              have HR := hid (HN.out fun hr => p5 ((HV.out.1 hr).2.2.2.2.2.1))
              clear HV HN HY hri
              go_wp2_with fail
              refine hc.mono ?_
              rintro e V5 ⟨rfl, rfl⟩
              go_wp2
              go_ret
              exact ⟨by rw [HR.out]; rfl, hb⟩
          · have hc := within_false p4 W
            have HR := hid (HN.out fun hr => p4 ((HV.out.1 hr).2.2.2.2.1))
            clear HV HN HY hri
            go_wp2_with fail
            refine hc.mono ?_
            rintro e V4 ⟨rfl, rfl⟩
            go_wp2
            go_ret
            exact ⟨by rw [HR.out]; rfl, hb⟩
        · have hc := within_false p3 W
          have HR := hid (HN.out fun hr => p3 ((HV.out.1 hr).2.2.2.1))
          clear HV HN HY hri
          go_wp2_with fail
          refine hc.mono ?_
          rintro e V3 ⟨rfl, rfl⟩
          go_wp2
          go_ret
          exact ⟨by rw [HR.out]; rfl, hb⟩
      · have hc := within_false p2 W
        have HR := hid (HN.out fun hr => p2 ((HV.out.1 hr).2.2.1))
        clear HV HN HY hri
        go_wp2_with fail
        refine hc.mono ?_
        rintro e V2 ⟨rfl, rfl⟩
        go_wp2
        go_ret
        exact ⟨by rw [HR.out]; rfl, hb⟩
    · have hc := within_false p1 W
      have HR := hid (HN.out fun hr => p1 ((HV.out.1 hr).2.1))
      clear HV HN HY hri
      go_wp2_with fail
      refine hc.mono ?_
      rintro e V1 ⟨rfl, rfl⟩
      go_wp2
      go_ret
      exact ⟨by rw [HR.out]; rfl, hb⟩
  · have hc := within_false p0 W
    have HR := hid (HN.out fun hr => p0 ((HV.out.1 hr).1))
    clear HV HN HY hri
    go_wp2_with fail
    refine hc.mono ?_
    rintro e V0 ⟨rfl, rfl⟩
    go_wp2
    go_ret
    exact ⟨by rw [HR.out]; rfl, hb⟩

/-- Whether a train lies beyond the statements' reach. -/
def farB (X : Pu) : Bool := decide (X.ts.length > 40) || (vB X && decide (X.ts.length > 14))
theorem vE_zero (X : Pu) : (vE X == 0) = vB X := by
  unfold vE
  cases vB X <;> rfl
set_option maxRecDepth 100000 in
set_option maxHeartbeats 2000000 in
theorem Far_any (aT : Option Addr) (cT : Nat) (X : Pu) (w : World) (hX : Ints w aT X.ts) : Calls Try.prog 21 #[.agg #[.int .i64 X.l, .int .i64 X.n, .int .i64 X.pi, .int .i64 X.sl, .int .i64 X.ga, .int .i64 X.pa, .int .i64 X.sp, .slice aT X.ts.length cT]] w fun e w' => e = .returned (.bool (farB X)) ∧ Below w.heap.size w w' := by
  obtain ⟨W, hW, hb, _, x0⟩ := boxes1 w #[.int .i64 X.l, .int .i64 X.n, .int .i64 X.pi, .int .i64 X.sl, .int .i64 X.ga, .int .i64 X.pa, .int .i64 X.sp, .slice aT X.ts.length cT] 24
  have hc := rCheck_any aT cT X W (hX.below hb (Nat.le_refl _))
  have HZ := hid (vE_zero X)
  have HF := hid (show farB X = (decide (X.ts.length > 40) || (vB X && decide (X.ts.length > 14))) from rfl)
  generalize farB X = R at *
  generalize vE X = E at *
  generalize vB X = r at *
  obtain ⟨m, hm⟩ : ∃ m, m = X.ts.length := ⟨_, rfl⟩
  rw [← hm] at hc HF x0 hW ⊢
  clear hm hX
  by_cases h40 : m > 40
  · have h40I : (m : Int) > 40 := by omega
    have HR := hid (show R = true by rw [HF.out, decide_eq_true h40]; rfl)
    clear HF HZ hc h40
    have c0 := x0.cell 0 rfl; have c1 := x0.cell 1 rfl; have c2 := x0.cell 2 rfl; have c3 := x0.cell 3 rfl; have c4 := x0.cell 4 rfl; have c5 := x0.cell 5 rfl; have c6 := x0.cell 6 rfl; have c7 := x0.cell 7 rfl
    go_enter Try.func21, Try.ntmps21
    go_wp2
    go_ret
    exact ⟨ret_bool HR.out.symm, hb⟩
  · have h40I : ¬ (m : Int) > 40 := by omega
    rw [decide_eq_false h40, Bool.false_or] at HF
    clear h40
    cases r with
    | false =>
      have hE : (E == 0) = false := HZ.out
      have HR := hid (show R = false by rw [HF.out]; rfl)
      clear HF HZ
      have c0 := x0.cell 0 rfl; have c1 := x0.cell 1 rfl; have c2 := x0.cell 2 rfl; have c3 := x0.cell 3 rfl; have c4 := x0.cell 4 rfl; have c5 := x0.cell 5 rfl; have c6 := x0.cell 6 rfl; have c7 := x0.cell 7 rfl
      go_enter Try.func21, Try.ntmps21
      go_wp2_with fail
      refine hc.mono ?_
      rintro e V ⟨rfl, hb1⟩
      clear c0 c1 c2 c3 c4 c5 c6 c7
      replace x0 := x0.below hb1
      replace hb := hb.trans (hb1.mono hb.size)
      clear hb1 hc hW
      have c0 := x0.cell 0 rfl; have c1 := x0.cell 1 rfl; have c2 := x0.cell 2 rfl; have c3 := x0.cell 3 rfl; have c4 := x0.cell 4 rfl; have c5 := x0.cell 5 rfl; have c6 := x0.cell 6 rfl; have c7 := x0.cell 7 rfl
      go_wp2
      go_ret
      exact ⟨ret_bool HR.out.symm, hb⟩
    | true =>
      have hE : (E == 0) = true := HZ.out
      by_cases h14 : m > 14
      · have h14I : (m : Int) > 14 := by omega
        have HR := hid (show R = true by rw [HF.out, decide_eq_true h14]; rfl)
        clear HF HZ h14
        have c0 := x0.cell 0 rfl; have c1 := x0.cell 1 rfl; have c2 := x0.cell 2 rfl; have c3 := x0.cell 3 rfl; have c4 := x0.cell 4 rfl; have c5 := x0.cell 5 rfl; have c6 := x0.cell 6 rfl; have c7 := x0.cell 7 rfl
        go_enter Try.func21, Try.ntmps21
        go_wp2_with fail
        refine hc.mono ?_
        rintro e V ⟨rfl, hb1⟩
        clear c0 c1 c2 c3 c4 c5 c6 c7
        replace x0 := x0.below hb1
        replace hb := hb.trans (hb1.mono hb.size)
        clear hb1 hc hW
        have c0 := x0.cell 0 rfl; have c1 := x0.cell 1 rfl; have c2 := x0.cell 2 rfl; have c3 := x0.cell 3 rfl; have c4 := x0.cell 4 rfl; have c5 := x0.cell 5 rfl; have c6 := x0.cell 6 rfl; have c7 := x0.cell 7 rfl
        go_wp2
        go_ret
        exact ⟨ret_bool HR.out.symm, hb⟩
      · have h14I : ¬ (m : Int) > 14 := by omega
        have HR := hid (show R = false by rw [HF.out, decide_eq_false h14]; rfl)
        clear HF HZ h14
        have c0 := x0.cell 0 rfl; have c1 := x0.cell 1 rfl; have c2 := x0.cell 2 rfl; have c3 := x0.cell 3 rfl; have c4 := x0.cell 4 rfl; have c5 := x0.cell 5 rfl; have c6 := x0.cell 6 rfl; have c7 := x0.cell 7 rfl
        go_enter Try.func21, Try.ntmps21
        go_wp2_with fail
        refine hc.mono ?_
        rintro e V ⟨rfl, hb1⟩
        clear c0 c1 c2 c3 c4 c5 c6 c7
        replace x0 := x0.below hb1
        replace hb := hb.trans (hb1.mono hb.size)
        clear hb1 hc hW
        have c0 := x0.cell 0 rfl; have c1 := x0.cell 1 rfl; have c2 := x0.cell 2 rfl; have c3 := x0.cell 3 rfl; have c4 := x0.cell 4 rfl; have c5 := x0.cell 5 rfl; have c6 := x0.cell 6 rfl; have c7 := x0.cell 7 rfl
        go_wp2
        go_ret
        exact ⟨ret_bool (by first | exact HR.out.symm | exact (decide_eq_false (by omega)).trans HR.out.symm), hb⟩
/-- Whether a train is valid and within reach. -/
def rdyB (X : Pu) : Bool := !farB X && vB X
set_option maxRecDepth 100000 in
set_option maxHeartbeats 2000000 in
theorem ready_any (aT : Option Addr) (cT : Nat) (X : Pu) (w : World) (hX : Ints w aT X.ts) : Calls Try.prog 38 #[.agg #[.int .i64 X.l, .int .i64 X.n, .int .i64 X.pi, .int .i64 X.sl, .int .i64 X.ga, .int .i64 X.pa, .int .i64 X.sp, .slice aT X.ts.length cT]] w fun e w' => e = .returned (.bool (rdyB X)) ∧ Below w.heap.size w w' := by
  obtain ⟨W, hW, hb, _, x0⟩ := boxes1 w #[.int .i64 X.l, .int .i64 X.n, .int .i64 X.pi, .int .i64 X.sl, .int .i64 X.ga, .int .i64 X.pa, .int .i64 X.sp, .slice aT X.ts.length cT] 24
  have hf := Far_any aT cT X W (hX.below hb (Nat.le_refl _))
  have hc := fun V (h : Below W.heap.size W V) => rCheck_any aT cT X V ((hX.below hb (Nat.le_refl _)).below h (Nat.le_refl _))
  have HZ := hid (vE_zero X)
  have HF := hid (show rdyB X = (!farB X && vB X) from rfl)
  generalize rdyB X = R at *
  generalize farB X = f at *
  generalize vE X = E at *
  generalize vB X = r at *
  generalize X.ts.length = m at *
  clear hX
  have c0 := x0.cell 0 rfl; have c1 := x0.cell 1 rfl; have c2 := x0.cell 2 rfl; have c3 := x0.cell 3 rfl; have c4 := x0.cell 4 rfl; have c5 := x0.cell 5 rfl; have c6 := x0.cell 6 rfl; have c7 := x0.cell 7 rfl
  cases f with
  | true =>
    have HR := hid (show R = false by rw [HF.out]; rfl)
    clear HF HZ hc
    go_enter Try.func38, Try.ntmps38
    go_wp2_with fail
    refine hf.mono ?_
    rintro e V ⟨rfl, hb1⟩
    replace hb := hb.trans (hb1.mono hb.size)
    clear hb1 hf hW c0 c1 c2 c3 c4 c5 c6 c7 x0
    go_wp2
    go_ret
    exact ⟨ret_bool HR.out.symm, hb⟩
  | false =>
    have hE : (E == 0) = r := HZ.out
    have HR := hid (show R = r by rw [HF.out]; rfl)
    clear HF HZ
    go_enter Try.func38, Try.ntmps38
    go_wp2_with fail
    refine hf.mono ?_
    rintro e V ⟨rfl, hb1⟩
    have hc1 := hc V hb1
    clear c0 c1 c2 c3 c4 c5 c6 c7
    replace x0 := x0.below hb1
    replace hb := hb.trans (hb1.mono hb.size)
    clear hb1 hf hW hc
    have c0 := x0.cell 0 rfl; have c1 := x0.cell 1 rfl; have c2 := x0.cell 2 rfl; have c3 := x0.cell 3 rfl; have c4 := x0.cell 4 rfl; have c5 := x0.cell 5 rfl; have c6 := x0.cell 6 rfl; have c7 := x0.cell 7 rfl
    go_wp2_with fail
    refine hc1.mono ?_
    rintro e V2 ⟨rfl, hb1⟩
    replace hb := hb.trans (hb1.mono hb.size)
    clear hb1 hc1 c0 c1 c2 c3 c4 c5 c6 c7 x0
    go_wp2
    go_ret
    exact ⟨ret_bool HR.out.symm, hb⟩
/-- Whether an error is none, or 'unknown'. -/
def knB (e : Int) : Bool := decide (e = 0) || decide (e = 3)
set_option maxRecDepth 100000 in
set_option maxHeartbeats 1000000 in
theorem isKnown_any (x : Int) (w : World) : Calls Try.prog 46 #[.int .i64 x] w fun e w' => e = .returned (.bool (knB x)) ∧ w = w' := by
  have HK := hid (show knB x = (decide (x = 0) || decide (x = 3)) from rfl)
  generalize knB x = R at *
  by_cases h0 : x = 0
  · have hE : (x == 0) = true := by simp [h0]
    have HR := hid (show R = true by rw [HK.out, decide_eq_true h0]; rfl)
    clear h0 HK
    go_enter Try.func46, Try.ntmps46
    go_wp2
    go_ret
    exact ⟨ret_bool HR.out.symm, rfl⟩
  · have hE : (x == 0) = false := by simp [h0]
    rw [decide_eq_false h0, Bool.false_or] at HK
    by_cases h3 : x = 3
    · have hE3 : (x == 3) = true := by simp [h3]
      have HR := hid (show R = true by rw [HK.out, decide_eq_true h3])
      clear h0 HK h3
      go_enter Try.func46, Try.ntmps46
      go_wp2
      go_ret
      exact ⟨ret_bool HR.out.symm, rfl⟩
    · have hE3 : (x == 3) = false := by simp [h3]
      have HR := hid (show R = false by rw [HK.out, decide_eq_false h3])
      clear h0 HK h3
      go_enter Try.func46, Try.ntmps46
      go_wp2
      go_ret
      exact ⟨ret_bool HR.out.symm, rfl⟩
end Go.Proofs.Yteianfbdhakhpaa
/-! The fewest sparks: when there is a reading. -/
namespace Go.Proofs.Yteianfbdhakhpaa
set_option linter.unusedSimpArgs false
set_option linter.unusedVariables false
open Go Go.RowKit

/-- The same train with another bound of sparks. -/
def Pu.at (X : Pu) (k : Int) : Pu := ⟨X.l, X.n, X.pi, X.sl, X.ga, X.pa, k, X.ts⟩
theorem adjB_at (X : Pu) (k : Int) : ∀ g : List Int, adjB (X.at k) g = adjB X g
  | [] => rfl
  | [_] => rfl
  | x :: y :: r => by
    have := adjB_at X k (y :: r)
    unfold adjB
    rw [this]; rfl
theorem selO_at (X : Pu) (k : Int) (p : List Int) : selO (X.at k) p = selO X p := by
  unfold selO grB
  simp only [adjB_at]
  rfl
theorem lofA_at (X : Pu) (k : Int) : ∀ (ps : List (List Int)) (acc : List Int), lofA (X.at k) ps acc = lofA X ps acc
  | [], _ => rfl
  | p :: ps, acc => by
    unfold lofA
    rw [selO_at]
    cases selO X p with
    | none => rfl
    | some v => exact lofA_at X k ps _
theorem rdO_at (X : Pu) (k : Int) : rdO (X.at k) = rdO X := by
  funext s
  show (lofA (X.at k) (prtL X.pa (woL X.ts s)) []).map _ = _
  rw [lofA_at]; rfl
theorem rdL_at (X : Pu) (k : Int) (m : Nat) : rdL (X.at k) m = rdL X m := by
  show (setsG X.ts.length m 0 []).filterMap (rdO (X.at k)) = _
  rw [rdO_at]; rfl
theorem rdL_iff {X : Pu} {m : Nat} {r : Rd} : r ∈ rdL X m ↔ r.1.length ≤ m ∧ risF X.ts.length 0 r.1 ∧ lof X (woL X.ts r.1) = some r.2 := by
  refine ⟨rdL_mem, fun ⟨h1, h2, h3⟩ => ?_⟩
  unfold rdL
  rw [List.mem_filterMap]
  exact ⟨r.1, (setsG_mem _ _ _ _ _).2 ⟨r.1, by simp, h1, h2⟩, by unfold rdO; rw [h3]; rfl⟩
theorem fewM_iff {m : Nat} (hm : m < 4) : ∀ rs : List Rd, fewM rs ≤ m ↔ ∃ r ∈ rs, r.1.length ≤ m := by
  have hh : ∀ (rs : List Rd) (s : Nat), rs.foldl (fun m r => min m r.1.length) s ≤ m ↔ s ≤ m ∨ ∃ r ∈ rs, r.1.length ≤ m := by
    intro rs
    induction rs with
    | nil => intro s; simp
    | cons r rs ih =>
      intro s
      rw [List.foldl_cons, ih]
      simp only [List.mem_cons, exists_eq_or_imp]
      constructor
      · rintro (h | h)
        · rcases Nat.le_total s r.1.length with h2 | h2
          · rw [Nat.min_eq_left h2] at h; exact .inl h
          · rw [Nat.min_eq_right h2] at h; exact .inr (.inl h)
        · exact .inr (.inr h)
      · rintro (h | h | h)
        · exact .inl (Nat.le_trans (Nat.min_le_left _ _) h)
        · exact .inl (Nat.le_trans (Nat.min_le_right _ _) h)
        · exact .inr h
  intro rs
  have := hh rs 4
  unfold fewM
  rw [this]
  constructor
  · rintro (h | h)
    · omega
    · exact h
  · exact .inr
theorem rdL_few {X : Pu} {m : Nat} (hm : m ≤ 3) : rdL X m ≠ [] ↔ fewX X ≤ m := by
  unfold fewX
  rw [fewM_iff (by omega)]
  constructor
  · intro h
    obtain ⟨r, hr⟩ := List.exists_mem_of_ne_nil _ h
    have h1 := rdL_iff.1 hr
    exact ⟨r, rdL_iff.2 ⟨by omega, h1.2⟩, h1.1⟩
  · rintro ⟨r, hr, hl⟩ h
    have h1 := rdL_iff.1 hr
    have : r ∈ rdL X m := rdL_iff.2 ⟨hl, h1.2⟩
    rw [h] at this
    cases this
theorem fewX_at (X : Pu) (k : Int) : fewX (X.at k) = fewX X := by unfold fewX; rw [rdL_at]
theorem vB_at {X : Pu} (hv : vB X = true) {k : Int} (hk : 0 ≤ k ∧ k ≤ 3) : vB (X.at k) = true := by
  rw [vB_iff] at *
  obtain ⟨h1, h2, h3, h4, h5, h6, h7, h8⟩ := hv
  exact ⟨h1, h2, h3, h4, h5, h6, hk, h8⟩
/-- The error of a valid train: whether the fewest sparks are within its bound. -/
theorem erX_few {X : Pu} (hv : vB X = true) : erX X true = if (fewX X : Int) ≤ X.sp then 0 else 3 := by
  have hs := (vB_ok hv).2.1
  have hc : chkE X true = 0 := by unfold chkE; rw [hv]; rfl
  show erO (chkE X true) (rdL X X.sp.toNat) = _
  unfold erO
  rw [hc, if_neg (by simp)]
  have := rdL_few (X := X) (m := X.sp.toNat) (by omega)
  by_cases h : (fewX X : Int) ≤ X.sp
  · rw [if_pos h, if_neg (this.2 (by omega))]
  · rw [if_neg h, if_pos (Classical.byContradiction fun hn => h (by have := this.1 hn; omega))]
theorem manN_pos {X : Pu} (h : erX X true = 0) : 1 ≤ manN X := by
  unfold manN
  rw [if_pos h]
  exact List.length_pos_iff.2 (erO_zero h).2.2
theorem fewE_cases {X : Pu} (hv : vB X = true) : (fewE X = 0 ∧ fewX X ≤ 3 ∧ fewN X = fewX X) ∨ (fewE X = 3 ∧ 3 < fewX X ∧ fewN X = 0) := by
  unfold fewN fewE
  rw [if_pos hv]
  by_cases h : 3 < fewX X
  · rw [if_pos h]; exact .inr ⟨rfl, h, rfl⟩
  · rw [if_neg h]; exact .inl ⟨rfl, by omega, rfl⟩
end Go.Proofs.Yteianfbdhakhpaa
/-! The later train. -/
namespace Go.Proofs.Yteianfbdhakhpaa
set_option linter.unusedSimpArgs false
set_option linter.unusedVariables false
open Go Go.RowKit

/-- The same train with other times. -/
def Pu.wt (X : Pu) (ts : List Int) : Pu := ⟨X.l, X.n, X.pi, X.sl, X.ga, X.pa, X.sp, ts⟩
theorem adjB_wt (X : Pu) (t : List Int) : ∀ g : List Int, adjB (X.wt t) g = adjB X g
  | [] => rfl
  | [_] => rfl
  | x :: y :: r => by
    have := adjB_wt X t (y :: r)
    unfold adjB
    rw [this]; rfl
theorem selO_wt (X : Pu) (t : List Int) (p : List Int) : selO (X.wt t) p = selO X p := by
  unfold selO grB
  simp only [adjB_wt]
  rfl
theorem lofA_wt (X : Pu) (t : List Int) : ∀ (ps : List (List Int)) (acc : List Int), lofA (X.wt t) ps acc = lofA X ps acc
  | [], _ => rfl
  | p :: ps, acc => by
    unfold lofA
    rw [selO_wt]
    cases selO X p with
    | none => rfl
    | some v => exact lofA_wt X t ps _
theorem lof_wt (X : Pu) (t ts : List Int) : lof (X.wt t) ts = lof X ts := lofA_wt X t _ _
/-- Times, all later. -/
def shL (b : Int) (ts : List Int) : List Int := ts.map (· + b)
theorem prt_sh (b d : Int) : ∀ (r cur : List Int), prt d (shL b cur) (shL b r) = (prt d cur r).map (shL b)
  | [], _ => rfl
  | [x], cur => by simp [prt, shL]
  | x :: y :: r, cur => by
    have e : shL b (x :: y :: r) = (x + b) :: (y + b) :: shL b r := rfl
    have e2 : (y + b) :: shL b r = shL b (y :: r) := rfl
    rw [e, prt, prt, show y + b - (x + b) = y - x by omega]
    split
    · rw [e2, List.map_cons]
      have := prt_sh b d (y :: r) []
      rw [show shL b ([] : List Int) = [] from rfl] at this
      rw [this]; simp [shL]
    · rw [e2, show shL b cur ++ [x + b] = shL b (cur ++ [x]) by simp [shL]]
      exact prt_sh b d (y :: r) (cur ++ [x])
theorem adjB_sh (X : Pu) (b : Int) : ∀ g : List Int, adjB X (shL b g) = adjB X g
  | [] => rfl
  | [_] => rfl
  | x :: y :: r => by
    have := adjB_sh X b (y :: r)
    have e : shL b (x :: y :: r) = (x + b) :: (y + b) :: shL b r := rfl
    have e2 : (y + b) :: shL b r = shL b (y :: r) := rfl
    rw [e]
    show (fromI (X.pi - X.sl) (y + b - (x + b)) (X.pi + X.sl) && adjB X ((y + b) :: shL b r)) = (fromI (X.pi - X.sl) (y - x) (X.pi + X.sl) && adjB X (y :: r))
    rw [e2, this, show y + b - (x + b) = y - x by omega]
theorem selO_sh (X : Pu) (b : Int) (p : List Int) : selO X (shL b p) = selO X p := by
  have h := prt_sh b X.ga p []
  unfold selO prtL
  rw [show shL b ([] : List Int) = [] from rfl] at h
  rw [h]
  rcases prt X.ga [] p with _ | ⟨g0, _ | ⟨g1, _ | ⟨g2, r⟩⟩⟩
  · rfl
  · rfl
  · simp only [List.map_cons, List.map_nil, grB, adjB_sh]
    simp [shL]
  · rfl
theorem lofA_sh (X : Pu) (b : Int) : ∀ (ps : List (List Int)) (acc : List Int), lofA X (ps.map (shL b)) acc = lofA X ps acc
  | [], _ => rfl
  | p :: ps, acc => by
    rw [List.map_cons]
    unfold lofA
    rw [selO_sh]
    cases selO X p with
    | none => rfl
    | some v => exact lofA_sh X b ps _
theorem lof_sh (X : Pu) (b : Int) (ts : List Int) : lof X (shL b ts) = lof X ts := by
  unfold lof prtL
  have h := prt_sh b X.pa ts []
  rw [show shL b ([] : List Int) = [] from rfl] at h
  rw [h, lofA_sh]
theorem woA_sh (sp : List Int) (b : Int) : ∀ (r : List Int) (k : Nat), woA sp k (shL b r) = shL b (woA sp k r)
  | [], _ => rfl
  | x :: r, k => by
    have e : shL b (x :: r) = (x + b) :: shL b r := rfl
    rw [e, woA, woA, woA_sh sp b r (k + 1)]
    split <;> rfl
theorem rdL_sh (X : Pu) (b : Int) (m : Nat) : rdL (X.wt (shL b X.ts)) m = rdL X m := by
  unfold rdL
  have e : rdO (X.wt (shL b X.ts)) = rdO X := by
    funext s
    unfold rdO
    rw [lof_wt, show (X.wt (shL b X.ts)).ts = shL b X.ts from rfl]
    unfold woL
    rw [woA_sh, lof_sh]
  rw [e, show (X.wt (shL b X.ts)).ts.length = X.ts.length by simp [Pu.wt, shL]]
set_option linter.unusedSectionVars false
section
variable {X Y : Pu} (hv : vB Y = vB X) (hr : ∀ m, rdL Y m = rdL X m) (hs : Y.sp = X.sp) (hl : Y.ts.length = X.ts.length)
include hv hr hs
theorem RS_same : RS Y = RS X := by unfold RS; rw [hs, hr]
theorem chkE_same (o : Bool) : chkE Y o = chkE X o := by unfold chkE; rw [hv]
theorem erX_same (o : Bool) : erX Y o = erX X o := by unfold erX; rw [RS_same hv hr hs, chkE_same hv hr hs]
theorem manN_same : manN Y = manN X := by unfold manN; rw [erX_same hv hr hs, RS_same hv hr hs]
theorem fewX_same : fewX Y = fewX X := by unfold fewX; rw [hr]
theorem fewE_same : fewE Y = fewE X := by unfold fewE; rw [hv, fewX_same hv hr hs]
theorem fewN_same : fewN Y = fewN X := by unfold fewN; rw [fewE_same hv hr hs, fewX_same hv hr hs]
theorem rdE_same (o : Bool) : rdE Y o = rdE X o := by unfold rdE; rw [erX_same hv hr hs, RS_same hv hr hs]
theorem rdLi_same (o : Bool) : rdLi Y o = rdLi X o := by unfold rdLi; rw [rdE_same hv hr hs, RS_same hv hr hs]
end
end Go.Proofs.Yteianfbdhakhpaa
