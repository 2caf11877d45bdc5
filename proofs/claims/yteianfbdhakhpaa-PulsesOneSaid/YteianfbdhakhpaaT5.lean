import Derived.Test.YteianfbdhakhpaaT4
/-! Groups. -/
namespace Go.Proofs.Yteianfbdhakhpaa
set_option linter.unusedSimpArgs false
set_option linter.unusedVariables false
open Go Go.RowKit

theorem Ints.atb {w : World} {b off : Nat} {xs : List Int} (h : Ints w (some ⟨b, off, none⟩) xs) {k : Nat} (hk : k < xs.length) :
    ∃ x, b < w.heap.size ∧ w.cell? ⟨b, off + k, none⟩ = some (.int .i64 x) ∧ -9223372036854775808 ≤ x ∧ x ≤ 9223372036854775807 ∧ Hid (xs[k]? = some x) ∧ Hid (xs.drop k = x :: xs.drop (k + 1)) := by
  obtain ⟨b', o', x, e, h1, h2⟩ := h.at hk
  simp only [Option.some.injEq, Addr.mk.injEq, and_true] at e
  obtain ⟨rfl, rfl⟩ := e
  exact ⟨x, h1, h2⟩
theorem adjB_two (X : Pu) (x y : Int) (r : List Int) : adjB X (x :: y :: r) = (fromI (X.pi - X.sl) (y - x) (X.pi + X.sl) && adjB X (y :: r)) := rfl
theorem adjB_one (X : Pu) (l : List Int) (h : l.length ≤ 1) : adjB X l = true := by
  rcases l with _ | ⟨x, _ | ⟨y, r⟩⟩
  · rfl
  · rfl
  · simp at h
set_option maxRecDepth 100000 in
set_option maxHeartbeats 4000000 in
theorem isGroup_any (aT : Option Addr) (cT : Nat) (X : Pu) (ok : POk X) (b off c : Nat) (g : List Int) (m : Int) (w : World) (hI : Ints w (some ⟨b, off, none⟩) g) (h1 : 1 ≤ g.length) (h24 : g.length ≤ 24) (hcap : g.length ≤ c) (hcm : c ≤ 9223372036854775807) (hr : ∀ x ∈ g, 0 ≤ x ∧ x ≤ 99999) : Calls Try.prog 100 #[.agg #[.int .i64 X.l, .int .i64 X.n, .int .i64 X.pi, .int .i64 X.sl, .int .i64 X.ga, .int .i64 X.pa, .int .i64 X.sp, .slice aT X.ts.length cT], .slice (some ⟨b, off, none⟩) g.length c, .int .i64 m] w fun e w' => e = .returned (.bool (grB X g m)) ∧ Below w.heap.size w w' := by
  obtain ⟨W, hW, hb, _, x0⟩ := boxes1 w #[.int .i64 X.l, .int .i64 X.n, .int .i64 X.pi, .int .i64 X.sl, .int .i64 X.ga, .int .i64 X.pa, .int .i64 X.sp, .slice aT X.ts.length cT] 24
  have hI0 := hI.below hb (Nat.le_refl _)
  have HG := hid (show grB X g m = (adjB X g && decide ((g.length : Int) ≤ m)) from rfl)
  have HA2 := hid (show ∀ l : List Int, l.length ≤ 1 → adjB X l = true from adjB_one X)
  have HAT := hid (show ∀ x y r, adjB X (x :: y :: r) = (fromI (X.pi - X.sl) (y - x) (X.pi + X.sl) && adjB X (y :: r)) from adjB_two X)
  have hk1 := ok.pi; have hk2 := ok.sl
  obtain ⟨l, nn, pi, sl, ga, pa, sp, ts⟩ := X
  simp only at *
  generalize adjB _ = ADJ at *
  obtain ⟨lo, hlo⟩ : ∃ lo, lo = pi - sl := ⟨_, rfl⟩
  obtain ⟨hi, hhi⟩ : ∃ hi, hi = pi + sl := ⟨_, rfl⟩
  have ewl : IntKind.i64.wrap (pi - sl) = lo := by rw [hlo]; exact IntWalk.i64_in _ (by omega)
  have ewh : IntKind.i64.wrap (pi + sl) = hi := by rw [hhi]; exact IntWalk.i64_in _ (by omega)
  rw [← hlo, ← hhi] at HAT
  generalize grB _ g m = R at *
  obtain ⟨n, hn⟩ : ∃ n, n = g.length := ⟨_, rfl⟩
  rw [← hn] at h1 h24 hcap HG ⊢
  have HN := hid hn
  generalize ts.length = nT at *
  have HR := hid hr
  have hiso := fun x V => isFrom_any lo x hi V
  clear hn hr hlo hhi hI hk1 hk2 ok
  have c0 := x0.cell 0 rfl; have c1 := x0.cell 1 rfl; have c2 := x0.cell 2 rfl; have c3 := x0.cell 3 rfl; have c4 := x0.cell 4 rfl; have c5 := x0.cell 5 rfl; have c6 := x0.cell 6 rfl; have c7 := x0.cell 7 rfl
  by_cases hc1 : c = 1
  · subst hc1
    obtain rfl : n = 1 := by omega
    have HT := hid (HA2.out g (by rw [← HN.out]; exact Nat.le_refl _))
    go_enter Try.func100, Try.ntmps100
    go_wp2
    go_loopw [7, 8, 12] (fun v7 v8 v12 wr => v12 = .int .i64 0 ∧ wr = W) (fun _ _ _ _ => 0)
    case atStart => exact ⟨rfl, rfl⟩
    case round =>
      obtain ⟨rfl, rfl⟩ := hrel
      go_wp2
      go_ret
      exact ⟨ret_bool (by rw [HG.out, HT.out]; simp), hb⟩
  · obtain ⟨q, hq⟩ : ∃ q, q = n - 1 := ⟨_, rfl⟩
    have htn : ((n : Int) - 1).toNat = q := by omega
    obtain ⟨cc, hcc⟩ : ∃ cc, cc = c - 1 := ⟨_, rfl⟩
    have htc : ((c : Int) - 1).toNat = cc := by omega
    have hn1 : (1 : Int) ≤ (n : Int) := by omega
    have hnc : (n : Int) ≤ (c : Int) := by omega
    have hqI : (q : Int) ≤ 24 := by omega
    have HQ := hid hq
    have HCC := hid hcc
    clear hq hcc
    go_enter Try.func100, Try.ntmps100
    go_wp2
    clear hW c0 c1 c2 c3 c4 c5 c6 c7
    go_loopw [7, 8, 12] (fun v7 v8 v12 wr => ∃ k : Nat, k ≤ q ∧ v12 = .int .i64 (k : Int) ∧ Hid (ADJ g = ADJ (g.drop k)) ∧ Below W.heap.size W wr) (fun _ _ v12 _ => q - (intOf v12).toNat)
    case atStart => exact ⟨0, Nat.zero_le _, rfl, hid rfl, Below.refl _ _⟩
    case round =>
      obtain ⟨k, hk, rfl, HA, hbr⟩ := hrel
      by_cases hlt : k < q
      · obtain ⟨x, hbx, hcx, hx1, hx2, hgx, hdx⟩ := (hI0.below hbr (Nat.le_refl _)).atb (k := k) (by rw [← HN.out]; have := HQ.out; omega)
        obtain ⟨y, hby, hcy, hy1, hy2, hgy, hdy⟩ := (hI0.below hbr (Nat.le_refl _)).atb (k := k + 1) (by rw [← HN.out]; have := HQ.out; omega)
        have hcy' : wr.cell? ⟨b, off + 1 + k, none⟩ = some (.int .i64 y) := by rw [Nat.add_assoc, Nat.add_comm 1 k]; exact hcy
        have hcX : ClB wr b (off + k) (.int .i64 x) := ⟨hcx, hbx⟩
        have hxr := HR.out x (List.mem_of_getElem? hgx.out)
        have hyr := HR.out y (List.mem_of_getElem? hgy.out)
        obtain ⟨df, hdf⟩ : ∃ df, df = y - x := ⟨_, rfl⟩
        have ewd : IntKind.i64.wrap (y - x) = df := by rw [hdf]; exact IntWalk.i64_in _ (by omega)
        have hst := HA.out
        rw [hdx.out, hdy.out, HAT.out, ← hdf, ← hdy.out] at hst
        have hkI : (k : Int) < q := by omega
        have hkn : (k : Int) < n := by have := HQ.out; omega
        have hk0 : (0 : Int) ≤ (k : Int) := by omega
        have xr := x0.below hbr
        have hw := hb.trans (hbr.mono hb.size)
        have hcall := hiso df
        cases hf : fromI lo df hi with
        | false =>
          rw [hf] at hst hcall
          have HS := hid (show ADJ g = false by rw [hst]; simp)
          clear hst hf hgx hgy hdx hdy hcx hcy hdf HA hiso
          go_upto_region 4 with fail
          have S0 : BlS wr wr.drew := (Below.refl wr.heap.size wr).drew
          refine wp_region_head 17 (fun w' => BlS wr w') (by kernel_rfl) rfl ?_
          generalize wr.drew = Y0 at *
          refine HeadAt.take (i := 0) (.pointer (some ⟨w.heap.size, 2, none⟩)) rfl (by kernel_rfl) (.inl ⟨rfl, fun _ _ => by simp [go_sem]⟩) S0 ?_
          (try simp only [Act.put, List.getElem_toArray, List.getElem_cons_succ, List.getElem_cons_zero, List.setIfInBounds_toArray, List.set_cons_succ, List.set_cons_zero])
          refine HeadAt.take (i := 1) (.int .i64 pi) rfl (by kernel_rfl) (.inl ⟨rfl, fun w' z => ?_⟩) S0 ?_
          · (have z0 := (xr.below z).cell 2 rfl; simp [go_sem, z0])
          (try simp only [Act.put, List.getElem_toArray, List.getElem_cons_succ, List.getElem_cons_zero, List.setIfInBounds_toArray, List.set_cons_succ, List.set_cons_zero])
          refine HeadAt.take (i := 2) (.pointer (some ⟨w.heap.size, 3, none⟩)) rfl (by kernel_rfl) (.inl ⟨rfl, fun _ _ => by simp [go_sem]⟩) S0 ?_
          (try simp only [Act.put, List.getElem_toArray, List.getElem_cons_succ, List.getElem_cons_zero, List.setIfInBounds_toArray, List.set_cons_succ, List.set_cons_zero])
          refine HeadAt.take (i := 3) (.int .i64 sl) rfl (by kernel_rfl) (.inl ⟨rfl, fun w' z => ?_⟩) S0 ?_
          · (have z0 := (xr.below z).cell 3 rfl; simp [go_sem, z0])
          (try simp only [Act.put, List.getElem_toArray, List.getElem_cons_succ, List.getElem_cons_zero, List.setIfInBounds_toArray, List.set_cons_succ, List.set_cons_zero])
          refine HeadAt.take (i := 4) (.int .i64 lo) rfl (by kernel_rfl) (.inl ⟨rfl, fun w' z => ?_⟩) S0 ?_
          · (simp [go_sem, ewl])
          (try simp only [Act.put, List.getElem_toArray, List.getElem_cons_succ, List.getElem_cons_zero, List.setIfInBounds_toArray, List.set_cons_succ, List.set_cons_zero])
          refine HeadAt.take (i := 5) (.int .i64 y) rfl (by kernel_rfl) (.inl ⟨rfl, fun _ _ => by simp [go_sem]⟩) S0 ?_
          (try simp only [Act.put, List.getElem_toArray, List.getElem_cons_succ, List.getElem_cons_zero, List.setIfInBounds_toArray, List.set_cons_succ, List.set_cons_zero])
          refine HeadAt.take (i := 6) (.slice (some ⟨b, off, none⟩) n c) rfl (by kernel_rfl) (.inl ⟨rfl, fun _ _ => by simp [go_sem]⟩) S0 ?_
          (try simp only [Act.put, List.getElem_toArray, List.getElem_cons_succ, List.getElem_cons_zero, List.setIfInBounds_toArray, List.set_cons_succ, List.set_cons_zero])
          refine HeadAt.take (i := 7) (.int .i64 (k : Int)) rfl (by kernel_rfl) (.inl ⟨rfl, fun _ _ => by simp [go_sem]⟩) S0 ?_
          (try simp only [Act.put, List.getElem_toArray, List.getElem_cons_succ, List.getElem_cons_zero, List.setIfInBounds_toArray, List.set_cons_succ, List.set_cons_zero])
          refine HeadAt.take (i := 8) (.pointer (some ⟨b, off + k, none⟩)) rfl (by kernel_rfl) (.inl ⟨rfl, fun w' z => ?_⟩) S0 ?_
          · (simp [go_sem, hkn, hk0])
          (try simp only [Act.put, List.getElem_toArray, List.getElem_cons_succ, List.getElem_cons_zero, List.setIfInBounds_toArray, List.set_cons_succ, List.set_cons_zero])
          refine HeadAt.take (i := 9) (.int .i64 x) rfl (by kernel_rfl) (.inl ⟨rfl, fun w' z => ?_⟩) S0 ?_
          · (have z0 := (hcX.below z).1; simp [go_sem, z0])
          (try simp only [Act.put, List.getElem_toArray, List.getElem_cons_succ, List.getElem_cons_zero, List.setIfInBounds_toArray, List.set_cons_succ, List.set_cons_zero])
          refine HeadAt.take (i := 10) (.int .i64 df) rfl (by kernel_rfl) (.inl ⟨rfl, fun w' z => ?_⟩) S0 ?_
          · (simp [go_sem, ewd])
          (try simp only [Act.put, List.getElem_toArray, List.getElem_cons_succ, List.getElem_cons_zero, List.setIfInBounds_toArray, List.set_cons_succ, List.set_cons_zero])
          refine HeadAt.take (i := 11) (.pointer (some ⟨w.heap.size, 2, none⟩)) rfl (by kernel_rfl) (.inl ⟨rfl, fun _ _ => by simp [go_sem]⟩) S0 ?_
          (try simp only [Act.put, List.getElem_toArray, List.getElem_cons_succ, List.getElem_cons_zero, List.setIfInBounds_toArray, List.set_cons_succ, List.set_cons_zero])
          refine HeadAt.take (i := 12) (.int .i64 pi) rfl (by kernel_rfl) (.inl ⟨rfl, fun w' z => ?_⟩) S0 ?_
          · (have z0 := (xr.below z).cell 2 rfl; simp [go_sem, z0])
          (try simp only [Act.put, List.getElem_toArray, List.getElem_cons_succ, List.getElem_cons_zero, List.setIfInBounds_toArray, List.set_cons_succ, List.set_cons_zero])
          refine HeadAt.take (i := 13) (.pointer (some ⟨w.heap.size, 3, none⟩)) rfl (by kernel_rfl) (.inl ⟨rfl, fun _ _ => by simp [go_sem]⟩) S0 ?_
          (try simp only [Act.put, List.getElem_toArray, List.getElem_cons_succ, List.getElem_cons_zero, List.setIfInBounds_toArray, List.set_cons_succ, List.set_cons_zero])
          refine HeadAt.take (i := 14) (.int .i64 sl) rfl (by kernel_rfl) (.inl ⟨rfl, fun w' z => ?_⟩) S0 ?_
          · (have z0 := (xr.below z).cell 3 rfl; simp [go_sem, z0])
          (try simp only [Act.put, List.getElem_toArray, List.getElem_cons_succ, List.getElem_cons_zero, List.setIfInBounds_toArray, List.set_cons_succ, List.set_cons_zero])
          refine HeadAt.take (i := 15) (.int .i64 hi) rfl (by kernel_rfl) (.inl ⟨rfl, fun w' z => ?_⟩) S0 ?_
          · (simp [go_sem, ewh])
          (try simp only [Act.put, List.getElem_toArray, List.getElem_cons_succ, List.getElem_cons_zero, List.setIfInBounds_toArray, List.set_cons_succ, List.set_cons_zero])
          refine HeadAt.one (i := 16) rfl (by kernel_rfl) ?_
          generalize hK : Upto _ _ = K0
          (try simp only [Act.put, List.getElem_toArray, List.getElem_cons_succ, List.getElem_cons_zero, List.setIfInBounds_toArray, List.set_cons_succ, List.set_cons_zero])
          go_wp2_with fail
          refine (hcall _).mono ?_
          rintro e V1 ⟨rfl, rfl⟩
          go_wp2_with fail
          subst hK
          refine ⟨S0, ?_⟩
          (try simp only [Act.put, List.getElem_toArray, List.getElem_cons_succ, List.getElem_cons_zero, List.setIfInBounds_toArray, List.set_cons_succ, List.set_cons_zero])
          refine HeadAt.done (by kernel_rfl) ?_
          (try simp only [Act.put, List.drop_succ_cons, List.drop_zero, List.getElem_toArray, List.getElem_cons_succ, List.getElem_cons_zero])
          go_wp2_with fail
          refine NoPanic.normal ?_
          replace hw := hw.trans (Below.mono S0 hw.size)
          have hbr2 := hbr.trans (Below.mono S0 hbr.size)
          clear S0 hcall
          go_wp2
          go_ret
          exact ⟨ret_bool (by rw [HG.out, HS.out]; rfl), hw⟩
        | true =>
          rw [hf] at hst hcall
          have HS := hid (show ADJ g = ADJ (g.drop (k + 1)) by rw [hst]; simp)
          clear hst hf hgx hgy hdx hdy hcx hcy hdf HA hiso
          go_upto_region 4 with fail
          have S0 : BlS wr wr.drew := (Below.refl wr.heap.size wr).drew
          refine wp_region_head 17 (fun w' => BlS wr w') (by kernel_rfl) rfl ?_
          generalize wr.drew = Y0 at *
          refine HeadAt.take (i := 0) (.pointer (some ⟨w.heap.size, 2, none⟩)) rfl (by kernel_rfl) (.inl ⟨rfl, fun _ _ => by simp [go_sem]⟩) S0 ?_
          (try simp only [Act.put, List.getElem_toArray, List.getElem_cons_succ, List.getElem_cons_zero, List.setIfInBounds_toArray, List.set_cons_succ, List.set_cons_zero])
          refine HeadAt.take (i := 1) (.int .i64 pi) rfl (by kernel_rfl) (.inl ⟨rfl, fun w' z => ?_⟩) S0 ?_
          · (have z0 := (xr.below z).cell 2 rfl; simp [go_sem, z0])
          (try simp only [Act.put, List.getElem_toArray, List.getElem_cons_succ, List.getElem_cons_zero, List.setIfInBounds_toArray, List.set_cons_succ, List.set_cons_zero])
          refine HeadAt.take (i := 2) (.pointer (some ⟨w.heap.size, 3, none⟩)) rfl (by kernel_rfl) (.inl ⟨rfl, fun _ _ => by simp [go_sem]⟩) S0 ?_
          (try simp only [Act.put, List.getElem_toArray, List.getElem_cons_succ, List.getElem_cons_zero, List.setIfInBounds_toArray, List.set_cons_succ, List.set_cons_zero])
          refine HeadAt.take (i := 3) (.int .i64 sl) rfl (by kernel_rfl) (.inl ⟨rfl, fun w' z => ?_⟩) S0 ?_
          · (have z0 := (xr.below z).cell 3 rfl; simp [go_sem, z0])
          (try simp only [Act.put, List.getElem_toArray, List.getElem_cons_succ, List.getElem_cons_zero, List.setIfInBounds_toArray, List.set_cons_succ, List.set_cons_zero])
          refine HeadAt.take (i := 4) (.int .i64 lo) rfl (by kernel_rfl) (.inl ⟨rfl, fun w' z => ?_⟩) S0 ?_
          · (simp [go_sem, ewl])
          (try simp only [Act.put, List.getElem_toArray, List.getElem_cons_succ, List.getElem_cons_zero, List.setIfInBounds_toArray, List.set_cons_succ, List.set_cons_zero])
          refine HeadAt.take (i := 5) (.int .i64 y) rfl (by kernel_rfl) (.inl ⟨rfl, fun _ _ => by simp [go_sem]⟩) S0 ?_
          (try simp only [Act.put, List.getElem_toArray, List.getElem_cons_succ, List.getElem_cons_zero, List.setIfInBounds_toArray, List.set_cons_succ, List.set_cons_zero])
          refine HeadAt.take (i := 6) (.slice (some ⟨b, off, none⟩) n c) rfl (by kernel_rfl) (.inl ⟨rfl, fun _ _ => by simp [go_sem]⟩) S0 ?_
          (try simp only [Act.put, List.getElem_toArray, List.getElem_cons_succ, List.getElem_cons_zero, List.setIfInBounds_toArray, List.set_cons_succ, List.set_cons_zero])
          refine HeadAt.take (i := 7) (.int .i64 (k : Int)) rfl (by kernel_rfl) (.inl ⟨rfl, fun _ _ => by simp [go_sem]⟩) S0 ?_
          (try simp only [Act.put, List.getElem_toArray, List.getElem_cons_succ, List.getElem_cons_zero, List.setIfInBounds_toArray, List.set_cons_succ, List.set_cons_zero])
          refine HeadAt.take (i := 8) (.pointer (some ⟨b, off + k, none⟩)) rfl (by kernel_rfl) (.inl ⟨rfl, fun w' z => ?_⟩) S0 ?_
          · (simp [go_sem, hkn, hk0])
          (try simp only [Act.put, List.getElem_toArray, List.getElem_cons_succ, List.getElem_cons_zero, List.setIfInBounds_toArray, List.set_cons_succ, List.set_cons_zero])
          refine HeadAt.take (i := 9) (.int .i64 x) rfl (by kernel_rfl) (.inl ⟨rfl, fun w' z => ?_⟩) S0 ?_
          · (have z0 := (hcX.below z).1; simp [go_sem, z0])
          (try simp only [Act.put, List.getElem_toArray, List.getElem_cons_succ, List.getElem_cons_zero, List.setIfInBounds_toArray, List.set_cons_succ, List.set_cons_zero])
          refine HeadAt.take (i := 10) (.int .i64 df) rfl (by kernel_rfl) (.inl ⟨rfl, fun w' z => ?_⟩) S0 ?_
          · (simp [go_sem, ewd])
          (try simp only [Act.put, List.getElem_toArray, List.getElem_cons_succ, List.getElem_cons_zero, List.setIfInBounds_toArray, List.set_cons_succ, List.set_cons_zero])
          refine HeadAt.take (i := 11) (.pointer (some ⟨w.heap.size, 2, none⟩)) rfl (by kernel_rfl) (.inl ⟨rfl, fun _ _ => by simp [go_sem]⟩) S0 ?_
          (try simp only [Act.put, List.getElem_toArray, List.getElem_cons_succ, List.getElem_cons_zero, List.setIfInBounds_toArray, List.set_cons_succ, List.set_cons_zero])
          refine HeadAt.take (i := 12) (.int .i64 pi) rfl (by kernel_rfl) (.inl ⟨rfl, fun w' z => ?_⟩) S0 ?_
          · (have z0 := (xr.below z).cell 2 rfl; simp [go_sem, z0])
          (try simp only [Act.put, List.getElem_toArray, List.getElem_cons_succ, List.getElem_cons_zero, List.setIfInBounds_toArray, List.set_cons_succ, List.set_cons_zero])
          refine HeadAt.take (i := 13) (.pointer (some ⟨w.heap.size, 3, none⟩)) rfl (by kernel_rfl) (.inl ⟨rfl, fun _ _ => by simp [go_sem]⟩) S0 ?_
          (try simp only [Act.put, List.getElem_toArray, List.getElem_cons_succ, List.getElem_cons_zero, List.setIfInBounds_toArray, List.set_cons_succ, List.set_cons_zero])
          refine HeadAt.take (i := 14) (.int .i64 sl) rfl (by kernel_rfl) (.inl ⟨rfl, fun w' z => ?_⟩) S0 ?_
          · (have z0 := (xr.below z).cell 3 rfl; simp [go_sem, z0])
          (try simp only [Act.put, List.getElem_toArray, List.getElem_cons_succ, List.getElem_cons_zero, List.setIfInBounds_toArray, List.set_cons_succ, List.set_cons_zero])
          refine HeadAt.take (i := 15) (.int .i64 hi) rfl (by kernel_rfl) (.inl ⟨rfl, fun w' z => ?_⟩) S0 ?_
          · (simp [go_sem, ewh])
          (try simp only [Act.put, List.getElem_toArray, List.getElem_cons_succ, List.getElem_cons_zero, List.setIfInBounds_toArray, List.set_cons_succ, List.set_cons_zero])
          refine HeadAt.one (i := 16) rfl (by kernel_rfl) ?_
          generalize hK : Upto _ _ = K0
          (try simp only [Act.put, List.getElem_toArray, List.getElem_cons_succ, List.getElem_cons_zero, List.setIfInBounds_toArray, List.set_cons_succ, List.set_cons_zero])
          go_wp2_with fail
          refine (hcall _).mono ?_
          rintro e V1 ⟨rfl, rfl⟩
          go_wp2_with fail
          subst hK
          refine ⟨S0, ?_⟩
          (try simp only [Act.put, List.getElem_toArray, List.getElem_cons_succ, List.getElem_cons_zero, List.setIfInBounds_toArray, List.set_cons_succ, List.set_cons_zero])
          refine HeadAt.done (by kernel_rfl) ?_
          (try simp only [Act.put, List.drop_succ_cons, List.drop_zero, List.getElem_toArray, List.getElem_cons_succ, List.getElem_cons_zero])
          go_wp2_with fail
          refine NoPanic.normal ?_
          replace hw := hw.trans (Below.mono S0 hw.size)
          have hbr2 := hbr.trans (Below.mono S0 hbr.size)
          clear S0 hcall
          go_wp2
          go_roundw
          case rel => exact ⟨k + 1, by omega, by simp, HS, hbr2⟩
          case measure => simp [intOf]; omega
      · have hkq : k = q := by omega
        have HS := hid (show ADJ g = true by rw [HA.out]; exact HA2.out _ (by rw [List.length_drop, ← HN.out]; have := HQ.out; omega))
        have hw := hb.trans (hbr.mono hb.size)
        clear hkq HA
        go_wp2
        go_ret
        exact ⟨ret_bool (by rw [HG.out, HS.out]; simp), hw⟩
end Go.Proofs.Yteianfbdhakhpaa
