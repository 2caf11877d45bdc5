import Derived.Test.YtipdohpbilabiaaN5
/-! The lists of a plan: the walk. -/
namespace Go.Proofs.Ytipdohpbilabiaa
set_option linter.unusedSimpArgs false
set_option linter.unusedVariables false
open Go Go.RowKit

theorem lrow_step (p : Pl) (k : Nat) : lrow p k (bitsOf (p.get k)) = lrow p (k + 1) [] := by
  funext j
  unfold lrow
  by_cases h1 : j < k
  · rw [if_pos h1, if_pos (by omega)]
  · rw [if_neg h1]
    by_cases h2 : j = k
    · rw [if_pos h2, if_pos (by omega), h2]; rfl
    · rw [if_neg h2, if_neg (by omega)]
      split <;> rfl
theorem lrow_app (p : Pl) (k : Nat) (pre : List Nat) (i : Nat) : lrow p k (pre ++ [i]) k = lrow p k pre k ++ [(i : Int)] := by
  unfold lrow
  simp
theorem lrow_ne (p : Pl) (k : Nat) (pre pre' : List Nat) {j : Nat} (h : j ≠ k) : lrow p k pre j = lrow p k pre' j := by
  unfold lrow
  rw [if_neg h, if_neg h]
theorem bitL_len (t : Nat) : (bitL t).length ≤ 6 := by unfold bitL; rw [List.length_map]; exact cnt_le t
theorem bitL_rng (t : Nat) : ∀ x ∈ bitL t, 0 ≤ x ∧ x < 6 := fun x hx => by
  unfold bitL at hx
  rw [List.mem_map] at hx
  obtain ⟨i, hi, rfl⟩ := hx
  have := (mem_bits hi).2
  omega

set_option maxRecDepth 100000 in
set_option maxHeartbeats 4000000 in
theorem lists_any (p : Pl) (hp : p.ok 64) (n : Nat) (hn : n ≤ 3) (w : World) : Calls Try.prog 67 #[.agg #[.int .u8 (p.a : Int), .int .u8 (p.b : Int), .int .u8 (p.c : Int)], .int .i64 (n : Int)] w fun e w' => Below w.heap.size w w' ∧ ∃ a, e = .returned (.slice a n n) ∧ Lss w' a (listsL p n) := by
  obtain ⟨j0, hj, jz0, jz1, jz2⟩ := info_parts info3i
  refine calls_of_wp_marks Try.func67 rfl ?_
  simp only [Try.ntmps67, List.size_toArray, List.length_cons, List.length_nil, Nat.reduceAdd, Nat.reduceSub, Array.replicate_succ, Array.replicate_zero, List.push_toArray, List.append_toArray, List.nil_append, List.cons_append]
  have hnI : (n : Int) ≤ 3 := by omega
  have hmk : ∀ w : World, (Instr.makeSlice 22 (.int .i64 (n : Int)) (.int .i64 (n : Int))).run Try.prog w = .ok (.slice (some ⟨w.heap.size, 0, none⟩) n n) (w.alloc (.cells (Array.replicate n (Value.slice none 0 0)) 23)) := fun w => by rw [make_rows n (by omega), List.toArray_replicate]
  obtain ⟨W1, hW1, hb1, hs1, x0, x1, x2⟩ := boxes3 w #[.int .u8 (p.a : Int), .int .u8 (p.b : Int), .int .u8 (p.c : Int)] 70 (Array.replicate n (Value.slice none 0 0)) 23 #[.slice (some ⟨w.heap.size + 1, 0, none⟩) n n] 22
  have hE0 : LiW w w.heap.size p n (List.replicate n nilS) (lrow p 0 []) W1 := by
    have hg : ∀ j, j < n → (List.replicate n nilS).getD j nilS = nilS := fun j hj => by simp [List.getD, hj]
    refine ⟨x0, by have := x1; rw [← List.toArray_replicate] at this; exact this, x2, hb1, by simp, fun j hj => ?_, fun i j g hi hj hne h => ?_⟩
    · rw [hg j hj, show lrow p 0 [] j = [] by unfold lrow; rw [if_neg (Nat.not_lt_zero _)]; split <;> rfl]
      exact World.ownsRow_nil _ _ _ _
    · rw [hg i hi] at h; cases h
  have e2 := x2.cell 0 rfl
  go_wp2
  obtain ⟨s0, hs0⟩ : ∃ s0, s0 = w.heap.size := ⟨_, rfl⟩
  rw [← hs0] at hE0 hs1 ⊢
  have HS0 := hid hs0
  clear hs0 hW1 x0 x1 x2 hb1 hmk e2
  refine wp_loop (fun a' wr => ∃ (k : Nat) (vs : List Value) (u6 u13 u14 u15 u16 u17 u18 u30 : Value) (ds : List Deferred), a' = { tmps := #[.agg #[.int .u8 (p.a : Int), .int .u8 (p.b : Int), .int .u8 (p.c : Int)], .int .i64 (n : Int), .pointer (some ⟨s0, 0, none⟩), undef, .slice none 0 0, .pointer (some ⟨s0 + 1 + 1, 0, none⟩), u6, undef, .int .i64 (n : Int), .slice (some ⟨s0 + 1, 0, none⟩) n n, .slice (some ⟨s0 + 1, 0, none⟩) n n, .int .i64 (n : Int), .int .i64 (k : Int), u13, u14, u15, u16, u17, u18, undef, undef, undef, undef, undef, undef, undef, undef, undef, undef, undef, u30, undef], defers := ds } ∧
      k ≤ n ∧ Marks (s0 + 3) wr ds ∧ (∀ d ∈ ds, ∀ D, d.target = .collected D → D < wr.heap.size) ∧ s0 + 3 ≤ wr.heap.size ∧ LiW w s0 p n vs (lrow p k []) wr) (fun a' _ => 4 - (intOf (a'.tmps.getD 12 undef)).toNat) ?_ ?_
  · exact ⟨0, List.replicate n nilS, undef, undef, undef, undef, undef, undef, undef, undef, [], rfl, Nat.zero_le _, trivial, (fun d hd => by cases hd), by omega, hE0⟩
  rintro a' wr ⟨k, vs, u6, u13, u14, u15, u16, u17, u18, u30, ds, rfl, hk, hM, hMD, hsz, hE⟩
  clear hE0 hs1
  by_cases hlt : k < n
  · have hkI : (k : Int) < n := by omega
    have hk0 : (0 : Int) ≤ (k : Int) := by omega
    have hk3 : (k : Int) < 3 := by omega
    go_upto_region 5 with fail
    have hlt0 : ∀ j g, j < n → (vs.getD j nilS).ownBlock = some g → g < wr.heap.size := fun j g hj hg => ((hE.row j hj).lt g hg).2
    have hE2 := hE.sta (B := wr.heap.size) (by omega) (Nat.le_refl _) (fun j g hj hg => by have := hlt0 j g hj hg; omega) (Sta.of_below (below_one (.cells #[.int .i64 (k : Int)] 3)))
    have hM2 : Marks (s0 + 3) (wr.alloc (.cells #[.int .i64 (k : Int)] 3)) ds := hM.keep fun D hD => (below_one (w := wr) (.cells #[.int .i64 (k : Int)] 3)).block D (by obtain ⟨d, h1, h2⟩ := hD; exact hMD d h1 D h2)
    have y6 := Bx.new wr #[.int .i64 (k : Int)] 3
    obtain ⟨b6, hb6⟩ : ∃ b6, b6 = wr.heap.size := ⟨_, rfl⟩
    obtain ⟨W2, hW2⟩ : ∃ W2, W2 = wr.alloc (.cells #[.int .i64 (k : Int)] 3) := ⟨_, rfl⟩
    have hz2 : W2.heap.size = b6 + 1 := by rw [hW2, hb6]; simp
    rw [← hW2] at hE2 hM2 y6 ⊢
    rw [← hb6] at y6 hsz hMD hlt0 ⊢
    clear hb6 hW2 hE hM
    have c6 := y6.cell 0 rfl
    have y0 := hE2.x0.cell k (pl_at p (by omega))
    obtain ⟨g, hg⟩ : ∃ g, g = p.get k := ⟨_, rfl⟩
    have hg64 : g < 64 := by rw [hg]; exact hp.get k
    have HG := hid hg
    rw [← hg] at y0
    clear hg
    go_wp2_with fail
    refine wp_rangeFuncC (α := Nat) s0 (by omega) (gf := 83) (bd := #[.int .u8 (g : Int)]) (lb := #[]) (encs := fun x : Nat => #[.int .i64 (x : Int)]) (xs := bitsOf g) (StI := fun W W' => Below W.heap.size W W') (St := fun W W' => W2.heap.size ≤ W.heap.size → Sta W2.heap.size W W')
      rfl (enters_of Try.func83 (by kernel_rfl) rfl) (fun _ => rfl) (each_itr g hg64 _ _ _) (fun W W' h _ => h) (fun W W' h1 h2 => h2.mono h1) (fun W W' h _ => Sta.of_below h)
      (fun pre W => W2.heap.size ≤ W.heap.size ∧ ∃ us : List Value, LiW w s0 p n us (lrow p k pre) W ∧ Bx W b6 #[.int .i64 (k : Int)] 3 ∧ Marks (s0 + 3) W ds ∧ (∀ j g, j < n → (us.getD j nilS).ownBlock = some g → g ≠ W2.heap.size ∧ g ≠ W2.heap.size + 1) ∧ ∀ j g, j < n → (us.getD j nilS).ownBlock = some g → g ≠ b6)
      ?hI ?h0 (fun i a' W => a' = { tmps := #[.agg #[.int .u8 (p.a : Int), .int .u8 (p.b : Int), .int .u8 (p.c : Int)], .int .i64 (n : Int), .pointer (some ⟨s0, 0, none⟩), undef, .slice none 0 0, .pointer (some ⟨s0 + 1 + 1, 0, none⟩), .pointer (some ⟨b6, 0, none⟩), .int .i64 (i : Int), .int .i64 (n : Int), .slice (some ⟨s0 + 1, 0, none⟩) n n, .slice (some ⟨s0 + 1, 0, none⟩) n n, .int .i64 (n : Int), .int .i64 (k : Int), .bool true, .int .i64 (k : Int), .int .i64 (k : Int), .pointer (some ⟨s0, k, none⟩), .int .u8 (g : Int), .func (.func 83) #[.int .u8 (g : Int)] #[], .int .i64 (i : Int), undef, undef, undef, undef, undef, undef, undef, undef, undef, undef, u30, undef], defers := [] }) (fun _ _ _ _ h _ => h) ?assign ?body ?done
    case hI =>
      rintro pre W W' ⟨i1, us, i2, i3, i4, i5, i6⟩ hs
      have hs := hs i1
      refine ⟨Nat.le_trans i1 hs.size, us, i2.sta (by omega) i1 i5 hs, ?_, i4.keep fun D hD => hs.block D ?_ ?_ ?_, i5, i6⟩
      · unfold Bx at *
        rw [hs.block b6 (by omega) (by omega) (by omega)]; exact i3
      all_goals
        obtain ⟨d, h1, h2⟩ := hD
        have := hMD d h1 D h2
        omega
    case h0 => exact ⟨Nat.le_refl _, vs, hE2, y6, hM2, fun j g hj hg => by have := hlt0 j g hj hg; omega, fun j g hj hg => by have := hlt0 j g hj hg; omega⟩
    case assign =>
      intro l pre i W K hx hi hsz3 hK
      refine wpIn_region_plain rfl ?_
      go_wp2_with fail
      exact hK _ _ (Kep.refl _ _ _) hi rfl
    case body =>
      rintro l pre i a' W hx ⟨i1, us, i2, i3, i4, i5, i6⟩ rfl hsz3
      have hpl : pre.length ≤ 6 := by
        obtain ⟨r, hr⟩ := hx
        have := cnt_le g
        unfold cnt at this
        rw [hr] at this
        simp at this; omega
      have hYb := (Below.refl W.heap.size W).drew
      have hltu : ∀ j g, j < n → (us.getD j nilS).ownBlock = some g → g < W.heap.size := fun j g hj hg => ((i2.row j hj).lt g hg).2
      have l2 := i2.sta (B := W.heap.size) (by omega) (Nat.le_refl _) (fun j g hj hg => by have := hltu j g hj hg; omega) (Sta.of_below hYb)
      have l3 := i3.below hYb
      have l4 := i4.below hYb
      have hK0 : Kep s0 W2.heap.size W W.drew := Kep.of_below hYb (by omega)
      have hsY : W2.heap.size + 2 ≤ W.drew.heap.size := Nat.le_trans hsz3 hYb.size
      have hrk := l2.row k hlt
      have hrl : (lrow p k pre k).length = pre.length := by unfold lrow; simp
      obtain ⟨m, hm⟩ : ∃ m, m = (lrow p k pre k).length := ⟨_, rfl⟩
      have hm6 : m ≤ 6 := by omega
      obtain ⟨a0, c0, hv0⟩ := own_slice2 hrk
      rw [← hm] at hrk hv0
      rw [hv0] at hrk
      have hus : us.toArray[k]? = some (.slice a0 m c0) := by
        have hl := l2.len
        rw [← hv0]
        simp [List.getD, show k < us.length by omega]
      have HR1 := hid (lrow_app p k pre i)
      have hz2W : s0 + 3 ≤ W2.heap.size := by omega
      have hb6W : b6 < W2.heap.size := by omega
      have HZ := hid hz2
      have HMm := hid hm
      have S0 := And.intro l2.x2 (And.intro l3 l2.x1)
      clear i2 i3 i4 hYb hltu hx hz2 hm hrl
      refine wpIn_block (wpIn_region_head 10 (fun w' => Bx w' (s0 + 2) #[.slice (some ⟨s0 + 1, 0, none⟩) n n] 22 ∧ Bx w' b6 #[.int .i64 (k : Int)] 3 ∧ Bx w' (s0 + 1) us.toArray 23) (by kernel_rfl) (by kernel_rfl) ?_)
      obtain ⟨Y0, hY0⟩ : ∃ Y, Y = W.drew := ⟨_, rfl⟩
      rw [← hY0] at S0 l2 l3 l4 hrk hK0 hsY ⊢
      clear hY0
      refine HeadAt.take (i := 0) (.slice (some ⟨s0 + 1, 0, none⟩) n n) rfl (by kernel_rfl) (.inl ⟨rfl, fun w' z => ?_⟩) S0 ?_
      · (have z0 := z.1.cell 0 rfl; simp [go_sem, z0])
      refine HeadAt.take (i := 1) (.int .i64 (k : Int)) rfl (by kernel_rfl) (.inl ⟨rfl, fun w' z => ?_⟩) S0 ?_
      · (have z0 := z.2.1.cell 0 rfl; simp [go_sem, z0])
      refine HeadAt.take (i := 2) (.slice (some ⟨s0 + 1, 0, none⟩) n n) rfl (by kernel_rfl) (.inl ⟨rfl, fun w' z => ?_⟩) S0 ?_
      · (have z0 := z.1.cell 0 rfl; simp [go_sem, z0])
      refine HeadAt.take (i := 3) (.int .i64 (k : Int)) rfl (by kernel_rfl) (.inl ⟨rfl, fun w' z => ?_⟩) S0 ?_
      · (have z0 := z.2.1.cell 0 rfl; simp [go_sem, z0])
      (try simp only [Act.put, List.getElem_toArray, List.getElem_cons_succ, List.getElem_cons_zero, List.setIfInBounds_toArray, List.set_cons_succ, List.set_cons_zero])
      refine HeadAt.take (i := 4) (.pointer (some ⟨s0 + 1, k, none⟩)) rfl (by kernel_rfl) (.inl ⟨rfl, fun w' z => ?_⟩) S0 ?_
      · (simp [go_sem, hkI, hk0])
      (try simp only [Act.put, List.getElem_toArray, List.getElem_cons_succ, List.getElem_cons_zero, List.setIfInBounds_toArray, List.set_cons_succ, List.set_cons_zero])
      refine HeadAt.take (i := 5) (.slice a0 m c0) rfl (by kernel_rfl) (.inl ⟨rfl, fun w' z => ?_⟩) S0 ?_
      · (have z0 := z.2.2.cell k hus; simp [go_sem, z0])
      refine HeadAt.take (i := 6) (.int .i64 (i : Int)) rfl (by kernel_rfl) (.inl ⟨rfl, fun _ _ => by simp [go_sem]⟩) S0 ?_
      (try simp only [Act.put, List.getElem_toArray, List.getElem_cons_succ, List.getElem_cons_zero, List.setIfInBounds_toArray, List.set_cons_succ, List.set_cons_zero])
      have hbA := below_one (w := Y0) (.cells #[.int .i64 (i : Int)] 3)
      have S1 := And.intro (S0.1.below hbA) (And.intro (S0.2.1.below hbA) (S0.2.2.below hbA))
      have hcl := Cls.of_bx (Bx.new Y0 #[.int .i64 (i : Int)] 3)
      have hownA := own_below2 hrk hbA
      refine HeadAt.one (i := 7) rfl (by kernel_rfl) ?_
      generalize hK : Upto _ _ = K0
      (try simp only [Act.put, List.getElem_toArray, List.getElem_cons_succ, List.getElem_cons_zero, List.setIfInBounds_toArray, List.set_cons_succ, List.set_cons_zero])
      go_wp2_with fail
      subst hK
      refine ⟨S1, ?_⟩
      (try simp only [Act.put, List.getElem_toArray, List.getElem_cons_succ, List.getElem_cons_zero, List.setIfInBounds_toArray, List.set_cons_succ, List.set_cons_zero])
      have hge := own_ge2 hrk
      have hgb6 : ∀ q, (Value.slice a0 m c0).ownBlock = some q → q ≠ b6 := fun q hq => i6 k q hlt (by rw [hv0]; exact hq)
      have hbase : s0 + 3 ≤ Y0.heap.size := by omega
      refine HeadAt.one (i := 8) rfl (by kernel_rfl) ?_
      generalize hK : Upto _ _ = K0
      (try simp only [Act.put, List.getElem_toArray, List.getElem_cons_succ, List.getElem_cons_zero, List.setIfInBounds_toArray, List.set_cons_succ, List.set_cons_zero])
      go_wp2_with (at_builtin; go_loud (refine wpList_appAt rfl (.tmp 25) (.tmp 27) 23 rfl (s0 + 3) 3 j0 (.int .i64 0) 1 8 under23 hj jz0 jz1 jz2 rfl (by decide) (.slice a0 m c0) m _ rfl hownA (some ⟨Y0.heap.size, 0, none⟩) 1 1 [.int .i64 (i : Int)] rfl rfl hcl (ints_oneCell .i64 [(i : Int)]) (by unfold maxLen; omega) (by omega) (by simp; omega) ?_); intro v3 W3 hown3 hg3 hat)
      obtain ⟨a3, c3, rfl⟩ := own_slice2 hown3
      have S2 := And.intro (S1.1.gb hg3 (fun q hq => by have := hge q hq; omega)) (And.intro (S1.2.1.gb hg3 (fun q hq => Ne.symm (hgb6 q hq))) (S1.2.2.gb hg3 (fun q hq => by have := hge q hq; omega)))
      have hput := LiW.put (R' := lrow p k (pre ++ [i])) l2 hlt hv0 HMm.out l3 ⟨by omega, i6⟩ l4 i5 hb6W hsY hown3 hg3 hat HR1.out (fun j hj => lrow_ne p k _ _ hj)
      have HP := hid hput
      clear hput hown3 hg3 hat hcl hownA l2 l4 hrk
      subst hK
      refine ⟨S2, ?_⟩
      (try simp only [Act.put, List.getElem_toArray, List.getElem_cons_succ, List.getElem_cons_zero, List.setIfInBounds_toArray, List.set_cons_succ, List.set_cons_zero])
      refine HeadAt.take (i := 9) (.pointer (some ⟨s0 + 1, k, none⟩)) rfl (by kernel_rfl) (.inl ⟨rfl, fun w' z => ?_⟩) S2 ?_
      · (simp [go_sem, hkI, hk0])
      refine HeadAt.done (by kernel_rfl) ?_
      (try simp only [Act.put, List.drop_succ_cons, List.drop_zero, List.getElem_toArray, List.getElem_cons_succ, List.getElem_cons_zero])
      have z1 := S2.2.2.cell k hus
      have z2 := S2.2.2.free k
      clear S0 S1
      go_wp2_with fail
      obtain ⟨q1, q2, q3, q4, q5, q6, q7⟩ := HP.out
      exact ⟨hK0.trans q1, by simpa [World.setCell] using q2, _, q3, q4, q5, q6, q7⟩
    case done =>
      rintro W ⟨i1, us, i2, i3, i4, i5, i6⟩ hD hsz3
      go_wp2_with fail
      refine ⟨⟨k + 1, us, _, _, _, _, _, _, _, _, _, rfl, by omega, ⟨W2.heap.size, rfl, by omega, hD, i4, fun d' hd' e => by have := hMD d' hd' _ e; omega⟩, ?_, by omega, ?_⟩, by simp [intOf]; omega⟩
      · intro d hd D e
        rcases List.mem_cons.1 hd with rfl | hd
        · cases e; omega
        · have := hMD d hd D e; omega
      · rw [← lrow_step, ← HG.out]; exact i2
  · obtain rfl : k = n := by omega
    have c3 := hE.x2.cell 0 rfl
    go_wp2_with fail
    refine leaves_marks ds wr hM fun w' hc => ?_
    refine ⟨_, results_tmp rfl _ _ _, ?_, some ⟨s0 + 1, 0, none⟩, rfl, ?_⟩
    · rw [← HS0.out]; exact hE.hb.trans (hc.1.mono (by omega))
    · refine Lss.of_bx (hc.bx hE.x1) (by unfold listsL; simp; omega) (fun i ks hi => ?_)
      have hik : i < k := by
        rcases Nat.lt_or_ge i k with h | h
        · exact h
        · unfold listsL at hi
          rw [List.getElem?_eq_none (by simp; exact h)] at hi; cases hi
      have hks : ks = lrow p k [] i := by
        unfold listsL at hi
        rw [List.getElem?_map, List.getElem?_range hik] at hi
        unfold lrow
        rw [if_pos hik]
        simpa using hi.symm
      have hr := own_heap (w' := w') (hE.row i hik) (fun g hg => by
        obtain ⟨cur, h⟩ := own_cells (hE.row i hik) g hg
        rw [h]; exact hc.2 _ _ _ _ h)
      rw [← hks] at hr
      have hkb : ks = bitL (p.get i) := by rw [hks]; unfold lrow; rw [if_pos hik]
      obtain ⟨a2, c2, e2, hI⟩ := Ints.of_own hr (by have := bitL_len (p.get i); rw [hkb]; omega) (fun x hx => by have := bitL_rng (p.get i) x (by rw [← hkb]; exact hx); omega)
      refine ⟨a2, c2, ?_, hI⟩
      have hl := hE.len
      rw [← e2]
      simp [List.getD, show i < vs.length by omega]
end Go.Proofs.Ytipdohpbilabiaa
