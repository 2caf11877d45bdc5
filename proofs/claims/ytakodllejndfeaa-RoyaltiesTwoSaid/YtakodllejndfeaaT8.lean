import Derived.Test.YtakodllejndfeaaT7
/-! slices.SortFunc of at most six writers; the order by rests; the shares. -/
namespace Go.Proofs.Ytakodllejndfeaa
set_option linter.unusedSimpArgs false
set_option linter.unusedVariables false
open Go Go.RowKit

set_option maxRecDepth 100000 in
set_option maxHeartbeats 1000000 in
theorem Len64_any (n : Nat) (w : World) (hn : n ≤ 6) : Calls Try.prog 86 #[.int .u64 (n : Int)] w fun e w' => (∃ l : Int, e = .returned (.int .i64 l)) ∧ w = w' := by
  rcases (by omega : n = 0 ∨ n = 1 ∨ n = 2 ∨ n = 3 ∨ n = 4 ∨ n = 5 ∨ n = 6) with rfl | rfl | rfl | rfl | rfl | rfl | rfl
  all_goals (go_enter Try.func86, Try.ntmps86; go_wp2; go_ret; exact ⟨⟨_, rfl⟩, rfl⟩)
set_option maxRecDepth 100000 in
set_option maxHeartbeats 1000000 in
theorem Len_any (n : Nat) (w : World) (hn : n ≤ 6) : Calls Try.prog 75 #[.int .u64 (n : Int)] w fun e w' => (∃ l : Int, e = .returned (.int .i64 l)) ∧ w = w' := by
  have h := Len64_any n w hn
  go_enter Try.func75, Try.ntmps75
  go_wp2_with fail
  refine h.mono ?_
  rintro e W1 ⟨⟨l, rfl⟩, rfl⟩
  go_wp2
  go_ret
  exact ⟨⟨l, rfl⟩, rfl⟩
set_option maxRecDepth 100000 in
set_option maxHeartbeats 3000000 in
theorem pdq_any (r n b1 b2 : Nat) (lim : Int) (w : World) (hn : n ≤ 6) (Q : World → Prop)
    (hi : Calls Try.prog 77 #[.slice (some ⟨r, 0, none⟩) n n, .int .i64 0, .int .i64 (n : Int), .func (.func 70) #[] #[.pointer (some ⟨b1, 0, none⟩), .pointer (some ⟨b2, 0, none⟩)]] w fun e w' => e = .returned (.tuple #[]) ∧ Q w') :
    Calls Try.prog 74 #[.slice (some ⟨r, 0, none⟩) n n, .int .i64 0, .int .i64 (n : Int), .int .i64 lim, .func (.func 70) #[] #[.pointer (some ⟨b1, 0, none⟩), .pointer (some ⟨b2, 0, none⟩)]] w fun e w' => e = .returned (.tuple #[]) ∧ Q w' := by
  have hnI : (n : Int) ≤ 12 := by omega
  have ew : IntKind.i64.wrap ((n : Int) - 0) = (n : Int) := by rw [IntWalk.i64_in _ (by omega)]; omega
  have ew1 : IntKind.i64.wrap (n : Int) = (n : Int) := IntWalk.i64_in _ (by omega)
  go_enter Try.func74, Try.ntmps74
  go_wp2
  refine wp_loop_rounds 1 ?_
  rw [rounds_succ]
  go_wp2_with fail
  refine hi.mono ?_
  rintro e W1 ⟨rfl, hq⟩
  have HQ := hid hq
  clear hi hq
  go_wp2
  (try simp only [Exit.inBlock, Exit.then]); refine bodyPost_ret (results_none rfl _ _ _) rfl ?_
  exact ⟨rfl, HQ.out⟩
set_option maxRecDepth 100000 in
set_option maxHeartbeats 3000000 in
theorem SortFunc_any (r n b1 b2 : Nat) (w : World) (hn : n ≤ 6) (Q : World → Prop)
    (hi : Calls Try.prog 77 #[.slice (some ⟨r, 0, none⟩) n n, .int .i64 0, .int .i64 (n : Int), .func (.func 70) #[] #[.pointer (some ⟨b1, 0, none⟩), .pointer (some ⟨b2, 0, none⟩)]] w fun e w' => e = .returned (.tuple #[]) ∧ Q w') :
    Calls Try.prog 69 #[.slice (some ⟨r, 0, none⟩) n n, .func (.func 70) #[] #[.pointer (some ⟨b1, 0, none⟩), .pointer (some ⟨b2, 0, none⟩)]] w fun e w' => e = .returned (.tuple #[]) ∧ Q w' := by
  have hp := fun lim => pdq_any r n b1 b2 lim w hn Q hi
  have hl := Len_any n w hn
  have hu : IntKind.u64.wrap (n : Int) = (n : Int) := by rw [IntKind.wrap_u64]; omega
  clear hi
  go_enter Try.func69, Try.ntmps69
  go_wp2_with fail
  refine hl.mono ?_
  rintro e W1 ⟨⟨l, rfl⟩, rfl⟩
  go_wp2_with fail
  refine (hp l).mono ?_
  rintro e W1 ⟨rfl, hq⟩
  have HQ := hid hq
  clear hp hl hq
  go_wp2
  go_end0
  exact ⟨rfl, HQ.out⟩

theorem ord_ins (P : Int) (E : List Int) (A : Int) (n : Nat) : Ord P E A n (Go.Sort.insertionSort (ltV P E A) (idxL n).toArray 0 n).toList := by
  have h := Go.Sort.insertionSort_holds (ltV_swo P E A) (idxL n).toArray 0 n (Nat.zero_le _) (by simp [idxL])
  obtain ⟨W, hW⟩ : ∃ W, W = Go.Sort.insertionSort (ltV P E A) (idxL n).toArray 0 n := ⟨_, rfl⟩
  rw [← hW] at h ⊢
  obtain ⟨⟨h1, _, h3⟩, h4⟩ := h
  have hs : W.size = n := by rw [h1]; simp [idxL]
  refine ⟨?_, ?_⟩
  · have e1 : (W.extract 0 n).toList = W.toList := by rw [← hs]; simp
    have e2 : ((idxL n).toArray.extract 0 n).toList = idxL n := by
      have hl : (idxL n).length = n := by simp [idxL]
      rw [Array.toList_extract, List.extract_eq_take_drop, List.drop_zero, Nat.sub_zero, List.take_of_length_le (Nat.le_of_eq hl)]
    rw [e1, e2] at h3
    exact h3
  · intro i j hij hj
    have hj' : j < W.size := by simpa using hj
    have := h4 i j (Nat.zero_le _) hij (by omega)
    rw [getElem!_pos W i (by omega), getElem!_pos W j hj'] at this
    simpa using this
theorem idx_row (n k : Nat) (hk : k < n) : ((List.range k).map (fun j : Nat => (j : Int)) ++ List.replicate (n - k) 0).set k (k : Int) = (List.range (k + 1)).map (fun j : Nat => (j : Int)) ++ List.replicate (n - (k + 1)) 0 := by
  have e : n - k = (n - (k + 1)) + 1 := by omega
  rw [e, List.replicate_succ, List.range_succ, List.map_append, List.append_assoc]
  rw [List.set_append_right _ _ (by simp)]
  simp
theorem idx_get (n k : Nat) (hk : k < n) : ((List.range k).map (fun j : Nat => (j : Int)) ++ List.replicate (n - k) 0)[k]? = some 0 := by
  rw [List.getElem?_append_right (by simp), List.length_map, List.length_range, Nat.sub_self, List.getElem?_replicate, if_pos (by omega)]

set_option maxRecDepth 100000 in
set_option maxHeartbeats 6000000 in
theorem byRests_any (g n : Nat) (P : Int) (E : List Int) (A : Int) (hQ : QOk P E A n) (w : World) (y : Bx w g (vrow E) 3) :
    Calls Try.prog 65 #[.agg #[.slice (some ⟨g, 0, none⟩) n n, .int .i64 A], .int .i64 P] w fun e w' => ∃ (r : Nat) (W : List Int), e = .returned (.slice (some ⟨r, 0, none⟩) n n) ∧ Bx w' r (vrow W) 3 ∧ Ord P E A n W ∧ Below w.heap.size w w' ∧ w.heap.size ≤ r := by
  have hn6 := hQ.n6
  have hnI : (n : Int) ≤ 6 := by omega
  have hmk := make_ints n (by omega)
  have hgl := y.lt
  go_enter Try.func65, Try.ntmps65
  go_upto_region 2 with fail
  obtain ⟨W, hW, hb, hs, x1, x2, x3⟩ := boxes3 w #[.slice (some ⟨g, 0, none⟩) n n, .int .i64 A] 66 #[.int .i64 P] 3 (vrow (List.replicate n 0)) 3
  rw [hW]
  replace y := y.below hb
  clear hW hmk
  have x30 : Bx W (w.heap.size + 2) (vrow ((List.range 0).map (fun j : Nat => (j : Int)) ++ List.replicate (n - 0) 0)) 3 := by simpa using x3
  clear x3
  go_wp2
  go_loopw [13] (fun v13 wr => ∃ k : Nat, k ≤ n ∧ v13 = .int .i64 (k : Int) ∧ Bx wr w.heap.size #[.slice (some ⟨g, 0, none⟩) n n, .int .i64 A] 66 ∧ Bx wr (w.heap.size + 1) #[.int .i64 P] 3 ∧ Bx wr g (vrow E) 3 ∧ Bx wr (w.heap.size + 2) (vrow ((List.range k).map (fun j : Nat => (j : Int)) ++ List.replicate (n - k) 0)) 3 ∧ Below w.heap.size w wr) (fun v13 _ => n - (intOf v13).toNat)
  case atStart => exact ⟨0, Nat.zero_le _, rfl, x1, x2, y, x30, hb⟩
  case round =>
    clear x1 x2 y x30 hb hs
    obtain ⟨k, hk, rfl, x1, x2, y, x3, hb⟩ := hrel
    by_cases hlt : k < n
    · have hkI : (k : Int) < n := by omega
      have hk0 : (0 : Int) ≤ (k : Int) := by omega
      have c0 := x3.cell k (vrow_at (idx_get n k hlt))
      have f0 := x3.free k
      have z3 := x3.set k (.int .i64 (k : Int))
      rw [vrow_set, idx_row n k hlt] at z3
      have z1 := x1.other (a := ⟨w.heap.size + 2, k, none⟩) (by show w.heap.size ≠ w.heap.size + 2; omega) (.int .i64 (k : Int))
      have z2 := x2.other (a := ⟨w.heap.size + 2, k, none⟩) (by show w.heap.size + 1 ≠ w.heap.size + 2; omega) (.int .i64 (k : Int))
      have zy := y.other (a := ⟨w.heap.size + 2, k, none⟩) (by show g ≠ w.heap.size + 2; omega) (.int .i64 (k : Int))
      have zb := hb.setCell (p := ⟨w.heap.size + 2, k, none⟩) (by show w.heap.size ≤ w.heap.size + 2; omega) (.int .i64 (k : Int))
      have HZ := hid (And.intro z1 (And.intro z2 (And.intro zy (And.intro z3 zb))))
      clear x1 x2 x3 y hb z1 z2 z3 zy zb
      go_wp2
      go_roundw
      case rel => exact ⟨k + 1, by omega, by simp, HZ.out⟩
      case measure => simp [intOf]; omega
    · have hkn : k = n := by omega
      subst hkn
      have hkI : ¬ (k : Int) < (k : Int) := by omega
      have e0 : (List.range k).map (fun j : Nat => (j : Int)) ++ List.replicate (k - k) 0 = (idxL k).toArray.toList := by simp [idxL]
      rw [e0] at x3
      have hRg : Rg k (idxL k).toArray := fun x hx => mem_idxL.1 (by simpa using hx)
      have hsz : (idxL k).toArray.size = k := by simp [idxL]
      have hins := ins_any (w.heap.size + 2) k w.heap.size (w.heap.size + 1) (cmpV P E A) (idxL k).toArray wr hsz hn6 x3 hRg (fun V a b hg ha hb' =>
        closure_any g k w.heap.size (w.heap.size + 1) P E A a b hQ ha hb' V
          (by have := hg.block w.heap.size x1.lt (fun e => by injection e with e; omega); unfold Bx at *; rw [this]; exact x1)
          (by have := hg.block (w.heap.size + 1) x2.lt (fun e => by injection e with e; omega); unfold Bx at *; rw [this]; exact x2)
          (by have := hg.block g y.lt (fun e => by injection e with e; omega); unfold Bx at *; rw [this]; exact y))
      have hlt2 : (fun a b => decide (cmpV P E A a b < 0)) = ltV P E A := by funext a b; exact cmpV_lt P E A a b
      rw [hlt2] at hins
      have hso := SortFunc_any (w.heap.size + 2) k w.heap.size (w.heap.size + 1) wr hn6 _ hins
      have hord := ord_ins P E A k
      generalize (Go.Sort.insertionSort (ltV P E A) (idxL k).toArray 0 k) = W2 at *
      have HORD := hid hord
      clear hins hord hlt2 hRg hsz e0 x1 x2 x3 y hQ
      go_wp2_with fail
      refine hso.mono ?_
      rintro e V1 ⟨rfl, hgr, hy⟩
      have hb2 := hb.grown hgr (by have := hb.size; omega) (fun q hq => by cases hq; omega)
      have HH := hid (And.intro hy hb2)
      clear hy hb2 hgr hso hb
      go_wp2
      go_ret
      exact ⟨_, W2.toList, rfl, HH.out.1, HORD.out, HH.out.2, by omega⟩
end Go.Proofs.Ytakodllejndfeaa
