import Derived.Test.YteianfbdhakhpaaT6
import Derived.Test.YteianfbdhakhpaaS1
import Derived.Laws.CopyOwn
/-! slices.Concat, slices.Repeat at slices of numbers. -/
namespace Go.Proofs.Yteianfbdhakhpaa
set_option linter.unusedSimpArgs false
set_option linter.unusedVariables false
open Go Go.RowKit

/-- slices.Grow of the nil slice: a row of the call's own, with no element. -/
theorem grow_any (n : Nat) (B : Nat) (w : World) (hn : 0 < n ∧ n ≤ 100000) (hB : B ≤ w.heap.size) :
    Calls Try.prog 95 #[.slice none 0 0, .int .i64 (n : Int)] w fun e w' => ∃ v, e = .returned v ∧ w'.ownsRow B 3 1 v 0 [] ∧ Below w.heap.size w w' := by
  obtain ⟨i0, hi0, iz0, iz1, iz2⟩ := info_parts info3i
  have h := Any8.slices_Grow_grow Try.growP i0 (.int .i64 0) hi0 iz0 (by omega) none 0 0 n [] w (Nat.le_refl _) (by omega) (by rw [iz2]; omega) (by omega) (by simp) (fun _ => rfl) (fun a h => by cases h)
  refine Calls.mono h ?_
  rintro e w' ⟨rfl, rfl⟩
  have hG := grownCap_le_maxLen w (0 + n) 0 3 (by unfold maxLen; omega)
  have hG2 := grownCap_ge w (0 + n) 0 3
  refine ⟨_, rfl, ?_, ?_⟩
  · refine World.ownsRow_made w.drew _ _ hB hG ?_
    show (_ : Array Value).size = grownCap w (0 + n) 0 3 * 1
    have hz : (Value.int .i64 0).cells.size = 1 := by decide
    simp only [Array.size_append, Go.size_zeroCells, List.size_toArray, List.length_nil, hz]
    have e : Try.growP_ren.t 25 = 3 := rfl
    rw [e]
    omega
  · exact (Below.refl _ _).drew.trans (below_one (w := w.drew) _)

set_option maxRecDepth 100000 in
theorem growI_zero (B : Nat) (w : World) : Calls Try.prog 95 #[.slice none 0 0, .int .i64 0] w fun e w' => ∃ v, e = .returned v ∧ w'.ownsRow B 3 1 v 0 [] ∧ Below w.heap.size w w' := by
  go_enter Try.func95, Try.ntmps95
  go_wp2
  go_ret
  exact ⟨_, rfl, World.ownsRow_nil _ _ _ _, Below.refl _ _⟩
theorem grow_all (n : Nat) (B : Nat) (w : World) (hn : n ≤ 100000) (hB : B ≤ w.heap.size) :
    Calls Try.prog 95 #[.slice none 0 0, .int .i64 (n : Int)] w fun e w' => ∃ v, e = .returned v ∧ w'.ownsRow B 3 1 v 0 [] ∧ Below w.heap.size w w' := by
  rcases Nat.eq_zero_or_pos n with rfl | h
  · exact growI_zero B w
  · exact grow_any n B w ⟨h, hn⟩ hB

theorem flat_take {R : List (List Int)} {j : Nat} {s : List Int} (h : R.take (j + 1) = R.take j ++ [s]) : (R.take (j + 1)).flatten = (R.take j).flatten ++ s := by rw [h]; simp
theorem flat_take_le (R : List (List Int)) (j : Nat) : (R.take j).flatten.length ≤ R.flatten.length := by
  have h := List.take_append_drop j R
  have e : R.flatten = (R.take j).flatten ++ (R.drop j).flatten := by rw [← List.flatten_append, h]
  rw [e, List.length_append]; omega


/-- A slice that reads as lists. -/
def Lsr (w : World) (a : Option Addr) (LL : List (List Int)) : Prop :=
  ∀ (i : Nat) (ks : List Int), LL[i]? = some ks → ∃ (b off : Nat) (a' : Option Addr) (c : Nat), a = some ⟨b, off, none⟩ ∧ b < w.heap.size ∧ w.cell? ⟨b, off + i, none⟩ = some (.slice a' ks.length c) ∧ Ints w a' ks
theorem Lsr.below {w w' : World} {a : Option Addr} {LL : List (List Int)} (h : Lsr w a LL) {B : Nat} (hb : Below B w w') (hB : w.heap.size ≤ B) : Lsr w' a LL := fun i ks hi => by
  obtain ⟨b, off, a', c, h1, h2, h3, h6⟩ := h i ks hi
  have hs := hb.size
  exact ⟨b, off, a', c, h1, by omega, by rw [hb.cell (p := ⟨b, off + i, none⟩) (by show b < B; omega)]; exact h3, h6.below hb hB⟩
theorem Lsr.at {w : World} {a : Option Addr} {LL : List (List Int)} (h : Lsr w a LL) {k : Nat} (hk : k < LL.length) : ∃ (b off : Nat) (s : List Int) (a' : Option Addr) (c : Nat), a = some ⟨b, off, none⟩ ∧ b < w.heap.size ∧ w.cell? ⟨b, off + k, none⟩ = some (.slice a' s.length c) ∧ Ints w a' s ∧ Hid (LL.take (k + 1) = LL.take k ++ [s]) := by
  obtain ⟨b, off, a', c, h1, h2, h3, h4⟩ := h k LL[k] (List.getElem?_eq_getElem hk)
  exact ⟨b, off, LL[k], a', c, h1, h2, h3, h4, by show LL.take (k + 1) = LL.take k ++ [LL[k]]; simp⟩
/-- A new row of numbers is handed back. -/
def CcP (FL : List Int) (w : World) (e : Ending) (w' : World) : Prop := Below w.heap.size w w' ∧ ∃ (a : Option Addr) (c : Nat), e = .returned (.slice a FL.length c) ∧ Iz w.heap.size w' a FL
set_option maxRecDepth 100000 in
set_option maxHeartbeats 4000000 in
theorem concat_any (aR : Option Addr) (cR : Nat) (R : List (List Int)) (w : World) (hR : Lsr w aR R) (hl : R.length ≤ 100) (hlen : R.flatten.length ≤ 1000) (hi : ∀ x ∈ R.flatten, -9223372036854775808 ≤ x ∧ x ≤ 9223372036854775807) (FL : List Int) (hFL : FL = R.flatten) :
    Calls Try.prog 79 #[.slice aR R.length cR] w (CcP FL w) := by
  obtain ⟨i0, hi0, iz0, iz1, iz2⟩ := info_parts info3i
  obtain ⟨n, hn⟩ : ∃ n, n = R.length := ⟨_, rfl⟩
  rw [← hn] at hl ⊢
  have HN := hid hn
  have HFL := hid hFL
  rw [← hFL] at hi hlen
  have hle0 := flat_take_le R
  rw [← hFL] at hle0
  have HI := hid hi
  have hle := fun j => Nat.le_trans (hle0 j) hlen
  clear hn hi hFL hle0
  go_enter Try.func79, Try.ntmps79
  go_wp2
  go_loopw [3, 5, 11] (fun v3 v5 v11 wr => ∃ (j q : Nat), j ≤ n ∧ v11 = .int .i64 (j : Int) ∧ v3 = .int .i64 (q : Int) ∧ Hid (q = (R.take j).flatten.length) ∧ Below w.heap.size w wr) (fun _ _ v11 _ => n - (intOf v11).toNat)
  case atStart => exact ⟨0, 0, by omega, rfl, rfl, hid rfl, Below.refl _ _⟩
  case round =>
    obtain ⟨j, q, hj, rfl, rfl, hq, hb⟩ := hrel
    by_cases hlt : j < n
    · obtain ⟨b, off, s, a', c', rfl, hbl, hc, _, htk⟩ := (hR.below hb (Nat.le_refl _)).at (k := j) (by rw [← HN.out]; exact hlt)
      have hjI : (j : Int) < n := by omega
      have hft := flat_take htk.out
      have hq2 := hle (j + 1)
      rw [hft, List.length_append, ← hq.out] at hq2
      obtain ⟨ls, hls⟩ : ∃ ls, ls = s.length := ⟨_, rfl⟩
      rw [← hls] at hq2 hc
      have hq3 := hid (show q + ls = (R.take (j + 1)).flatten.length by rw [hft, List.length_append, ← hq.out, hls])
      have hql : IntKind.i64.wrap ((q : Int) + (ls : Int)) = ((q + ls : Nat) : Int) := by rw [IntWalk.i64_in _ (by omega)]; omega
      have hqI : ¬ ((q + ls : Nat) : Int) < 0 := by omega
      clear hft htk hls hq
      go_wp2
      go_roundw
      case rel => exact ⟨j + 1, q + ls, by omega, by go_num, by go_num, hq3, hb⟩
      case measure => simp [intOf]; omega
    · have hjn : j = n := by omega
      have hjI : ¬ (j : Int) < (n : Int) := by omega
      have hqq := hle j
      rw [← hq.out] at hqq
      have hgr := grow_all q w.heap.size wr (by omega) hb.size
      clear hjn hq
      go_wp2_with fail
      refine Calls.mono hgr ?_
      rintro e W1 ⟨v, rfl, hown, hb1⟩
      replace hb := hb.trans (hb1.mono hb.size)
      clear hb1 hgr hlt hjI hqq hj
      go_wp2
      go_loopw [6, 8, 27] (fun v6 v8 v27 wr => ∃ (j q : Nat), j ≤ n ∧ Hid (q = (R.take j).flatten.length) ∧ v27 = .int .i64 (j : Int) ∧ wr.ownsRow w.heap.size 3 1 v6 q ((R.take j).flatten.map (Value.int .i64)) ∧ Below w.heap.size w wr) (fun _ _ v27 _ => n - (intOf v27).toNat)
      case atStart => exact ⟨0, 0, by omega, hid rfl, rfl, hown, hb⟩
      case round =>
        clear hown hb
        obtain ⟨j, q, hj, hq, rfl, hown, hb⟩ := hrel
        obtain ⟨a6, c6, rfl⟩ := own_slice2 hown
        have hge := own_ge2 hown
        by_cases hlt : j < n
        · obtain ⟨b, off, s, a', c', rfl, hbl, hc, hfy, htk⟩ := (hR.below hb (Nat.le_refl _)).at (k := j) (by rw [← HN.out]; exact hlt)
          have hjI : (j : Int) < n := by omega
          have hft := flat_take htk.out
          have hq2 := hle (j + 1)
          rw [hft, List.length_append, ← hq.out] at hq2
          obtain ⟨ls, hls⟩ : ∃ ls, ls = s.length := ⟨_, rfl⟩
          have lf : (s.map (Value.int .i64)).length = ls * 1 := by rw [List.length_map, hls, Nat.mul_one]
          rw [← hls] at hq2 hc
          have hq3 := hid (show q + ls = (R.take (j + 1)).flatten.length by rw [hft, List.length_append, ← hq.out, hls])
          have hcl := hfy.cls
          have LF := hid lf
          have HFT := hid hft
          clear hft htk hls hq lf hfy
          go_wp2_with (at_builtin; refine wpList_appAt rfl (.tmp 31) (.tmp 32) 22 rfl w.heap.size 3 i0 (.int .i64 0) 1 8 under22 hi0 iz0 iz1 iz2 rfl (by decide) (.slice a6 q c6) q _ rfl hown a' ls c' (s.map (Value.int .i64)) rfl LF.out hcl (ints_one s) (by unfold maxLen; omega) (by omega) hb.size ?_; intro v5 W5 hown5 hg5 hat)
          rw [← List.map_append, ← HFT.out] at hown5
          have hb5 := hb.grown hg5 hb.size hge
          clear hown hg5 hat hcl hge hb
          go_roundw
          case rel => exact ⟨j + 1, q + ls, by omega, hq3, by go_num, hown5, hb5⟩
          case measure => simp [intOf]; omega
        · have hjn : j = n := by omega
          have hjI : ¬ (j : Int) < (n : Int) := by omega
          have e : (R.take j).flatten = FL := by rw [hjn, HN.out, List.take_length, HFL.out]
          rw [e] at hown
          have hql := hq.out
          rw [e] at hql
          have hz := own_nw hown hql (by omega) HI.out
          have HZ := hid (show CcP FL w (.returned (.slice a6 q c6)) wr from ⟨hb, a6, c6, by rw [hql], hz.1⟩)
          clear hjn e hown hz hql hq
          go_wp2
          go_ret
          exact HZ.out

set_option maxRecDepth 100000 in
set_option maxHeartbeats 4000000 in
theorem mul64_one (k : Nat) (hk : k ≤ 4) (w : World) : Calls Try.prog 114 #[.int .u64 1, .int .u64 (k : Int)] w fun e w' => e = .returned (.tuple #[.int .u64 0, .int .u64 (k : Int)]) ∧ Below w.heap.size w w' := by
  have h5 : k = 0 ∨ k = 1 ∨ k = 2 ∨ k = 3 ∨ k = 4 := by omega
  rcases h5 with rfl | rfl | rfl | rfl | rfl
  all_goals
    go_enter Try.func114, Try.ntmps114
    go_wp2
    go_ret2
    exact ⟨by rfl, Below.refl _ _⟩
set_option maxRecDepth 100000 in
set_option maxHeartbeats 4000000 in
theorem mul_one' (k : Nat) (hk : k ≤ 4) (w : World) : Calls Try.prog 96 #[.int .u64 1, .int .u64 (k : Int)] w fun e w' => e = .returned (.tuple #[.int .u64 0, .int .u64 (k : Int)]) ∧ Below w.heap.size w w' := by
  have h := mul64_one k hk w
  have hkI : (k : Int) ≤ 4 := by omega
  have hk0 : (0 : Int) ≤ (k : Int) := by omega
  go_enter Try.func96, Try.ntmps96
  go_wp2_with fail
  refine h.mono ?_
  rintro e V ⟨rfl, hb⟩
  go_wp2
  go_ret2
  exact ⟨by rfl, hb⟩
theorem make_ints (n : Nat) (hn : n ≤ 1000) (w : World) : (Instr.makeSlice 22 (.int .i64 (n : Int)) (.int .i64 (n : Int))).run Try.prog w = .ok (.slice (some ⟨w.heap.size, 0, none⟩) n n) (w.alloc (.cells (vrow (List.replicate n 0)) 3)) := by
  obtain ⟨i0, hi, hz0, hz1, hz2⟩ := info_parts info3i
  have h := run_makeSlice (P := Try.prog) (w := w) 22 3 i0 (.int .i64 0) under22 hi hz0 .i64 .i64 (n : Int) (n : Int) (by omega) (Int.le_refl _) (by rw [hz1]; simp; omega) (by rw [hz2]; omega) (by omega)
  rw [hz1, Int.toNat_natCast] at h
  rw [h, ← made_ints n]
theorem size3 : (Try.prog.info? 3).map (·.size) = some 1 := by kernel_rfl
/-- A row whose first q numbers are x. -/
def rpV (x : Int) (k q : Nat) : List Value := List.replicate q (.int .i64 x) ++ List.replicate (k - q) (.int .i64 0)
theorem rpV_len (x : Int) {k q : Nat} (h : q ≤ k) : (rpV x k q).length = k := by simp [rpV]; omega
theorem rpV_splice (x : Int) {k q m : Nat} (h : q + m ≤ k) : splice (rpV x k q) q (List.replicate m (.int .i64 x)) = rpV x k (q + m) := by
  unfold splice rpV
  rw [List.take_left' (by simp), List.length_replicate, List.drop_append, List.drop_eq_nil_iff.2 (by simp), List.nil_append, List.length_replicate, List.drop_replicate, ← List.append_assoc, List.replicate_append_replicate]
  congr 2
  omega
theorem rpV_at (x : Int) {k q j : Nat} (h : j < q) : (rpV x k q)[j]? = some (.int .i64 x) := by
  unfold rpV
  rw [List.getElem?_append_left (by simpa using h)]
  simp [h]
end Go.Proofs.Yteianfbdhakhpaa
