import Derived.Test.YteianfbdhakhpaaT6
import Derived.Laws.CopyOwn
import Derived.Test.YteianfbdhakhpaaR1
/-
  The contract of slices.Grow, laid at this program in plain words (printed by the command lay-plain).
-/
import Derived.Shelf.Spec.SlicesGrow
import Derived.Ground.Names7Prog
import Derived.Test.YteianfbdhakhpaaProg
namespace Go.Proofs
open Go.Shelf
def Try.growP_ren : Go.Shelf.Ren := ⟨fun | 4 => 95 | n => n, fun | 22 => 22 | 25 => 3 | 3 => 3 | 4 => 4 | 9 => 9 | 20 => 20 | 0 => 0 | 2 => 3 | n => n, fun | n => n⟩
theorem Try.growP : Go.Proofs.Lays8.n4 Try.prog Try.growP_ren := {
  mixed := by kernel_rfl
  f4 := ⟨Try.f95.name, by decide, Try.func95.trans (congrArg some (by kernel_rfl))⟩
  t0 := Try.underlying0
  a0 := Try.isAgg0
  z0 := Try.sizeOf0
  v0 := Try.zeroValue0
  t3 := Try.underlying3
  a3 := Try.isAgg3
  z3 := Try.sizeOf3
  v3 := Try.zeroValue3
  t4 := Try.underlying4
  a4 := Try.isAgg4
  z4 := Try.sizeOf4
  v4 := Try.zeroValue4
  t9 := Try.underlying9
  a9 := Try.isAgg9
  z9 := Try.sizeOf9
  v9 := Try.zeroValue9
  t20 := Try.underlying20
  a20 := Try.isAgg20
  z20 := Try.sizeOf20
  v20 := Try.zeroValue20
  t22 := Try.underlying22
  a22 := Try.isAgg22
  z22 := Try.sizeOf22
  v22 := Try.zeroValue22 }
end Go.Proofs
/-! slices.Concat, slices.Repeat at slices of numbers. -/
namespace Go.Proofs.Yteianfbdhakhpaa
set_option linter.unusedSimpArgs false
set_option linter.unusedVariables false
open Go Go.RowKit

/-- slices.Grow of the nil slice: a row of the call's own, with no element. -/
theorem grow_any (n : Nat) (B : Nat) (w : World) (hn : 0 < n ∧ n ≤ 100000) (hB : B ≤ w.heap.size) :
    Calls Try.prog 95 #[.slice none 0 0, .int .i64 (n : Int)] w fun e w' => ∃ v, e = .returned v ∧ w'.ownsRow B 3 1 v 0 [] ∧ Below w.heap.size w w' := by
  obtain ⟨i0, hi0, iz0, iz1, iz2⟩ := info_parts info3i
  have h := Any8.slices_Grow_grow Try.growP i0 (.int .i64 0) hi0 iz0 (by omega) none 0 0 n [] w (Nat.le_refl _) (by omega) (by rw [iz2]; omega) (by omega) (by simp) (fun _ => rfl) (fun a h => by cases h)
  refine Calls.mono h ?_
  rintro e w' ⟨rfl, rfl⟩
  have hG := grownCap_le_maxLen w (0 + n) 0 3 (by unfold maxLen; omega)
  have hG2 := grownCap_ge w (0 + n) 0 3
  refine ⟨_, rfl, ?_, ?_⟩
  · refine World.ownsRow_made w.drew _ _ hB hG ?_
    show (_ : Array Value).size = grownCap w (0 + n) 0 3 * 1
    have hz : (Value.int .i64 0).cells.size = 1 := by decide
    simp only [Array.size_append, Go.size_zeroCells, List.size_toArray, List.length_nil, hz]
    have e : Try.growP_ren.t 25 = 3 := rfl
    rw [e]
    omega
  · exact (Below.refl _ _).drew.trans (below_one (w := w.drew) _)

set_option maxRecDepth 100000 in
theorem growI_zero (B : Nat) (w : World) : Calls Try.prog 95 #[.slice none 0 0, .int .i64 0] w fun e w' => ∃ v, e = .returned v ∧ w'.ownsRow B 3 1 v 0 [] ∧ Below w.heap.size w w' := by
  go_enter Try.func95, Try.ntmps95
  go_wp2
  go_ret
  exact ⟨_, rfl, World.ownsRow_nil _ _ _ _, Below.refl _ _⟩
theorem grow_all (n : Nat) (B : Nat) (w : World) (hn : n ≤ 100000) (hB : B ≤ w.heap.size) :
    Calls Try.prog 95 #[.slice none 0 0, .int .i64 (n : Int)] w fun e w' => ∃ v, e = .returned v ∧ w'.ownsRow B 3 1 v 0 [] ∧ Below w.heap.size w w' := by
  rcases Nat.eq_zero_or_pos n with rfl | h
  · exact growI_zero B w
  · exact grow_any n B w ⟨h, hn⟩ hB

theorem flat_take {R : List (List Int)} {j : Nat} {s : List Int} (h : R.take (j + 1) = R.take j ++ [s]) : (R.take (j + 1)).flatten = (R.take j).flatten ++ s := by rw [h]; simp
theorem flat_take_le (R : List (List Int)) (j : Nat) : (R.take j).flatten.length ≤ R.flatten.length := by
  have h := List.take_append_drop j R
  have e : R.flatten = (R.take j).flatten ++ (R.drop j).flatten := by rw [← List.flatten_append, h]
  rw [e, List.length_append]; omega


/-- A slice that reads as lists. -/
def Lsr (w : World) (a : Option Addr) (LL : List (List Int)) : Prop :=
  ∀ (i : Nat) (ks : List Int), LL[i]? = some ks → ∃ (b off : Nat) (a' : Option Addr) (c : Nat), a = some ⟨b, off, none⟩ ∧ b < w.heap.size ∧ w.cell? ⟨b, off + i, none⟩ = some (.slice a' ks.length c) ∧ Ints w a' ks
theorem Lsr.below {w w' : World} {a : Option Addr} {LL : List (List Int)} (h : Lsr w a LL) {B : Nat} (hb : Below B w w') (hB : w.heap.size ≤ B) : Lsr w' a LL := fun i ks hi => by
  obtain ⟨b, off, a', c, h1, h2, h3, h6⟩ := h i ks hi
  have hs := hb.size
  exact ⟨b, off, a', c, h1, by omega, by rw [hb.cell (p := ⟨b, off + i, none⟩) (by show b < B; omega)]; exact h3, h6.below hb hB⟩
theorem Lsr.at {w : World} {a : Option Addr} {LL : List (List Int)} (h : Lsr w a LL) {k : Nat} (hk : k < LL.length) : ∃ (b off : Nat) (s : List Int) (a' : Option Addr) (c : Nat), a = some ⟨b, off, none⟩ ∧ b < w.heap.size ∧ w.cell? ⟨b, off + k, none⟩ = some (.slice a' s.length c) ∧ Ints w a' s ∧ Hid (LL.take (k + 1) = LL.take k ++ [s]) := by
  obtain ⟨b, off, a', c, h1, h2, h3, h4⟩ := h k LL[k] (List.getElem?_eq_getElem hk)
  exact ⟨b, off, LL[k], a', c, h1, h2, h3, h4, by show LL.take (k + 1) = LL.take k ++ [LL[k]]; simp⟩
/-- A new row of numbers is handed back. -/
def CcP (FL : List Int) (w : World) (e : Ending) (w' : World) : Prop := Below w.heap.size w w' ∧ ∃ (a : Option Addr) (c : Nat), e = .returned (.slice a FL.length c) ∧ Iz w.heap.size w' a FL
set_option maxRecDepth 100000 in
set_option maxHeartbeats 4000000 in
theorem concat_any (aR : Option Addr) (cR : Nat) (R : List (List Int)) (w : World) (hR : Lsr w aR R) (hl : R.length ≤ 100) (hlen : R.flatten.length ≤ 1000) (hi : ∀ x ∈ R.flatten, -9223372036854775808 ≤ x ∧ x ≤ 9223372036854775807) (FL : List Int) (hFL : FL = R.flatten) :
    Calls Try.prog 79 #[.slice aR R.length cR] w (CcP FL w) := by
  obtain ⟨i0, hi0, iz0, iz1, iz2⟩ := info_parts info3i
  obtain ⟨n, hn⟩ : ∃ n, n = R.length := ⟨_, rfl⟩
  rw [← hn] at hl ⊢
  have HN := hid hn
  have HFL := hid hFL
  rw [← hFL] at hi hlen
  have hle0 := flat_take_le R
  rw [← hFL] at hle0
  have HI := hid hi
  have hle := fun j => Nat.le_trans (hle0 j) hlen
  clear hn hi hFL hle0
  go_enter Try.func79, Try.ntmps79
  go_wp2
  go_loopw [3, 5, 11] (fun v3 v5 v11 wr => ∃ (j q : Nat), j ≤ n ∧ v11 = .int .i64 (j : Int) ∧ v3 = .int .i64 (q : Int) ∧ Hid (q = (R.take j).flatten.length) ∧ Below w.heap.size w wr) (fun _ _ v11 _ => n - (intOf v11).toNat)
  case atStart => exact ⟨0, 0, by omega, rfl, rfl, hid rfl, Below.refl _ _⟩
  case round =>
    obtain ⟨j, q, hj, rfl, rfl, hq, hb⟩ := hrel
    by_cases hlt : j < n
    · obtain ⟨b, off, s, a', c', rfl, hbl, hc, _, htk⟩ := (hR.below hb (Nat.le_refl _)).at (k := j) (by rw [← HN.out]; exact hlt)
      have hjI : (j : Int) < n := by omega
      have hft := flat_take htk.out
      have hq2 := hle (j + 1)
      rw [hft, List.length_append, ← hq.out] at hq2
      obtain ⟨ls, hls⟩ : ∃ ls, ls = s.length := ⟨_, rfl⟩
      rw [← hls] at hq2 hc
      have hq3 := hid (show q + ls = (R.take (j + 1)).flatten.length by rw [hft, List.length_append, ← hq.out, hls])
      have hql : IntKind.i64.wrap ((q : Int) + (ls : Int)) = ((q + ls : Nat) : Int) := by rw [IntWalk.i64_in _ (by omega)]; omega
      have hqI : ¬ ((q + ls : Nat) : Int) < 0 := by omega
      clear hft htk hls hq
      go_wp2
      go_roundw
      case rel => exact ⟨j + 1, q + ls, by omega, by go_num, by go_num, hq3, hb⟩
      case measure => simp [intOf]; omega
    · have hjn : j = n := by omega
      have hjI : ¬ (j : Int) < (n : Int) := by omega
      have hqq := hle j
      rw [← hq.out] at hqq
      have hgr := grow_all q w.heap.size wr (by omega) hb.size
      clear hjn hq
      go_wp2_with fail
      refine Calls.mono hgr ?_
      rintro e W1 ⟨v, rfl, hown, hb1⟩
      replace hb := hb.trans (hb1.mono hb.size)
      clear hb1 hgr hlt hjI hqq hj
      go_wp2
      go_loopw [6, 8, 27] (fun v6 v8 v27 wr => ∃ (j q : Nat), j ≤ n ∧ Hid (q = (R.take j).flatten.length) ∧ v27 = .int .i64 (j : Int) ∧ wr.ownsRow w.heap.size 3 1 v6 q ((R.take j).flatten.map (Value.int .i64)) ∧ Below w.heap.size w wr) (fun _ _ v27 _ => n - (intOf v27).toNat)
      case atStart => exact ⟨0, 0, by omega, hid rfl, rfl, hown, hb⟩
      case round =>
        clear hown hb
        obtain ⟨j, q, hj, hq, rfl, hown, hb⟩ := hrel
        obtain ⟨a6, c6, rfl⟩ := own_slice2 hown
        have hge := own_ge2 hown
        by_cases hlt : j < n
        · obtain ⟨b, off, s, a', c', rfl, hbl, hc, hfy, htk⟩ := (hR.below hb (Nat.le_refl _)).at (k := j) (by rw [← HN.out]; exact hlt)
          have hjI : (j : Int) < n := by omega
          have hft := flat_take htk.out
          have hq2 := hle (j + 1)
          rw [hft, List.length_append, ← hq.out] at hq2
          obtain ⟨ls, hls⟩ : ∃ ls, ls = s.length := ⟨_, rfl⟩
          have lf : (s.map (Value.int .i64)).length = ls * 1 := by rw [List.length_map, hls, Nat.mul_one]
          rw [← hls] at hq2 hc
          have hq3 := hid (show q + ls = (R.take (j + 1)).flatten.length by rw [hft, List.length_append, ← hq.out, hls])
          have hcl := hfy.cls
          have LF := hid lf
          have HFT := hid hft
          clear hft htk hls hq lf hfy
          go_wp2_with (at_builtin; refine wpList_appAt rfl (.tmp 31) (.tmp 32) 22 rfl w.heap.size 3 i0 (.int .i64 0) 1 8 under22 hi0 iz0 iz1 iz2 rfl (by decide) (.slice a6 q c6) q _ rfl hown a' ls c' (s.map (Value.int .i64)) rfl LF.out hcl (ints_one s) (by unfold maxLen; omega) (by omega) hb.size ?_; intro v5 W5 hown5 hg5 hat)
          rw [← List.map_append, ← HFT.out] at hown5
          have hb5 := hb.grown hg5 hb.size hge
          clear hown hg5 hat hcl hge hb
          go_roundw
          case rel => exact ⟨j + 1, q + ls, by omega, hq3, by go_num, hown5, hb5⟩
          case measure => simp [intOf]; omega
        · have hjn : j = n := by omega
          have hjI : ¬ (j : Int) < (n : Int) := by omega
          have e : (R.take j).flatten = FL := by rw [hjn, HN.out, List.take_length, HFL.out]
          rw [e] at hown
          have hql := hq.out
          rw [e] at hql
          have hz := own_nw hown hql (by omega) HI.out
          have HZ := hid (show CcP FL w (.returned (.slice a6 q c6)) wr from ⟨hb, a6, c6, by rw [hql], hz.1⟩)
          clear hjn e hown hz hql hq
          go_wp2
          go_ret
          exact HZ.out

set_option maxRecDepth 100000 in
set_option maxHeartbeats 4000000 in
theorem mul64_one (k : Nat) (hk : k ≤ 4) (w : World) : Calls Try.prog 114 #[.int .u64 1, .int .u64 (k : Int)] w fun e w' => e = .returned (.tuple #[.int .u64 0, .int .u64 (k : Int)]) ∧ Below w.heap.size w w' := by
  have h5 : k = 0 ∨ k = 1 ∨ k = 2 ∨ k = 3 ∨ k = 4 := by omega
  rcases h5 with rfl | rfl | rfl | rfl | rfl
  all_goals
    go_enter Try.func114, Try.ntmps114
    go_wp2
    go_ret2
    exact ⟨by rfl, Below.refl _ _⟩
set_option maxRecDepth 100000 in
set_option maxHeartbeats 4000000 in
theorem mul_one' (k : Nat) (hk : k ≤ 4) (w : World) : Calls Try.prog 96 #[.int .u64 1, .int .u64 (k : Int)] w fun e w' => e = .returned (.tuple #[.int .u64 0, .int .u64 (k : Int)]) ∧ Below w.heap.size w w' := by
  have h := mul64_one k hk w
  have hkI : (k : Int) ≤ 4 := by omega
  have hk0 : (0 : Int) ≤ (k : Int) := by omega
  go_enter Try.func96, Try.ntmps96
  go_wp2_with fail
  refine h.mono ?_
  rintro e V ⟨rfl, hb⟩
  go_wp2
  go_ret2
  exact ⟨by rfl, hb⟩
theorem make_ints (n : Nat) (hn : n ≤ 1000) (w : World) : (Instr.makeSlice 22 (.int .i64 (n : Int)) (.int .i64 (n : Int))).run Try.prog w = .ok (.slice (some ⟨w.heap.size, 0, none⟩) n n) (w.alloc (.cells (vrow (List.replicate n 0)) 3)) := by
  obtain ⟨i0, hi, hz0, hz1, hz2⟩ := info_parts info3i
  have h := run_makeSlice (P := Try.prog) (w := w) 22 3 i0 (.int .i64 0) under22 hi hz0 .i64 .i64 (n : Int) (n : Int) (by omega) (Int.le_refl _) (by rw [hz1]; simp; omega) (by rw [hz2]; omega) (by omega)
  rw [hz1, Int.toNat_natCast] at h
  rw [h, ← made_ints n]
theorem size3 : (Try.prog.info? 3).map (·.size) = some 1 := by kernel_rfl
/-- A row whose first q numbers are x. -/
def rpV (x : Int) (k q : Nat) : List Value := List.replicate q (.int .i64 x) ++ List.replicate (k - q) (.int .i64 0)
theorem rpV_len (x : Int) {k q : Nat} (h : q ≤ k) : (rpV x k q).length = k := by simp [rpV]; omega
theorem rpV_splice (x : Int) {k q m : Nat} (h : q + m ≤ k) : splice (rpV x k q) q (List.replicate m (.int .i64 x)) = rpV x k (q + m) := by
  unfold splice rpV
  rw [List.take_left' (by simp), List.length_replicate, List.drop_append, List.drop_eq_nil_iff.2 (by simp), List.nil_append, List.length_replicate, List.drop_replicate, ← List.append_assoc, List.replicate_append_replicate]
  congr 2
  omega
theorem rpV_at (x : Int) {k q j : Nat} (h : j < q) : (rpV x k q)[j]? = some (.int .i64 x) := by
  unfold rpV
  rw [List.getElem?_append_left (by simpa using h)]
  simp [h]
end Go.Proofs.Yteianfbdhakhpaa
/-! slices.Repeat of one number. -/
namespace Go.Proofs.Yteianfbdhakhpaa
set_option linter.unusedSimpArgs false
set_option linter.unusedVariables false
open Go Go.RowKit

theorem rep_iz {w : World} {g B k : Nat} {x : Int} (h : w.heap[g]? = some (.cells (rpV x k k).toArray 3 (0, 0))) (hB : B ≤ g) (hk : k ≤ 4) (hx : -9223372036854775808 ≤ x ∧ x ≤ 9223372036854775807) : Iz B w (some ⟨g, 0, none⟩) (List.replicate k x) := by
  have e : (rpV x k k).toArray = vrow (List.replicate k x) := by simp [rpV, vrow]
  rw [e] at h
  refine ⟨Ints.of_bx (show Bx w g _ 3 from h) (by simp; omega) (fun y hy => by rw [(List.mem_replicate.1 hy).2]; exact hx), (fun ad e => by cases e; exact ⟨_, _, h⟩), (fun ad e => by cases e; exact hB)⟩
set_option maxRecDepth 100000 in
set_option maxHeartbeats 4000000 in
theorem repeat_any (b off c : Nat) (x : Int) (k : Nat) (hk : k ≤ 4) (w : World) (hI : Ints w (some ⟨b, off, none⟩) [x]) : Calls Try.prog 80 #[.slice (some ⟨b, off, none⟩) 1 c, .int .i64 (k : Int)] w (CcP (List.replicate k x) w) := by
  have hxr := hI.2.1 x (by simp)
  obtain ⟨x', hb1, hcx, -, -, hgx, -⟩ := hI.atb (k := 0) (by simp)
  obtain rfl : x = x' := by have := hgx.out; simp at this; exact this
  have hcx0 : ClB w b off (.int .i64 x) := ⟨by simpa using hcx, hb1⟩
  have hmu := fun V => mul_one' k hk V
  have hmk := fun V => make_ints k (by omega) V
  have h5 : k = 0 ∨ k = 1 ∨ k = 2 ∨ k = 3 ∨ k = 4 := by omega
  have ewu : IntKind.u64.wrap (k : Int) = (k : Int) := by rcases h5 with rfl | rfl | rfl | rfl | rfl <;> rfl
  have ewi : IntKind.i64.wrap (k : Int) = (k : Int) := IntWalk.i64_in _ (by omega)
  have hkI : (k : Int) ≤ 4 := by omega
  have hk0 : (0 : Int) ≤ (k : Int) := by omega
  have hkn : ¬ (k : Int) < 0 := by omega
  have hkb : ¬ (k : Int) > 9223372036854775807 := by omega
  have HX := hid hxr
  clear h5 hcx hgx hb1 hxr
  go_enter Try.func80, Try.ntmps80
  go_wp2_with fail
  refine (hmu _).mono ?_
  rintro e V ⟨rfl, hb⟩
  have hcV := hcx0.below hb
  clear hmu hcx0
  obtain ⟨V1, hV1⟩ : ∃ V1, V1 = V.alloc (.cells (vrow (List.replicate k 0)) 3) := ⟨_, rfl⟩
  have hba := below_one (w := V) (.cells (vrow (List.replicate k 0)) 3)
  have hg := Bx.new V (vrow (List.replicate k 0)) 3
  rw [← hV1] at hba hg
  have hmkV := hmk V
  rw [← hV1] at hmkV
  have hc1 := hcV.below hba
  have hb1 := hb.trans (hba.mono hb.size)
  obtain ⟨g, hg'⟩ : ∃ g, g = V.heap.size := ⟨_, rfl⟩
  have hgw : w.heap.size ≤ g := by rw [hg']; exact hb.size
  rw [← hg'] at hg hmkV
  have hg0 : V1.heap[g]? = some (.cells (rpV x 0 0 ++ List.replicate k (Value.int .i64 0)).toArray 3 (0, 0)) := by
    have : vrow (List.replicate k 0) = (rpV x 0 0 ++ List.replicate k (Value.int .i64 0)).toArray := by simp [rpV, vrow]
    rw [← this]; exact hg
  have hg1 : V1.heap[g]? = some (.cells (rpV x k 0).toArray 3 (0, 0)) := by simpa [rpV] using hg0
  have HG := hid hg1
  have hgl := hg.lt
  clear hba hg hV1 hmk hg0 hg1 hcV hg' hI hb
  obtain ⟨q0, hq0⟩ : ∃ q0, q0 = min 1 k := ⟨_, rfl⟩
  have hmin : Nat.min 1 k = q0 := by rw [hq0]
  have HQ0 := hid hq0
  clear hq0
  have hpos : ∀ j v, (List.replicate q0 (Value.int .i64 x))[j]? = some v → V1.cell? ((⟨b, off, none⟩ : Addr).add j) = some v := fun j v hj => by
    have hjl := (List.getElem?_eq_some_iff.1 hj).1
    rw [List.length_replicate] at hjl
    have hj0 : j = 0 := by have := HQ0.out; omega
    subst hj0
    rw [List.getElem?_replicate, if_pos hjl] at hj
    injection hj with e
    rw [← e]
    exact hc1.1
  have HPOS := hid hpos
  have hcl : (List.replicate q0 (Value.int IntKind.i64 x)).length = Nat.min 1 k := by rw [List.length_replicate]; exact hmin.symm
  have hfit : 0 + (List.replicate q0 (Value.int IntKind.i64 x)).length ≤ (rpV x k 0).length := by rw [List.length_replicate, rpV_len x (Nat.zero_le _)]; have := HQ0.out; omega
  have HCF := hid (And.intro hcl hfit)
  have hone : ∀ q : Nat, ∀ v ∈ List.replicate q (Value.int IntKind.i64 x), v.oneCell' = true := fun q v hv => by rw [(List.mem_replicate.1 hv).2]; rfl
  have hrl : (List.replicate q0 (Value.int IntKind.i64 x)).length = q0 := List.length_replicate
  clear hpos hcl hfit hmin
  go_wp2_with (refine wpList_copy_splice rfl (.tmp 31) (.tmp 32) 22 22 rfl 3 under22 size3 (some ⟨g, 0, none⟩) (some ⟨b, off, none⟩) k k 1 c rfl rfl g 0 (rpV x k 0) 3 HG.out (List.replicate q0 (.int .i64 x)) HCF.out.1 (fun _ => ⟨rfl, _, rfl, HPOS.out⟩) HCF.out.2 (hone q0) w.heap.size w hb1 hgw ?_; intro V2 hg2 hb2)
  have hg3 : V2.heap[g]? = some (.cells (rpV x k q0).toArray 3 (0, 0)) := by
    have := hg2.out
    have e := rpV_splice x (k := k) (q := 0) (m := q0) (by have := HQ0.out; omega)
    rw [Nat.zero_add] at e
    rw [e] at this; exact this
  have HG3 := hid hg3
  clear hg2 hg3 HG hc1 hb1 hmkV hgl hrl
  go_wp2
  go_loopw [8] (fun v8 wr => ∃ q : Nat, q ≤ k ∧ (0 < k → 0 < q) ∧ v8 = .int .i64 (q : Int) ∧ Hid (wr.heap[g]? = some (.cells (rpV x k q).toArray 3 (0, 0))) ∧ Below w.heap.size w wr) (fun v8 _ => k - (intOf v8).toNat)
  case atStart => exact ⟨q0, by have := HQ0.out; omega, fun h => by have := HQ0.out; omega, by simp, HG3, hb2⟩
  case round =>
    clear hb2 HG3 HQ0
    obtain ⟨q, hq, hq1, rfl, HG, hb⟩ := hrel
    by_cases hlt : q < k
    · have hqI : (q : Int) < (k : Int) := by omega
      have hq0 : (0 : Int) ≤ (q : Int) := by omega
      have hqle : (q : Int) ≤ (k : Int) := by omega
      have hqne : ¬ k = q := by omega
      have hkz : ¬ k = 0 := by omega
      obtain ⟨d, hd⟩ : ∃ d, d = k - q := ⟨_, rfl⟩
      have htn : ((k : Int) - (q : Int)).toNat = d := by omega
      obtain ⟨m, hm⟩ : ∃ m, m = min q d := ⟨_, rfl⟩
      obtain ⟨q2, hq2⟩ : ∃ q2, q2 = q + m := ⟨_, rfl⟩
      have ewq : IntKind.i64.wrap ((q : Int) + (m : Int)) = (q2 : Int) := by rw [IntWalk.i64_in _ (by omega)]; omega
      have hmq : 0 < m := by have := hq1 (by omega); omega
      have HM := hid (And.intro hd (And.intro hm (And.intro hq2 (And.intro hmq (hq1 (by omega))))))
      clear hd hm hq2 hmq hq1
      go_upto_region 9 with fail
      have S0 : wr.heap[g]? = some (.cells (rpV x k q).toArray 3 (0, 0)) ∧ Below w.heap.size w wr.drew := ⟨HG.out, hb.trans ((Below.refl wr.heap.size wr).drew.mono hb.size)⟩
      refine wp_region_head 9 (fun _ => True) (by kernel_rfl) rfl ?_
      replace S0 : wr.drew.heap[g]? = some (.cells (rpV x k q).toArray 3 (0, 0)) ∧ Below w.heap.size w wr.drew := S0
      generalize wr.drew = Y0 at *
      have HS := hid S0
      clear S0 hb HG
      have S0 : True := trivial
      refine HeadAt.take (i := 0) (.int .i64 (q : Int)) rfl (by kernel_rfl) (.inl ⟨rfl, fun _ _ => by simp [go_sem]⟩) S0 ?_
      (try simp only [Act.put, List.getElem_toArray, List.getElem_cons_succ, List.getElem_cons_zero, List.setIfInBounds_toArray, List.set_cons_succ, List.set_cons_zero])
      refine HeadAt.take (i := 1) (.slice (some ⟨g, 0, none⟩) k k) rfl (by kernel_rfl) (.inl ⟨rfl, fun _ _ => by simp [go_sem]⟩) S0 ?_
      (try simp only [Act.put, List.getElem_toArray, List.getElem_cons_succ, List.getElem_cons_zero, List.setIfInBounds_toArray, List.set_cons_succ, List.set_cons_zero])
      refine HeadAt.take (i := 2) (.int .i64 (q : Int)) rfl (by kernel_rfl) (.inl ⟨rfl, fun _ _ => by simp [go_sem]⟩) S0 ?_
      (try simp only [Act.put, List.getElem_toArray, List.getElem_cons_succ, List.getElem_cons_zero, List.setIfInBounds_toArray, List.set_cons_succ, List.set_cons_zero])
      refine HeadAt.take (i := 3) (.slice (some ⟨g, q, none⟩) d d) rfl (by kernel_rfl) (.inl ⟨rfl, fun w' z => ?_⟩) S0 ?_
      · (simp [go_sem, hq0, hqle, hqne, htn]; exact HM.out.1.symm)
      (try simp only [Act.put, List.getElem_toArray, List.getElem_cons_succ, List.getElem_cons_zero, List.setIfInBounds_toArray, List.set_cons_succ, List.set_cons_zero])
      refine HeadAt.take (i := 4) (.slice (some ⟨g, 0, none⟩) k k) rfl (by kernel_rfl) (.inl ⟨rfl, fun _ _ => by simp [go_sem]⟩) S0 ?_
      (try simp only [Act.put, List.getElem_toArray, List.getElem_cons_succ, List.getElem_cons_zero, List.setIfInBounds_toArray, List.set_cons_succ, List.set_cons_zero])
      refine HeadAt.take (i := 5) (.int .i64 (q : Int)) rfl (by kernel_rfl) (.inl ⟨rfl, fun _ _ => by simp [go_sem]⟩) S0 ?_
      (try simp only [Act.put, List.getElem_toArray, List.getElem_cons_succ, List.getElem_cons_zero, List.setIfInBounds_toArray, List.set_cons_succ, List.set_cons_zero])
      refine HeadAt.take (i := 6) (.slice (some ⟨g, 0, none⟩) q k) rfl (by kernel_rfl) (.inl ⟨rfl, fun w' z => ?_⟩) S0 ?_
      · (simp [go_sem, hq0, hqle, hkz])
      (try simp only [Act.put, List.getElem_toArray, List.getElem_cons_succ, List.getElem_cons_zero, List.setIfInBounds_toArray, List.set_cons_succ, List.set_cons_zero])
      have hpos : ∀ j v, (List.replicate m (Value.int .i64 x))[j]? = some v → Y0.cell? ((⟨g, 0, none⟩ : Addr).add j) = some v := fun j v hj => by
        have hjm := (List.getElem?_eq_some_iff.1 hj).1
        rw [List.length_replicate] at hjm
        rw [List.getElem?_replicate, if_pos hjm] at hj
        injection hj with e
        have h1 := HM.out.1
        have h2 := HM.out.2.1
        have hc := (show Bx Y0 g _ 3 from HS.out.1).cell j (v := v) (by rw [← e]; simpa using rpV_at x (k := k) (show j < q by omega))
        have e1 : (⟨g, 0, none⟩ : Addr).add j = ⟨g, j, none⟩ := by unfold Addr.add; split <;> simp_all
        rw [e1]; exact hc
      have HPOS2 := hid hpos
      have hcl : (List.replicate m (Value.int IntKind.i64 x)).length = Nat.min q d := by rw [List.length_replicate]; exact HM.out.2.1
      have hfit : q + (List.replicate m (Value.int IntKind.i64 x)).length ≤ (rpV x k q).length := by rw [List.length_replicate, rpV_len x hq]; have h1 := HM.out.1; have h2 := HM.out.2.1; omega
      have HCF2 := hid (And.intro hcl hfit)
      clear hpos hcl hfit
      refine HeadAt.one (i := 7) rfl (by kernel_rfl) ?_
      generalize hK : Upto _ _ = K0
      (try simp only [Act.put, List.getElem_toArray, List.getElem_cons_succ, List.getElem_cons_zero, List.setIfInBounds_toArray, List.set_cons_succ, List.set_cons_zero])
      go_wp2_with (refine wpList_copy_splice rfl (.tmp 41) (.tmp 44) 22 22 rfl 3 under22 size3 (some ⟨g, q, none⟩) (some ⟨g, 0, none⟩) d d q k rfl rfl g q (rpV x k q) 3 HS.out.1 (List.replicate m (.int .i64 x)) HCF2.out.1 (fun _ => ⟨rfl, _, rfl, HPOS2.out⟩) HCF2.out.2 (hone m) w.heap.size w HS.out.2 hgw ?_; intro V7 hg7 hb7)
      have hgl : (List.replicate m (Value.int .i64 x)).length = m := List.length_replicate
      have HG7 := hid (show V7.heap[g]? = some (.cells (rpV x k q2).toArray 3 (0, 0)) by
        have := hg7.out
        rw [rpV_splice x (by have h1 := HM.out.1; have h2 := HM.out.2.1; omega), ← HM.out.2.2.1] at this
        exact this)
      clear hg7 HS
      go_wp2_with fail
      subst hK
      refine ⟨S0, ?_⟩
      (try simp only [Act.put, List.getElem_toArray, List.getElem_cons_succ, List.getElem_cons_zero, List.setIfInBounds_toArray, List.set_cons_succ, List.set_cons_zero])
      refine HeadAt.take (i := 8) (.int .i64 (q2 : Int)) rfl (by kernel_rfl) (.inl ⟨rfl, fun w' z => ?_⟩) S0 ?_
      · (simp [go_sem, ewq])
      (try simp only [Act.put, List.getElem_toArray, List.getElem_cons_succ, List.getElem_cons_zero, List.setIfInBounds_toArray, List.set_cons_succ, List.set_cons_zero])
      refine HeadAt.done (by kernel_rfl) ?_
      (try simp only [Act.put, List.drop_succ_cons, List.drop_zero, List.getElem_toArray, List.getElem_cons_succ, List.getElem_cons_zero])
      go_wp2_with fail
      refine NoPanic.normal ?_
      have hq2k : q2 ≤ k := by have h1 := HM.out.1; have h2 := HM.out.2.1; have h3 := HM.out.2.2.1; omega
      have hq2l : q < q2 := by have h1 := HM.out.2.2.1; have h2 := HM.out.2.2.2.1; omega
      clear HM
      go_wp2
      go_roundw
      case rel => exact ⟨q2, hq2k, fun _ => by omega, rfl, HG7, hb7⟩
      case measure => simp [intOf]; omega
    · have hqk : q = k := by omega
      have hz := rep_iz (B := w.heap.size) (by have := HG.out; rw [hqk] at this; exact this) hgw hk HX.out
      have HZ := hid (show CcP (List.replicate k x) w (.returned (.slice (some ⟨g, 0, none⟩) k k)) wr from ⟨hb, some ⟨g, 0, none⟩, k, by rw [List.length_replicate], hz⟩)
      clear hqk hz
      go_wp2
      go_ret
      exact HZ.out
end Go.Proofs.Yteianfbdhakhpaa
/-! What is written: distances, and the times to which they add up. -/
namespace Go.Proofs.Yteianfbdhakhpaa
set_option linter.unusedSimpArgs false
set_option linter.unusedVariables false
open Go.RowKit

/-- The distances of a selection's pulses. -/
def dsR (X : Pu) (s : Int) : List (List Int) := [[X.pa], List.replicate (s / X.n).toNat X.pi, [X.ga], List.replicate (s % X.n).toNat X.pi]
def dsL (X : Pu) (s : Int) : List Int := (dsR X s).flatten
def accL : Int → List Int → List Int
  | _, [] => []
  | t, d :: ds => (t + d) :: accL (t + d) ds
def sumL (t : Int) (ds : List Int) : Int := ds.foldl (· + ·) t
theorem accL_app : ∀ (a : List Int) (t : Int) (b : List Int), accL t (a ++ b) = accL t a ++ accL (sumL t a) b
  | [], _, _ => rfl
  | d :: a, t, b => by
    show (t + d) :: accL (t + d) (a ++ b) = _
    rw [accL_app a (t + d) b]; rfl
theorem sumL_app (a : List Int) (t : Int) (b : List Int) : sumL t (a ++ b) = sumL (sumL t a) b := by unfold sumL; rw [List.foldl_append]
theorem accL_snoc (a : List Int) (t d : Int) : accL t (a ++ [d]) = accL t a ++ [sumL t a + d] := by rw [accL_app]; rfl
theorem sumL_snoc (a : List Int) (t d : Int) : sumL t (a ++ [d]) = sumL t a + d := by rw [sumL_app]; rfl
theorem accL_len : ∀ (a : List Int) (t : Int), (accL t a).length = a.length
  | [], _ => rfl
  | d :: a, t => by simp [accL, accL_len a (t + d)]
theorem sumL_rng : ∀ (a : List Int) (t : Int), (∀ d ∈ a, 0 ≤ d ∧ d ≤ 999) → t ≤ sumL t a ∧ sumL t a ≤ t + 999 * a.length
  | [], t, _ => by simp [sumL]
  | d :: a, t, h => by
    have h1 := h d (by simp)
    have h2 := sumL_rng a (t + d) (fun x hx => h x (by simp [hx]))
    have e : sumL t (d :: a) = sumL (t + d) a := rfl
    rw [e]; simp only [List.length_cons]
    omega
theorem accL_rng : ∀ (a : List Int) (t : Int), (∀ d ∈ a, 0 ≤ d ∧ d ≤ 999) → ∀ x ∈ accL t a, t ≤ x ∧ x ≤ t + 999 * a.length
  | [], t, _, x, hx => by simp [accL] at hx
  | d :: a, t, h, x, hx => by
    have h1 := h d (by simp)
    have hx : x ∈ (t + d) :: accL (t + d) a := hx
    rcases List.mem_cons.1 hx with rfl | hx
    · simp only [List.length_cons]; omega
    · have := accL_rng a (t + d) (fun x hx => h x (by simp [hx])) x hx
      simp only [List.length_cons]; omega
theorem sel_parts {X : Pu} (ok : POk X) {s : Int} (h : 0 ≤ s ∧ s < X.l * X.n) : 0 ≤ s / X.n ∧ s / X.n ≤ 4 ∧ 0 ≤ s % X.n ∧ s % X.n ≤ 4 := by
  have hn := ok.n
  have hl := ok.l
  have h1 : s / X.n < X.l := Int.ediv_lt_of_lt_mul (by omega) h.2
  have h2 := Int.emod_lt_of_pos s (show 0 < X.n by omega)
  exact ⟨Int.ediv_nonneg h.1 (by omega), by omega, Int.emod_nonneg s (by omega), by omega⟩
theorem dsL_all {X : Pu} (ok : POk X) {s : Int} (h : 0 ≤ s ∧ s < X.l * X.n) : (dsL X s).length ≤ 10 ∧ ∀ d ∈ dsL X s, 0 ≤ d ∧ d ≤ 999 := by
  obtain ⟨h1, h2, h3, h4⟩ := sel_parts ok h
  have hp := ok.pi; have hs := ok.sl; have hg := ok.ga; have ha := ok.pa
  refine ⟨by simp [dsL, dsR]; omega, fun d hd => ?_⟩
  simp only [dsL, dsR, List.flatten_cons, List.flatten_nil, List.append_nil, List.mem_append, List.mem_singleton, List.mem_replicate] at hd
  rcases hd with rfl | ⟨_, rfl⟩ | rfl | ⟨_, rfl⟩ <;> omega
/-- The distances of a list. -/
def alD (X : Pu) (L : List Int) : List Int := L.flatMap (dsL X)
theorem alD_snoc (X : Pu) (L : List Int) (s : Int) : alD X (L ++ [s]) = alD X L ++ dsL X s := by simp [alD]
theorem alD_all {X : Pu} (ok : POk X) : ∀ (L : List Int), (∀ s ∈ L, 0 ≤ s ∧ s < X.l * X.n) → (alD X L).length ≤ 10 * L.length ∧ ∀ d ∈ alD X L, 0 ≤ d ∧ d ≤ 999
  | [], _ => by simp [alD]
  | s :: L, h => by
    obtain ⟨h1, h2⟩ := dsL_all ok (h s (by simp))
    obtain ⟨h3, h4⟩ := alD_all ok L (fun x hx => h x (by simp [hx]))
    have e : alD X (s :: L) = dsL X s ++ alD X L := rfl
    rw [e, List.length_append, List.length_cons]
    refine ⟨by omega, fun d hd => ?_⟩
    rcases List.mem_append.1 hd with hd | hd
    · exact h2 d hd
    · exact h4 d hd
/-- What is written. -/
def wrtL (X : Pu) (L : List Int) (t : Int) : List Int := accL (t - X.pa) (alD X L)
end Go.Proofs.Yteianfbdhakhpaa
