import Derived.Test.YtmpihcencnkpbaaT4
import Derived.Test.YtmpihcencnkpbaaG3
import Derived.Test.YtmpihcencnkpbaaS1
/-! All faults of a box, in order. -/
namespace Go.Proofs.Ytmpihcencnkpbaa
set_option linter.unusedSimpArgs false
set_option linter.unusedVariables false
open Go Go.RowKit Go.Shelf

theorem deadsN_i64 {k : Int} {j : Nat} (hk : 1 ≤ k ∧ k ≤ 4) (hj : j ≤ 5) : ∀ x ∈ deadsN k j, x.i64 := fun x hx => by
  have := deadsN_mem.1 hx
  unfold F3.i64; omega
theorem crossN_i64 {k : Int} {m : Nat} (hk : 1 ≤ k ∧ k ≤ 4) (hm : m ≤ 5) : ∀ x ∈ crossN k m m, x.i64 := fun x hx => by
  have := crossN_mem.1 hx
  unfold F3.i64; omega
theorem fcells_one1 (x : F3) : ([.int .i64 x.k, .int .i64 x.a, .int .i64 x.b] : List Value) = fcells [x] := rfl

set_option maxRecDepth 100000 in
set_option maxHeartbeats 4000000 in
theorem deads_any (k : Int) (m : Nat) (hk : 1 ≤ k ∧ k ≤ 4) (hm : m ≤ 5) (w : World) : Calls Try.prog 100 #[.int .i64 k, .int .i64 (m : Int)] w (LFP (deadsN k m) w) := by
  obtain ⟨i0, hi0, iz0, iz1, iz2⟩ := info_parts info63
  go_enter Try.func100, Try.ntmps100
  go_wp2
  go_loopw [5, 6, 8] (fun v5 v6 v8 wr => ∃ (j : Nat) (a : Option Addr) (c : Nat), j ≤ m ∧ v8 = .int .i64 (j : Int) ∧ v5 = .slice a j c ∧ wr.ownsRow w.heap.size 63 3 (.slice a j c) j (fcells (deadsN k j)) ∧ Below w.heap.size w wr) (fun _ _ v8 _ => m - (intOf v8).toNat)
  case atStart => exact ⟨0, none, 0, Nat.zero_le _, rfl, rfl, World.ownsRow_nil _ _ _ _, Below.refl _ _⟩
  case round =>
    obtain ⟨j, a, c, hj, rfl, rfl, hown, hb⟩ := hrel
    obtain ⟨wo, rfl⟩ : ∃ wo : World, wo = wr := ⟨_, rfl⟩
    by_cases hlt : j < m
    · have hjI : (j : Int) < m := by omega
      have hba := below_one (w := wo) (.cells #[.int .i64 k, .int .i64 (j : Int), .int .i64 0] 63)
      have hcls := Cls.of_bx (Bx.new wo #[.int .i64 k, .int .i64 (j : Int), .int .i64 0] 63)
      have hown1 := own_below2 hown hba
      have hge := own_ge2 hown
      have hsz := hb.size
      go_wp2_with (at_builtin; refine wpList_appAt rfl (.tmp 11) (.tmp 15) 25 rfl w.heap.size 63 i0 (.agg #[.int .i64 0, .int .i64 0, .int .i64 0]) 3 24 under25 hi0 iz0 iz1 iz2 rfl (by decide) (.slice a j c) j _ rfl hown1 (some ⟨wo.heap.size, 0, none⟩) 1 1 [.int .i64 k, .int .i64 (j : Int), .int .i64 0] rfl rfl hcls (fcells_one [(⟨k, (j : Int), 0⟩ : F3)]) (by unfold maxLen; omega) (by omega) (by simp; omega) ?_; intro v3 W3 hown3 hg3 hat)
      obtain ⟨a3, c3, rfl⟩ := own_slice2 hown3
      have hb3 : Below w.heap.size w W3 := (hb.trans (hba.mono hsz)).grown hg3 (by simp; omega) hge
      have hown4 : W3.ownsRow w.heap.size 63 3 (.slice a3 (j + 1) c3) (j + 1) (fcells (deadsN k (j + 1))) := by
        rw [deadsN_succ, fcells_app]; exact hown3
      clear hown hb hba hcls hown1 hge hown3 hg3 hat
      go_roundw
      case rel => exact ⟨j + 1, a3, c3, by omega, by go_num, rfl, hown4, hb3⟩
      case measure => simp [intOf]; omega
    · obtain rfl : j = m := by omega
      have hlen := deadsN_len k j
      have hres : LFP (deadsN k j) w (.returned (.slice a j c)) wo := by
        have := LFP.of_own (s := deadsN k j) (a := a) (c := c) hb (by rw [hlen]; exact hown) (by omega) (deadsN_i64 hk hm)
        rwa [hlen] at this
      have HR := hid hres
      have hjI : ¬ (j : Int) < (j : Int) := by omega
      clear hres hown hlen
      go_wp2
      go_ret
      exact HR.out
theorem crossN_len2 (k : Int) (m j : Nat) (hm : m ≤ 5) (hj : j ≤ 5) (i : Nat) (hi : i ≤ 5) : (crossN k m j ++ crossIn k j i).length ≤ 30 := by
  have := crossN_len k m j hm hj
  rw [List.length_append, crossIn_len]; omega
set_option maxRecDepth 100000 in
set_option maxHeartbeats 4000000 in
theorem crosses_any (k : Int) (m : Nat) (hk : 1 ≤ k ∧ k ≤ 4) (hm : m ≤ 5) (w : World) : Calls Try.prog 101 #[.int .i64 k, .int .i64 (m : Int)] w (LFP (crossN k m m) w) := by
  obtain ⟨i0, hi0, iz0, iz1, iz2⟩ := info_parts info63
  go_enter Try.func101, Try.ntmps101
  go_wp2
  go_loopw [5, 6, 7, 9] (fun v5 v6 v7 v9 wr => ∃ (j q : Nat) (a : Option Addr) (c : Nat), j ≤ m ∧ Hid (q = (crossN k m j).length) ∧ v9 = .int .i64 (j : Int) ∧ v5 = .slice a q c ∧ wr.ownsRow w.heap.size 63 3 (.slice a q c) q (fcells (crossN k m j)) ∧ Below w.heap.size w wr) (fun _ _ _ v9 _ => m - (intOf v9).toNat)
  case atStart => exact ⟨0, 0, none, 0, Nat.zero_le _, hid rfl, rfl, rfl, World.ownsRow_nil _ _ _ _, Below.refl _ _⟩
  case round =>
    obtain ⟨j, q, a, c, hj, hq, rfl, rfl, hown, hb⟩ := hrel
    by_cases hlt : j < m
    · have hjI : (j : Int) < m := by omega
      have e1 : crossN k m j = crossN k m j ++ crossIn k j 0 := by simp [crossIn]
      have hq2 := hq.out
      rw [e1] at hown hq2
      have HQ := hid hq2
      clear e1 hq hq2
      go_wp2
      go_loopw [5, 7] (fun v5 v7 wi => ∃ (i q : Nat) (a : Option Addr) (c : Nat), j + 1 + i ≤ m ∧ Hid (q = (crossN k m j ++ crossIn k j i).length) ∧ v7 = .int .i64 ((j + 1 + i : Nat) : Int) ∧ v5 = .slice a q c ∧ wi.ownsRow w.heap.size 63 3 (.slice a q c) q (fcells (crossN k m j ++ crossIn k j i)) ∧ Below w.heap.size w wi) (fun _ v7 _ => m - (intOf v7).toNat)
      case atStart => exact ⟨0, q, a, c, by omega, HQ, by go_num, rfl, hown, hb⟩
      case round =>
        clear hown hb HQ
        obtain ⟨i, q, a, c, hi, HQ, rfl, rfl, hown, hb⟩ := hrel
        obtain ⟨wo, rfl⟩ : ∃ wo : World, wo = wr := ⟨_, rfl⟩
        by_cases hil : j + 1 + i < m
        · obtain ⟨t, ht⟩ : ∃ t, t = j + 1 + i := ⟨_, rfl⟩
          rw [← ht] at hil hi ⊢
          have HT := hid ht
          have htI : (t : Int) < m := by omega
          have hql := crossN_len2 k m j hm (by omega) i (by omega)
          rw [← HQ.out] at hql
          have hba := below_one (w := wo) (.cells #[.int .i64 k, .int .i64 (j : Int), .int .i64 (t : Int)] 63)
          have hcls := Cls.of_bx (Bx.new wo #[.int .i64 k, .int .i64 (j : Int), .int .i64 (t : Int)] 63)
          have hown1 := own_below2 hown hba
          have hge := own_ge2 hown
          have hsz := hb.size
          clear ht
          go_wp2_with (at_builtin; refine wpList_appAt rfl (.tmp 19) (.tmp 24) 25 rfl w.heap.size 63 i0 (.agg #[.int .i64 0, .int .i64 0, .int .i64 0]) 3 24 under25 hi0 iz0 iz1 iz2 rfl (by decide) (.slice a q c) q _ rfl hown1 (some ⟨wo.heap.size, 0, none⟩) 1 1 [.int .i64 k, .int .i64 (j : Int), .int .i64 (t : Int)] rfl rfl hcls (fcells_one [(⟨k, (j : Int), (t : Int)⟩ : F3)]) (by unfold maxLen; omega) (by omega) (by simp; omega) ?_; intro v3 W3 hown3 hg3 hat)
          obtain ⟨a3, c3, rfl⟩ := own_slice2 hown3
          have hb3 : Below w.heap.size w W3 := (hb.trans (hba.mono hsz)).grown hg3 (by simp; omega) hge
          have ee : crossN k m j ++ crossIn k j (i + 1) = (crossN k m j ++ crossIn k j i) ++ [⟨k, (j : Int), (t : Int)⟩] := by rw [crossIn_succ, ← List.append_assoc, HT.out]
          have hown4 : W3.ownsRow w.heap.size 63 3 (.slice a3 (q + 1) c3) (q + 1) (fcells (crossN k m j ++ crossIn k j (i + 1))) := by
            rw [ee, fcells_app]; exact hown3
          have hq4 := hid (show q + 1 = (crossN k m j ++ crossIn k j (i + 1)).length by rw [ee, List.length_append, ← HQ.out]; rfl)
          clear hown hb hba hcls hown1 hge hown3 hg3 hat ee
          go_wp2
          go_roundw
          case rel => exact ⟨i + 1, q + 1, a3, c3, by have := HT.out; omega, hq4, by have := HT.out; go_num, rfl, hown4, hb3⟩
          case measure => simp [intOf]; omega
        · have hmi : i = m - (j + 1) := by omega
          rw [hmi, ← crossN_succ] at hown
          have hq5 := HQ.out
          rw [hmi, ← crossN_succ] at hq5
          have HQ5 := hid hq5
          have hmI : ¬ ((j + 1 + i : Nat) : Int) < (m : Int) := by omega
          clear hmi hq5 HQ
          go_wp2
          go_roundw
          case rel => exact ⟨j + 1, q, a, c, by omega, HQ5, by go_num, rfl, hown, hb⟩
          case measure => simp [intOf]; omega
    · obtain rfl : j = m := by omega
      have hlen := crossN_len k j j hm hm
      have hres : LFP (crossN k j j) w (.returned (.slice a q c)) wr := by
        have := LFP.of_own (s := crossN k j j) (a := a) (c := c) hb (by rw [← hq.out]; exact hown) (by omega) (crossN_i64 hk hm)
        rwa [← hq.out] at this
      have HR := hid hres
      have hjI : ¬ (j : Int) < (j : Int) := by omega
      clear hres hown hlen hq
      go_wp2
      go_ret
      exact HR.out

/-- slices.Grow of the nil slice: a row of the call's own, with no element. -/
theorem grow_any (n : Nat) (B : Nat) (w : World) (hn : 0 < n ∧ n ≤ 100000) (hB : B ≤ w.heap.size) :
    Calls Try.prog 107 #[.slice none 0 0, .int .i64 (n : Int)] w fun e w' => ∃ v, e = .returned v ∧ w'.ownsRow B 63 3 v 0 [] ∧ Below w.heap.size w w' := by
  obtain ⟨i0, hi0, iz0, iz1, iz2⟩ := info_parts info63
  have h := Any8.slices_Grow_grow Try.growP i0 (.agg #[.int .i64 0, .int .i64 0, .int .i64 0]) hi0 iz0 (by omega) none 0 0 n [] w (Nat.le_refl _) (by omega) (by rw [iz2]; omega) (by omega) (by simp) (fun _ => rfl) (fun a h => by cases h)
  refine Calls.mono h ?_
  rintro e w' ⟨rfl, rfl⟩
  have hG := grownCap_le_maxLen w (0 + n) 0 63 (by unfold maxLen; omega)
  have hG2 := grownCap_ge w (0 + n) 0 63
  refine ⟨_, rfl, ?_, ?_⟩
  · refine World.ownsRow_made w.drew _ _ hB hG ?_
    show (_ : Array Value).size = grownCap w (0 + n) 0 63 * 3
    have hz : (Value.agg #[.int .i64 0, .int .i64 0, .int .i64 0]).cells.size = 3 := by decide
    simp only [Array.size_append, Go.size_zeroCells, List.size_toArray, List.length_nil, hz]
    have e : Try.growP_ren.t 25 = 63 := rfl
    rw [e]
    omega
  · exact (Below.refl _ _).drew.trans (below_one (w := w.drew) _)

set_option maxRecDepth 100000 in
theorem grow_zero (B : Nat) (w : World) : Calls Try.prog 107 #[.slice none 0 0, .int .i64 0] w fun e w' => ∃ v, e = .returned v ∧ w'.ownsRow B 63 3 v 0 [] ∧ Below w.heap.size w w' := by
  go_enter Try.func107, Try.ntmps107
  go_wp2
  go_ret
  exact ⟨_, rfl, World.ownsRow_nil _ _ _ _, Below.refl _ _⟩
theorem grow_all (n : Nat) (B : Nat) (w : World) (hn : n ≤ 100000) (hB : B ≤ w.heap.size) :
    Calls Try.prog 107 #[.slice none 0 0, .int .i64 (n : Int)] w fun e w' => ∃ v, e = .returned v ∧ w'.ownsRow B 63 3 v 0 [] ∧ Below w.heap.size w w' := by
  rcases Nat.eq_zero_or_pos n with rfl | h
  · exact grow_zero B w
  · exact grow_any n B w ⟨h, hn⟩ hB

theorem flat_take {R : List (List F3)} {j : Nat} {s : List F3} (h : R.take (j + 1) = R.take j ++ [s]) : (R.take (j + 1)).flatten = (R.take j).flatten ++ s := by rw [h]; simp
theorem flat_take_le (R : List (List F3)) (j : Nat) : (R.take j).flatten.length ≤ R.flatten.length := by
  have h := List.take_append_drop j R
  have e : R.flatten = (R.take j).flatten ++ (R.drop j).flatten := by rw [← List.flatten_append, h]
  rw [e, List.length_append]; omega

set_option maxRecDepth 100000 in
set_option maxHeartbeats 4000000 in
/-- slices.Concat of rows of faults. -/
theorem concat_any (aR : Option Addr) (cR : Nat) (R : List (List F3)) (w : World) (hR : Rat w aR R) (hl : R.length ≤ 100) (hlen : R.flatten.length ≤ 1000) (hi : ∀ x ∈ R.flatten, x.i64) :
    Calls Try.prog 99 #[.slice aR R.length cR] w (LFP R.flatten w) := by
  obtain ⟨i0, hi0, iz0, iz1, iz2⟩ := info_parts info63
  obtain ⟨n, hn⟩ : ∃ n, n = R.length := ⟨_, rfl⟩
  rw [← hn] at hl ⊢
  have HN := hid hn
  have HI := hid hi
  have hle := fun j => Nat.le_trans (flat_take_le R j) hlen
  clear hn hi
  go_enter Try.func99, Try.ntmps99
  go_wp2
  go_loopw [3, 5, 11] (fun v3 v5 v11 wr => ∃ (j q : Nat), j ≤ n ∧ v11 = .int .i64 (j : Int) ∧ v3 = .int .i64 (q : Int) ∧ Hid (q = (R.take j).flatten.length) ∧ Below w.heap.size w wr) (fun _ _ v11 _ => n - (intOf v11).toNat)
  case atStart => exact ⟨0, 0, by omega, rfl, rfl, hid rfl, Below.refl _ _⟩
  case round =>
    obtain ⟨j, q, hj, rfl, rfl, hq, hb⟩ := hrel
    by_cases hlt : j < n
    · obtain ⟨b, off, s, a', c', rfl, hbl, hc, _, _, _, _, htk⟩ := (hR.below hb (Nat.le_refl _)).at (k := j) (by rw [← HN.out]; exact hlt)
      have hjI : (j : Int) < n := by omega
      have hft := flat_take htk.out
      have hq2 := hle (j + 1)
      rw [hft, List.length_append, ← hq.out] at hq2
      obtain ⟨ls, hls⟩ : ∃ ls, ls = s.length := ⟨_, rfl⟩
      rw [← hls] at hq2 hc
      have hq3 := hid (show q + ls = (R.take (j + 1)).flatten.length by rw [hft, List.length_append, ← hq.out, hls])
      have hql : IntKind.i64.wrap ((q : Int) + (ls : Int)) = ((q + ls : Nat) : Int) := by rw [IntWalk.i64_in _ (by omega)]; omega
      have hqI : ¬ ((q + ls : Nat) : Int) < 0 := by omega
      clear hft htk hls hq
      go_wp2
      go_roundw
      case rel => exact ⟨j + 1, q + ls, by omega, by go_num, by go_num, hq3, hb⟩
      case measure => simp [intOf]; omega
    · have hjn : j = n := by omega
      have hjI : ¬ (j : Int) < (n : Int) := by omega
      have hqq := hle j
      rw [← hq.out] at hqq
      have hgr := grow_all q w.heap.size wr (by omega) hb.size
      clear hjn hq
      go_wp2_with fail
      refine Calls.mono hgr ?_
      rintro e W1 ⟨v, rfl, hown, hb1⟩
      replace hb := hb.trans (hb1.mono hb.size)
      clear hb1 hgr hlt hjI hqq hj
      go_wp2
      go_loopw [6, 8, 27] (fun v6 v8 v27 wr => ∃ (j q : Nat), j ≤ n ∧ Hid (q = (R.take j).flatten.length) ∧ v27 = .int .i64 (j : Int) ∧ wr.ownsRow w.heap.size 63 3 v6 q (fcells (R.take j).flatten) ∧ Below w.heap.size w wr) (fun _ _ v27 _ => n - (intOf v27).toNat)
      case atStart => exact ⟨0, 0, by omega, hid rfl, rfl, hown, hb⟩
      case round =>
        clear hown hb
        obtain ⟨j, q, hj, hq, rfl, hown, hb⟩ := hrel
        obtain ⟨a6, c6, rfl⟩ := own_slice2 hown
        have hge := own_ge2 hown
        by_cases hlt : j < n
        · obtain ⟨b, off, s, a', c', rfl, hbl, hc, _, hfy, _, _, htk⟩ := (hR.below hb (Nat.le_refl _)).at (k := j) (by rw [← HN.out]; exact hlt)
          have hjI : (j : Int) < n := by omega
          have hft := flat_take htk.out
          have hq2 := hle (j + 1)
          rw [hft, List.length_append, ← hq.out] at hq2
          obtain ⟨ls, hls⟩ : ∃ ls, ls = s.length := ⟨_, rfl⟩
          have lf : (fcells s).length = ls * 3 := by rw [fcells_len, hls]
          rw [← hls] at hq2 hc
          have hq3 := hid (show q + ls = (R.take (j + 1)).flatten.length by rw [hft, List.length_append, ← hq.out, hls])
          have hcl := hfy.1.cls
          have LF := hid lf
          have HFT := hid hft
          clear hft htk hls hq lf hfy
          go_wp2_with (at_builtin; refine wpList_appAt rfl (.tmp 31) (.tmp 32) 25 rfl w.heap.size 63 i0 (.agg #[.int .i64 0, .int .i64 0, .int .i64 0]) 3 24 under25 hi0 iz0 iz1 iz2 rfl (by decide) (.slice a6 q c6) q _ rfl hown a' ls c' (fcells s) rfl LF.out hcl (fcells_one s) (by unfold maxLen; omega) (by omega) hb.size ?_; intro v5 W5 hown5 hg5 hat)
          rw [← fcells_app, ← HFT.out] at hown5
          have hb5 := hb.grown hg5 hb.size hge
          clear hown hg5 hat hcl hge hb
          go_roundw
          case rel => exact ⟨j + 1, q + ls, by omega, hq3, by go_num, hown5, hb5⟩
          case measure => simp [intOf]; omega
        · have hjn : j = n := by omega
          have hjI : ¬ (j : Int) < (n : Int) := by omega
          have e : R.take j = R := by rw [hjn, HN.out, List.take_length]
          rw [e] at hown
          have hq2 := hq.out
          rw [e] at hq2
          have hres : LFP R.flatten w (.returned (.slice a6 q c6)) wr := by
            have := LFP.of_own (s := R.flatten) (a := a6) (c := c6) hb (by rw [← hq2]; exact hown) hlen HI.out
            rwa [← hq2] at this
          have HR := hid hres
          clear hres hown e hq hq2 hge hjn
          go_wp2
          go_ret
          exact HR.out
theorem Rat.mk' {w : World} {b : Nat} {vs : Array Value} {T : TypeId} {SS : List (List F3)} (h : Bx w b vs T) (hr : Rws w vs.toList SS) : Rat w (some ⟨b, 0, none⟩) SS := ⟨vs.toList, Cls.of_bx h, hr⟩
theorem allF_flat (L N : Int) : [deadsN 1 L.toNat, deadsN 2 N.toNat, crossN 3 L.toNat L.toNat, crossN 4 N.toNat N.toNat].flatten = allF L N := by simp [allF]

set_option maxRecDepth 100000 in
set_option maxHeartbeats 4000000 in
theorem faultsOf_any (L N : Int) (aP : Option Addr) (cP : Nat) (P : List F3) (F : Int) (w : World) (hL : 1 ≤ L ∧ L ≤ 5) (hN : 1 ≤ N ∧ N ≤ 5) : Calls Try.prog 88 #[.agg #[.int .i64 L, .int .i64 N, .slice aP P.length cP, .int .i64 F]] w (LFP (allF L N) w) := by
  obtain ⟨W, hW, hb, _, x0⟩ := boxes1 w #[.int .i64 L, .int .i64 N, .slice aP P.length cP, .int .i64 F] 24
  have hal := allF_len hL hN
  have hi64 := hid (show ∀ x ∈ allF L N, x.i64 from fun x hx => (Okf.of hL hN hx).i64)
  rw [← allF_flat] at hal hi64
  rw [← allF_flat]
  obtain ⟨l, hl⟩ : ∃ l : Nat, L = (l : Int) := ⟨L.toNat, by omega⟩
  obtain ⟨n, hn⟩ : ∃ n : Nat, N = (n : Int) := ⟨N.toNat, by omega⟩
  subst hl hn
  rw [Int.toNat_natCast, Int.toNat_natCast] at *
  have h1 := fun v => deads_any 1 l (by omega) (by omega) v
  have h2 := fun v => deads_any 2 n (by omega) (by omega) v
  have h3 := fun v => crosses_any 3 l (by omega) (by omega) v
  have h4 := fun v => crosses_any 4 n (by omega) (by omega) v
  generalize deadsN 1 l = D1 at *
  generalize deadsN 2 n = D2 at *
  generalize crossN 3 l l = D3 at *
  generalize crossN 4 n n = D4 at *
  have hcc := fun a c v hv => concat_any a c [D1, D2, D3, D4] v hv (by simp) (by omega) hi64.out
  generalize [D1, D2, D3, D4].flatten = R at *
  go_enter Try.func88, Try.ntmps88
  go_upto_region 1 with fail
  clear hW
  have hbd := (Below.refl W.heap.size W).drew
  have S0 := (x0.below hbd)
  replace hb := hb.trans (hbd.mono hb.size)
  clear hbd x0
  refine wp_region_head 14 (fun w' => Bx w' w.heap.size #[.int .i64 (l : Int), .int .i64 (n : Int), .slice aP P.length cP, .int .i64 F] 24) (by kernel_rfl) rfl ?_
  generalize W.drew = Y0 at *
  refine HeadAt.take (i := 0) (.pointer (some ⟨w.heap.size, 0, none⟩)) rfl (by kernel_rfl) (.inl ⟨rfl, fun _ _ => by simp [go_sem]⟩) S0 ?_
  (try simp only [Act.put, List.getElem_toArray, List.getElem_cons_succ, List.getElem_cons_zero, List.setIfInBounds_toArray, List.set_cons_succ, List.set_cons_zero])
  refine HeadAt.take (i := 1) (.int .i64 (l : Int)) rfl (by kernel_rfl) (.inl ⟨rfl, fun w' z => ?_⟩) S0 ?_
  · (have z0 := z.cell 0 rfl; simp [go_sem, z0])
  (try simp only [Act.put, List.getElem_toArray, List.getElem_cons_succ, List.getElem_cons_zero, List.setIfInBounds_toArray, List.set_cons_succ, List.set_cons_zero])
  refine HeadAt.take (i := 3) (.pointer (some ⟨w.heap.size, 1, none⟩)) rfl (by kernel_rfl) (.inl ⟨rfl, fun _ _ => by simp [go_sem]⟩) S0 ?_
  (try simp only [Act.put, List.getElem_toArray, List.getElem_cons_succ, List.getElem_cons_zero, List.setIfInBounds_toArray, List.set_cons_succ, List.set_cons_zero])
  refine HeadAt.take (i := 4) (.int .i64 (n : Int)) rfl (by kernel_rfl) (.inl ⟨rfl, fun w' z => ?_⟩) S0 ?_
  · (have z0 := z.cell 1 rfl; simp [go_sem, z0])
  (try simp only [Act.put, List.getElem_toArray, List.getElem_cons_succ, List.getElem_cons_zero, List.setIfInBounds_toArray, List.set_cons_succ, List.set_cons_zero])
  refine HeadAt.take (i := 6) (.pointer (some ⟨w.heap.size, 0, none⟩)) rfl (by kernel_rfl) (.inl ⟨rfl, fun _ _ => by simp [go_sem]⟩) S0 ?_
  (try simp only [Act.put, List.getElem_toArray, List.getElem_cons_succ, List.getElem_cons_zero, List.setIfInBounds_toArray, List.set_cons_succ, List.set_cons_zero])
  refine HeadAt.take (i := 7) (.int .i64 (l : Int)) rfl (by kernel_rfl) (.inl ⟨rfl, fun w' z => ?_⟩) S0 ?_
  · (have z0 := z.cell 0 rfl; simp [go_sem, z0])
  (try simp only [Act.put, List.getElem_toArray, List.getElem_cons_succ, List.getElem_cons_zero, List.setIfInBounds_toArray, List.set_cons_succ, List.set_cons_zero])
  refine HeadAt.take (i := 9) (.pointer (some ⟨w.heap.size, 1, none⟩)) rfl (by kernel_rfl) (.inl ⟨rfl, fun _ _ => by simp [go_sem]⟩) S0 ?_
  (try simp only [Act.put, List.getElem_toArray, List.getElem_cons_succ, List.getElem_cons_zero, List.setIfInBounds_toArray, List.set_cons_succ, List.set_cons_zero])
  refine HeadAt.take (i := 10) (.int .i64 (n : Int)) rfl (by kernel_rfl) (.inl ⟨rfl, fun w' z => ?_⟩) S0 ?_
  · (have z0 := z.cell 1 rfl; simp [go_sem, z0])
  (try simp only [Act.put, List.getElem_toArray, List.getElem_cons_succ, List.getElem_cons_zero, List.setIfInBounds_toArray, List.set_cons_succ, List.set_cons_zero])
  refine HeadAt.one (i := 2) rfl (by kernel_rfl) ?_
  generalize hK : Upto _ _ = K0
  (try simp only [Act.put, List.getElem_toArray, List.getElem_cons_succ, List.getElem_cons_zero, List.setIfInBounds_toArray, List.set_cons_succ, List.set_cons_zero])
  go_wp2_with fail
  refine (h1 _).mono ?_
  rintro e V1 ⟨hb1, a1, c1, rfl, hc1, hf1⟩
  go_wp2_with fail
  replace S0 := (S0.below hb1)
  replace hb := hb.trans (hb1.mono hb.size)
  clear hb1
  subst hK
  refine ⟨S0, ?_⟩
  (try simp only [Act.put, List.getElem_toArray, List.getElem_cons_succ, List.getElem_cons_zero, List.setIfInBounds_toArray, List.set_cons_succ, List.set_cons_zero])
  refine HeadAt.one (i := 5) rfl (by kernel_rfl) ?_
  generalize hK : Upto _ _ = K0
  (try simp only [Act.put, List.getElem_toArray, List.getElem_cons_succ, List.getElem_cons_zero, List.setIfInBounds_toArray, List.set_cons_succ, List.set_cons_zero])
  go_wp2_with fail
  refine (h2 _).mono ?_
  rintro e V2 ⟨hb1, a2, c2, rfl, hc2, hf2⟩
  go_wp2_with fail
  replace S0 := (S0.below hb1)
  replace hb := hb.trans (hb1.mono hb.size)
  replace hf1 := hf1.below hb1 (Nat.le_refl _)
  clear hb1
  subst hK
  refine ⟨S0, ?_⟩
  (try simp only [Act.put, List.getElem_toArray, List.getElem_cons_succ, List.getElem_cons_zero, List.setIfInBounds_toArray, List.set_cons_succ, List.set_cons_zero])
  refine HeadAt.one (i := 8) rfl (by kernel_rfl) ?_
  generalize hK : Upto _ _ = K0
  (try simp only [Act.put, List.getElem_toArray, List.getElem_cons_succ, List.getElem_cons_zero, List.setIfInBounds_toArray, List.set_cons_succ, List.set_cons_zero])
  go_wp2_with fail
  refine (h3 _).mono ?_
  rintro e V3 ⟨hb1, a3, c3, rfl, hc3, hf3⟩
  go_wp2_with fail
  replace S0 := (S0.below hb1)
  replace hb := hb.trans (hb1.mono hb.size)
  replace hf1 := hf1.below hb1 (Nat.le_refl _)
  replace hf2 := hf2.below hb1 (Nat.le_refl _)
  clear hb1
  subst hK
  refine ⟨S0, ?_⟩
  (try simp only [Act.put, List.getElem_toArray, List.getElem_cons_succ, List.getElem_cons_zero, List.setIfInBounds_toArray, List.set_cons_succ, List.set_cons_zero])
  refine HeadAt.one (i := 11) rfl (by kernel_rfl) ?_
  generalize hK : Upto _ _ = K0
  (try simp only [Act.put, List.getElem_toArray, List.getElem_cons_succ, List.getElem_cons_zero, List.setIfInBounds_toArray, List.set_cons_succ, List.set_cons_zero])
  go_wp2_with fail
  refine (h4 _).mono ?_
  rintro e V4 ⟨hb1, a4, c4, rfl, hc4, hf4⟩
  go_wp2_with fail
  replace S0 := (S0.below hb1)
  replace hb := hb.trans (hb1.mono hb.size)
  replace hf1 := hf1.below hb1 (Nat.le_refl _)
  replace hf2 := hf2.below hb1 (Nat.le_refl _)
  replace hf3 := hf3.below hb1 (Nat.le_refl _)
  clear hb1
  subst hK
  refine ⟨S0, ?_⟩
  (try simp only [Act.put, List.getElem_toArray, List.getElem_cons_succ, List.getElem_cons_zero, List.setIfInBounds_toArray, List.set_cons_succ, List.set_cons_zero])
  refine HeadAt.one (i := 12) rfl (by kernel_rfl) ?_
  generalize hK : Upto _ _ = K0
  (try simp only [Act.put, List.getElem_toArray, List.getElem_cons_succ, List.getElem_cons_zero, List.setIfInBounds_toArray, List.set_cons_succ, List.set_cons_zero])
  have hbl := below_one (w := V4) (.cells #[.slice a1 D1.length c1, .slice a2 D2.length c2, .slice a3 D3.length c3, .slice a4 D4.length c4] 25)
  have hx := Bx.new V4 #[.slice a1 D1.length c1, .slice a2 D2.length c2, .slice a3 D3.length c3, .slice a4 D4.length c4] 25
  have hrr := (((Rws.single hf1 hc1).app (Rws.single hf2 hc2)).app (Rws.single hf3 hc3)).app (Rws.single hf4 hc4)
  have hrat := Rat.mk' hx (hrr.below hbl (Nat.le_refl _))
  replace hb := hb.trans (hbl.mono hb.size)
  replace S0 := S0.below hbl
  have HX := hid (And.intro S0 (And.intro hb hrat))
  clear hbl hx hrr hrat hb S0 hf1 hf2 hf3 hf4 h1 h2 h3 h4
  go_wp2_with fail
  obtain ⟨S0, hb, hrat⟩ := HX.out
  clear HX
  generalize V4.heap.size = sb at *
  generalize World.alloc _ _ = Y1 at *
  subst hK
  refine ⟨S0, ?_⟩
  (try simp only [Act.put, List.getElem_toArray, List.getElem_cons_succ, List.getElem_cons_zero, List.setIfInBounds_toArray, List.set_cons_succ, List.set_cons_zero])
  refine HeadAt.one (i := 13) rfl (by kernel_rfl) ?_
  generalize hK : Upto _ _ = K0
  (try simp only [Act.put, List.getElem_toArray, List.getElem_cons_succ, List.getElem_cons_zero, List.setIfInBounds_toArray, List.set_cons_succ, List.set_cons_zero])
  go_wp2_with fail
  refine (hcc _ 4 _ hrat).mono ?_
  rintro e V9 ⟨hb1, a9, c9, rfl, hc9, hf9⟩
  go_wp2_with fail
  replace S0 := S0.below hb1
  replace hb := hb.trans (hb1.mono hb.size)
  clear hb1
  subst hK
  refine ⟨S0, ?_⟩
  (try simp only [Act.put, List.getElem_toArray, List.getElem_cons_succ, List.getElem_cons_zero, List.setIfInBounds_toArray, List.set_cons_succ, List.set_cons_zero])
  refine HeadAt.done (by kernel_rfl) ?_
  (try simp only [Act.put, List.drop_succ_cons, List.drop_zero, List.getElem_toArray, List.getElem_cons_succ, List.getElem_cons_zero])
  go_wp2_with fail
  refine NoPanic.normal ?_
  go_wp2
  go_ret
  exact ⟨hb, a9, c9, rfl, hc9, hf9⟩
end Go.Proofs.Ytmpihcencnkpbaa
