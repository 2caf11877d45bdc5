import Derived.Test.YtipdohpbilabiaaNB
/-! The reference's choices. -/
namespace Go.Proofs.Ytipdohpbilabiaa
set_option linter.unusedSimpArgs false
set_option linter.unusedVariables false
open Go Go.RowKit

/-- All rising lists of m of the titles from f on, below n. -/
def chL (n : Nat) : Nat → Nat → List (List Int)
  | 0, _ => [[]]
  | m + 1, f => (List.range (n - f)).flatMap fun j => (chL n m (f + j + 1)).map fun l => ((f + j : Nat) : Int) :: l
/-- Those that begin with one of the first j titles. -/
def chP (n m f j : Nat) : List (List Int) := (List.range j).flatMap fun j => (chL n m (f + j + 1)).map fun l => ((f + j : Nat) : Int) :: l
theorem chP_succ (n m f j : Nat) : chP n m f (j + 1) = chP n m f j ++ (chL n m (f + j + 1)).map fun l => ((f + j : Nat) : Int) :: l := by simp [chP, List.range_succ]
theorem chL_len (n : Nat) : ∀ (m f : Nat), ∀ l ∈ chL n m f, l.length = m ∧ ∀ x ∈ l, 0 ≤ x ∧ x < (n : Int)
  | 0, f, l, hl => by
    simp [chL] at hl; subst hl; simp
  | m + 1, f, l, hl => by
    simp only [chL, List.mem_flatMap, List.mem_range, List.mem_map] at hl
    obtain ⟨j, hj, l', hl', rfl⟩ := hl
    obtain ⟨h1, h2⟩ := chL_len n m _ l' hl'
    refine ⟨by simp [h1], fun x hx => ?_⟩
    rcases List.mem_cons.1 hx with rfl | hx
    · omega
    · exact h2 x hx
theorem flat_le {α β : Type} (F : α → List β) (c : Nat) : ∀ (l : List α), (∀ x ∈ l, (F x).length ≤ c) → (l.flatMap F).length ≤ l.length * c
  | [], _ => by simp
  | x :: l, h => by
    have h1 := h x List.mem_cons_self
    have h2 := flat_le F c l (fun y hy => h y (List.mem_cons_of_mem _ hy))
    simp only [List.flatMap_cons, List.length_append, List.length_cons, Nat.succ_mul]
    omega
theorem chL_le {n : Nat} (hn : n ≤ 6) : ∀ (m f : Nat), (chL n m f).length ≤ 6 ^ m
  | 0, f => by simp [chL]
  | m + 1, f => by
    have := flat_le (fun j => (chL n m (f + j + 1)).map fun l => ((f + j : Nat) : Int) :: l) (6 ^ m) (List.range (n - f)) (fun j _ => by rw [List.length_map]; exact chL_le hn m _)
    rw [List.length_range] at this
    refine Nat.le_trans this ?_
    rw [Nat.pow_succ, Nat.mul_comm]
    exact Nat.mul_le_mul (Nat.le_refl _) (by omega)
theorem chP_le {n : Nat} (hn : n ≤ 6) (m f j : Nat) (hj : j ≤ 6) : (chP n m f j).length ≤ 6 * 6 ^ m := by
  have := flat_le (fun j => (chL n m (f + j + 1)).map fun l => ((f + j : Nat) : Int) :: l) (6 ^ m) (List.range j) (fun j _ => by rw [List.length_map]; exact chL_le hn m _)
  rw [List.length_range] at this
  exact Nat.le_trans this (Nat.mul_le_mul hj (Nat.le_refl _))
theorem LssT.gro {w w' : World} {B T : Nat} {r : Option Nat} {v : Value} {LL : List (List Int)} (h : LssT w B T v LL) (hg : w.grownBy w' r) (hr : ∀ b, r = some b → b < B ∨ T ≤ b) : LssT w' B T v LL := by
  cases r with
  | some b => exact h.out (hr b rfl) hg
  | none =>
    obtain ⟨h0, a, c, vs, rfl, h1, h2, h3⟩ := h
    exact ⟨Nat.le_trans h0 hg.size, a, c, vs, rfl, own_keep h1 hg (fun k _ e => by cases e), h2, h3.gro hg (fun k hk => by cases hk) (.inl rfl)⟩
theorem own_litN (w : World) (e : TypeId) (v : Value) : (w.alloc (.cells #[v] e)).ownsRow w.heap.size e 1 (.slice (some ⟨w.heap.size, 0, none⟩) 1 1) 1 [v] := by
  refine ⟨rfl, .inr ⟨w.heap.size, 1, #[v], rfl, Nat.le_refl _, ?_, Nat.le_refl _, by unfold maxLen; omega, rfl, rfl⟩⟩
  exact Bx.new w #[v] e
theorem chL_succ (n m f : Nat) : chL n (m + 1) f = chP n m f (n - f) := by rw [chL]; rfl

set_option maxRecDepth 100000 in
set_option maxHeartbeats 6000000 in
theorem choices_any (n : Nat) (hn : n ≤ 6) : ∀ (m f : Nat) (w : World), m ≤ 3 → f ≤ n → Calls Try.prog 84 #[.int .i64 (n : Int), .int .i64 (f : Int), .int .i64 (m : Int)] w (ClP (chL n m f) w)
  | 0, f, w, _, _ => by
    have hres : ClP (chL n 0 f) w (.returned (.slice (some ⟨w.heap.size, 0, none⟩) 1 1)) (w.alloc (.cells #[.slice none 0 0] 23)) := by
      refine ⟨below_one _, some ⟨w.heap.size, 0, none⟩, 1, [.slice none 0 0], rfl, own_litN w 23 _, w.heap.size, Nat.le_refl _, ⟨World.ownsRow_nil _ _ _ _, none, 0, rfl, ⟨by simp, by simp, fun i hi => by simp at hi⟩, fun ad e => by cases e⟩, ?_⟩
      exact (below_one (w := w) (.cells #[.slice none 0 0] 23)).size
    have HR := hid hres
    clear hres
    go_enter Try.func84, Try.ntmps84
    go_wp2
    go_ret
    exact HR.out
  | m + 1, f, w, hm, hf => by
    have hrec := fun (g : Nat) V (hg : g ≤ n) => choices_any n hn m g V (by omega) hg
    have hmI : (((m + 1 : Nat) : Int) == 0) = false := by rw [beq_eq_false_iff_ne]; omega
    have hwm : IntKind.i64.wrap (((m + 1 : Nat) : Int) - 1) = (m : Int) := by rw [IntWalk.i64_in _ (by omega)]; omega
    obtain ⟨j0, hj, jz0, jz1, jz2⟩ := info_parts info3i
    obtain ⟨i0, hi0, iz0, iz1, iz2⟩ := info_parts info23
    have h6 : 6 * 6 ^ m ≤ 216 := by
      rcases (by omega : m = 0 ∨ m = 1 ∨ m = 2) with rfl | rfl | rfl <;> omega
    have hP := fun j (hj : j ≤ 6) => Nat.le_trans (chP_le hn m f j hj) h6
    have hL := fun g => Nat.le_trans (chL_le hn m g) (show 6 ^ m ≤ 216 by omega)
    obtain ⟨M, hM⟩ : ∃ M : Int, M = ((m + 1 : Nat) : Int) := ⟨_, rfl⟩
    rw [← hM] at hmI hwm ⊢
    have HQ := hid (And.intro hP hL)
    clear hP hL hM h6
    go_enter Try.func84, Try.ntmps84
    go_wp2
    go_loopw [7, 8] (fun v7 v8 wr => ∃ (j q : Nat) (b : Option Addr) (d : Nat) (vs : List Value), f + j ≤ n ∧ Hid (q = (chP n m f j).length) ∧ v8 = .int .i64 ((f + j : Nat) : Int) ∧ v7 = .slice b q d ∧ wr.ownsRow w.heap.size 23 1 (.slice b q d) q vs ∧ Below w.heap.size w wr ∧ Rc wr (Value.slice b q d).ownBlock w.heap.size wr.heap.size vs (chP n m f j)) (fun _ v8 _ => n - (intOf v8).toNat)
    case atStart => exact ⟨0, 0, none, 0, [], by omega, hid rfl, rfl, rfl, World.ownsRow_nil _ _ _ _, Below.refl _ _, Nat.le_refl _⟩
    case round =>
      obtain ⟨j, q, b, d, vs, hfj, hq, rfl, rfl, hown, hb, hrc⟩ := hrel
      obtain ⟨wo, rfl⟩ : ∃ wo : World, wo = wr := ⟨_, rfl⟩
      by_cases hlt : f + j < n
      · obtain ⟨t, ht⟩ : ∃ t, t = f + j := ⟨_, rfl⟩
        rw [← ht] at hlt ⊢
        have HT := hid ht
        have hwt : IntKind.i64.wrap ((t : Int) + 1) = ((t + 1 : Nat) : Int) := by rw [IntWalk.i64_in _ (by omega)]; omega
        have htI : (t : Int) < (n : Int) := by omega
        have hj6 : j ≤ 6 := by omega
        have hq9 := HQ.out.1 j hj6
        rw [← hq.out] at hq9
        clear ht hfj
        go_wp2_with fail
        refine (hrec (t + 1) _ (by omega)).mono ?_
        rintro e V1 ⟨hb1, a1, c1, us, rfl, hown1, hrc1⟩
        obtain ⟨L1, hL1⟩ : ∃ L1, L1 = chL n m (t + 1) := ⟨_, rfl⟩
        rw [← hL1] at hown1 hrc1 ⊢
        have hl9 := HQ.out.2 (t + 1)
        rw [← hL1] at hl9
        have HL1 := hid hL1
        obtain ⟨nl, hnl⟩ : ∃ nl, nl = L1.length := ⟨_, rfl⟩
        have hT1 : LssT V1 wo.heap.size V1.heap.size (.slice a1 L1.length c1) L1 := LssT.of_clone hown1 hrc1
        rw [← hnl] at hT1 hl9 ⊢
        have HNL := hid hnl
        have hown2 := own_below2 hown hb1
        have hrc2 := hrc.gro (own' := (Value.slice b q d).ownBlock) (Below.gr' hb1) (fun k hk => by cases hk) (.inl rfl)
        have hrc3 := hrc2.up hb1.size
        have hlo : ∀ k, (Value.slice b q d).ownBlock = some k → k < wo.heap.size ∨ V1.heap.size ≤ k := fun k hk => .inl (hown.lt k hk).2
        have hb2 := hb.trans (hb1.mono hb.size)
        have hV1 := hb.size
        clear hown hrc hrc2 hb hb1 hown1 hrc1 hL1 hnl
        go_wp2
        go_loopw [7, 10] (fun v7 v10 wi => ∃ (i : Nat) (b : Option Addr) (d : Nat) (vs : List Value), i ≤ nl ∧ v10 = .int .i64 (i : Int) ∧ v7 = .slice b (q + i) d ∧ wi.ownsRow w.heap.size 23 1 (.slice b (q + i) d) (q + i) vs ∧ Below w.heap.size w wi ∧ Rc wi (Value.slice b (q + i) d).ownBlock w.heap.size wi.heap.size vs (chP n m f j ++ (L1.take i).map fun l => (t : Int) :: l) ∧ LssT wi wo.heap.size V1.heap.size (.slice a1 nl c1) L1 ∧ (∀ k, (Value.slice b (q + i) d).ownBlock = some k → k < wo.heap.size ∨ V1.heap.size ≤ k)) (fun _ v10 _ => nl - (intOf v10).toNat)
        case atStart => exact ⟨0, b, d, vs, Nat.zero_le _, rfl, rfl, hown2, hb2, by simpa using hrc3, hT1, hlo⟩
        case round =>
          clear hown2 hb2 hrc3 hT1 hlo
          obtain ⟨i, b, d, vs, hi, rfl, rfl, hown, hb, hrc, hT, hlo⟩ := hrel
          obtain ⟨w2, rfl⟩ : ∃ w2 : World, w2 = wr := ⟨_, rfl⟩
          by_cases hil : i < nl
          · have hTs := hT.1
            obtain ⟨a2, c2, e2, hlss⟩ := hT.lss (by rw [← HNL.out]; omega)
            obtain ⟨L, hLd⟩ : ∃ L, L = L1.getD i [] := ⟨_, rfl⟩
            have hiL : i < L1.length := by rw [← HNL.out]; exact hil
            obtain ⟨bl, off, a', c', hab, hbl, hc, hI⟩ := hlss.at (k := i) hiL
            simp only [Value.slice.injEq] at e2
            replace e2 := e2.1
            rw [← e2] at hab
            subst hab
            have htk : L1.take (i + 1) = L1.take i ++ [L] := by
              rw [List.take_add_one, hLd, List.getD_eq_getElem?_getD, List.getElem?_eq_getElem hiL]; rfl
            rw [← hLd] at hc hI
            obtain ⟨K, hK⟩ : ∃ K, K = (t : Int) :: L := ⟨_, rfl⟩
            have htk2 : (chP n m f j ++ (L1.take i).map fun l => (t : Int) :: l) ++ [K] = chP n m f j ++ (L1.take (i + 1)).map fun l => (t : Int) :: l := by
              rw [htk, List.map_append, List.append_assoc, hK]; rfl
            have hLm := chL_len n m (t + 1) L (by rw [← HL1.out, hLd]; exact getD_mem' L1 [] hiL)
            have hL3 : L.length ≤ 3 := by omega
            have hK4 : K.length ≤ 4 := by rw [hK, List.length_cons]; omega
            have hrg : ∀ x ∈ K, -9223372036854775808 ≤ x ∧ x ≤ 9223372036854775807 := fun x hx => by
              rw [hK] at hx
              rcases List.mem_cons.1 hx with rfl | hx
              · omega
              · have := hLm.2 x hx; omega
            have HK := hid hK
            have HTK := hid htk2
            clear htk htk2 hLd e2 hlss hiL hLm hK
            have hiI : (i : Int) < nl := by omega
            have hz0 : (0 : Int) ≤ (i : Int) := by omega
            have hwo := hb.size
            have hA := own_litN w2 3 (.int .i64 (t : Int))
            have hb1 := below_one (w := w2) (.cells #[.int .i64 (t : Int)] 3)
            have hc1 := Below.keep hb1 hc
            have hcl := (hI.below hb1 (Nat.le_refl _)).cls
            have hlt0 : ∀ k, (Value.slice b (q + i) d).ownBlock = some k → k < w2.heap.size := fun k hk => (hown.lt k hk).2
            have hge0 := own_ge2 hown
            go_wp2_with (first
              | (at_builtin; refine wpList_app rfl (.tmp 34) (.tmp 38) 23 rfl w2.heap.size 3 j0 (.int .i64 0) 1 8 under23 hj jz0 jz1 jz2 rfl (by decide) _ 1 [.int .i64 (t : Int)] rfl hA a' L.length c' (L.map (Value.int .i64)) rfl (by simp) hcl (ints_one L) (by unfold maxLen; omega) (by omega) (by simp) ?_
                 intro v1 W1 hown1 hg1
                 have hb1' := hb1.grown hg1 (by simp) (own_ge2 hA)
                 have hown1' : W1.ownsRow w2.heap.size 3 1 v1 K.length (K.map (Value.int .i64)) := by
                   rw [HK.out, List.length_cons, Nat.add_comm]; exact hown1
                 obtain ⟨a3, c3, rfl, hls⟩ := cl_step hown1' (by omega) hrg hlt0
                 have hownj := own_below2 hown hb1'
                 have hrcj := hrc.gro (own' := (Value.slice b (q + i) d).ownBlock) (Below.gr' hb1') (fun k hk => by cases hk) (.inl rfl)
                 have hbW := below_one (w := W1) (.cells #[.slice a3 K.length c3] 23)
                 have hcls := Cls.of_bx (Bx.new W1 #[.slice a3 K.length c3] 23)
                 have hsz1 := hb1'.size)
              | (at_builtin; refine wpList_appAt rfl (.tmp 32) (.tmp 40) 22 rfl w.heap.size 23 i0 (.slice none 0 0) 1 24 under22 hi0 iz0 iz1 iz2 rfl (by decide) (.slice b (q + i) d) (q + i) vs rfl (own_below2 hownj hbW) (some ⟨W1.heap.size, 0, none⟩) 1 1 [.slice a3 K.length c3] rfl rfl hcls (by simp; rfl) (by unfold maxLen; omega) (by omega) (by simp; omega) ?_
                 intro v3 W3 hown3 hg3 hat))
            have hgt := (World.grownBy_alloc W1 (.cells #[.slice a3 K.length c3] 23) (Value.slice b (q + i) d).ownBlock).trans hg3
            have hb3 : Below w.heap.size w W3 := ((hb.trans (hb1'.mono hwo)).trans (hbW.mono (by omega))).grown hg3 (by simp; omega) (fun k hk => by have := hge0 k hk; omega)
            obtain ⟨a4, c4, rfl⟩ := own_slice2 hown3
            have hat2 : (Value.slice a4 (q + i + 1) c4).ownBlock = (Value.slice b (q + i) d).ownBlock ∨ ∃ k, (Value.slice a4 (q + i + 1) c4).ownBlock = some k ∧ W1.heap.size ≤ k := by
              rcases hat with h | h
              · exact .inl h
              · exact .inr ⟨_, h, by simp⟩
            have hrc1 := hrcj.gro hgt (fun k hk => hk) hat2
            have hls3 := hls.gro hgt (fun k hk => hk) hat2
            have hT3 := (hT.below hb1').gro hgt hlo
            have hlo3 : ∀ k, (Value.slice a4 (q + i + 1) c4).ownBlock = some k → k < wo.heap.size ∨ V1.heap.size ≤ k := fun k hk => by
              rcases hat2 with h | ⟨k', h, h'⟩
              · exact hlo k (by rw [← h]; exact hk)
              · rw [hk] at h; cases h; omega
            have hsz3 := hgt.size
            have hrc3 := Rc.snoc (T' := W3.heap.size) (by omega) (x := .slice a3 K.length c3) (ks := K) (by
              obtain ⟨z0, z1, z2, z3, z4, z5⟩ := hls3
              exact ⟨z0, z1, z2, z3, z4, fun ad e => by
                obtain ⟨q1, q2, q3, q4⟩ := z5 ad e
                exact ⟨q1, q3, q3, q4⟩⟩) hrc1
            rw [HTK.out] at hrc3
            clear hown hrc hc hc1 hI hcl hA hb1 hown1 hg1 hown1' hb1' hls hownj hrcj hbW hcls hg3 hat hgt hat2 hrc1 hls3 hb hT hlo
            go_roundw
            case rel => exact ⟨i + 1, a4, c4, vs ++ [.slice a3 K.length c3], by omega, by go_num, rfl, hown3, hb3, hrc3, hT3, hlo3⟩
            case measure => simp [intOf]; omega
          · obtain rfl : i = nl := by omega
            have hiI : ¬ ((i : Int) < (i : Int)) := by omega
            have e1 : (L1.take i).map (fun l => (t : Int) :: l) = L1.map fun l => (t : Int) :: l := by rw [List.take_of_length_le (by have := HNL.out; omega)]
            rw [e1, HL1.out, HT.out, ← chP_succ] at hrc
            have hq2 : q + i = (chP n m f (j + 1)).length := by rw [chP_succ, List.length_append, List.length_map, ← hq.out, ← HT.out, ← HL1.out, ← HNL.out]
            have HQ2 := hid hq2
            have HRC := hid hrc
            clear e1 hq2 hrc hT hlo
            go_wp2
            go_roundw
            case rel => exact ⟨j + 1, q + i, b, d, vs, by have := HT.out; omega, HQ2, by rw [HT.out]; go_num, rfl, hown, hb, HRC.out⟩
            case measure => simp [intOf]; omega
      · have hfn : f + j = n := by omega
        have e : chP n m f j = chL n (m + 1) f := by
          rw [chL_succ, show n - f = j by omega]
        have hq9 := hq.out
        rw [e] at hrc hq9
        have hres : ClP (chL n (m + 1) f) w (.returned (.slice b q d)) wo := by
          subst hq9
          exact ⟨hb, b, d, vs, rfl, hown, hrc⟩
        have HR := hid hres
        have hnI : ¬ ((f + j : Nat) : Int) < (n : Int) := by omega
        clear hres hrc hown e hq9 hfn
        go_wp2
        go_ret
        exact HR.out
end Go.Proofs.Ytipdohpbilabiaa
