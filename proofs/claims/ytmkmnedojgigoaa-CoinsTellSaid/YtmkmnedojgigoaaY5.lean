import Derived.Test.YtmkmnedojgigoaaY3
namespace Go.Proofs.Ytmkmnedojgigoaa
open Go.RowKit

def ListsP (C : List Int) (n : Nat) (w : World) (e : Ending) (w' : World) : Prop :=
  Below w.heap.size w w' ∧ ∃ (A : Option Addr) (c : Nat), e = .returned (.slice A (levL C n).length c) ∧ LR w' A (levL C n)

set_option maxRecDepth 100000 in
set_option maxHeartbeats 4000000 in
theorem lists_any (R : Nat) (an ac : Option Addr) (cn cc : Nat) (N C : List Int) (n : Nat) (w : World) (hv : Vw R N C) (hn : n ≤ 4) :
    Calls Try.prog 92 #[.agg #[.int .i64 (R : Int), .slice an N.length cn, .slice ac C.length cc], .int .i64 (n : Nat)] w (ListsP C n w) := by
  obtain ⟨j0, hj, jz0, jz1, jz2⟩ := info_parts info3
  obtain ⟨i0, hi0, iz0, iz1, iz2⟩ := info_parts info22
  have c4 := hv.c4
  obtain ⟨W, hW, hb, hs, x0⟩ := boxes1 w #[.int .i64 (R : Int), .slice an N.length cn, .slice ac C.length cc] 24
  have x1 := Bx.new W #[.slice none 0 0] 22
  have hb1 := below_one (w := W) (.cells #[.slice none 0 0] 22)
  have hLL : LR (W.alloc (.cells #[.slice none 0 0] 22)) (some ⟨W.heap.size, 0, none⟩) (levL C 0) := fun i ks hi => by
    have h0 := lt_of_some hi
    obtain rfl : i = 0 := by simp [levL] at h0; omega
    obtain rfl : ks = [] := by simpa [levL] using hi.symm
    exact ⟨W.heap.size, 0, rfl, x1.lt, none, 0, x1.cell 0 rfl, ⟨by simp, fun x hx => by simp at hx, fun i hi => by simp at hi⟩⟩
  replace x0 := x0.below hb1
  replace hb := hb.trans (hb1.mono hb.size)
  clear hb1 hs x1
  go_enter Try.func92, Try.ntmps92
  go_wp2
  clear hW
  generalize W.alloc _ = W1 at *
  go_loopw [5, 6] (fun v5 v6 wr => ∃ (i m : Nat) (A : Option Addr) (c : Nat), i ≤ n ∧ v6 = .int .i64 (i : Int) ∧ v5 = .slice A m c ∧ m = (levL C i).length ∧ LR wr A (levL C i) ∧ Below w.heap.size w wr ∧ Bx wr w.heap.size #[.int .i64 (R : Int), .slice an N.length cn, .slice ac C.length cc] 24) (fun _ v6 _ => n - (intOf v6).toNat)
  case atStart => exact ⟨0, 1, _, 1, Nat.zero_le _, rfl, rfl, by simp [levL], hLL, hb, x0⟩
  case round =>
    clear hLL hb x0
    obtain ⟨i, m, A, c, hi, rfl, rfl, hm, hL, hbo, x0o⟩ := hrel
    obtain ⟨wo, rfl⟩ : ∃ wo : World, wo = wr := ⟨_, rfl⟩
    by_cases hlt : i < n
    · have hltI : (i : Int) < (n : Int) := by omega
      have hm2 : m ≤ 256 := by rw [hm]; exact Nat.le_trans (lev_len c4 i) (Nat.pow_le_pow_right (n := 4) (by omega) (show i ≤ 4 by omega))
      have hLn := lev_mem (C := C) i
      obtain ⟨LL, hLLe⟩ : ∃ LL, LL = levL C i := ⟨_, rfl⟩
      rw [← hLLe] at hL hm hLn
      have hnx : levL C (i + 1) = nextL C LL := by rw [hLLe]; rfl
      have HnX := hid hnx
      have HmL := hid hm
      have Hln := hid hLn
      clear hm hLLe hnx hLn
      have lo0 := x0o.lt
      go_wp2
      go_loopw [7, 8] (fun v7 v8 wr => ∃ (k : Nat) (xs : List Value), k ≤ m ∧ v8 = .int .i64 (k : Int) ∧ xs.length = k * C.length ∧ wr.ownsRow wo.heap.size 22 1 v7 xs.length xs ∧ Below wo.heap.size wo wr ∧ Rx wr 0 v7.ownBlock xs (nextL C (LL.take k))) (fun _ v8 _ => m - (intOf v8).toNat)
      case atStart => exact ⟨0, [], Nat.zero_le _, rfl, by simp, World.ownsRow_nil _ _ _ _, Below.refl _ _, by simp [nextL, Rx]⟩
      case round =>
        obtain ⟨k, xs, hk, rfl, hxl, hown, hb, hxs⟩ := hrel
        obtain ⟨wp, rfl⟩ : ∃ wp : World, wp = wr := ⟨_, rfl⟩
        by_cases hkm : k < m
        · obtain ⟨ks, hks⟩ : ∃ ks, LL[k]? = some ks := ⟨LL[k]'(by have := HmL.out; omega), by have := HmL.out; simp⟩
          obtain ⟨hkl, hka⟩ := Hln.out ks (List.mem_of_getElem? hks)
          obtain ⟨b, off, rfl, hbs0, a, c', hcell0, hks0⟩ := hL k ks hks
          rw [hkl] at hcell0
          have HT := hid (nextL_take (C := C) hks)
          clear hks
          obtain ⟨G, hG⟩ : ∃ G, G = nextL C (LL.take k) := ⟨_, rfl⟩
          rw [← hG] at hxs HT
          clear hG
          have hkmI : (k : Int) < (m : Int) := by omega
          have HxL := hid hxl
          have hn1 : k * C.length ≤ 256 * 4 := Nat.mul_le_mul (by omega) c4
          clear hxl
          go_wp2
          go_loopw [7, 9] (fun v7 v9 wj => ∃ (q : Nat) (ys : List Value), q ≤ C.length ∧ v9 = .int .i64 (q : Int) ∧ ys.length = k * C.length + q ∧ wj.ownsRow wo.heap.size 22 1 v7 ys.length ys ∧ Below wo.heap.size wo wj ∧ Rx wj 0 v7.ownBlock ys (G ++ partL ks q)) (fun _ v9 _ => C.length - (intOf v9).toNat)
          case atStart => exact ⟨0, xs, Nat.zero_le _, rfl, HxL.out, hown, hb, by simpa [partL] using hxs⟩
          case round =>
            clear hown hb hxs HxL
            obtain ⟨q, ys, hq, rfl, hyl, hown, hb, hys⟩ := hrel
            obtain ⟨wj, rfl⟩ : ∃ wj : World, wj = wr := ⟨_, rfl⟩
            obtain ⟨p, hp⟩ : ∃ x, x = ys.length := ⟨_, rfl⟩
            rw [← hp] at hown hyl
            have Hp := hid hp; have Hyl := hid hyl
            have hpb : p ≤ 1100 := by omega
            clear hp hyl
            have x0 := x0o.below hb
            have c0 := x0.cell 0 rfl; have c1 := x0.cell 1 rfl; have c2 := x0.cell 2 rfl
            have hks := hks0.below hb (Nat.le_refl _)
            have hcell := Below.keep hb hcell0
            have hbs : b < wj.heap.size := Nat.lt_of_lt_of_le hbs0 hb.size
            by_cases hqC : q < C.length
            · have hqI : (q : Int) < (C.length : Int) := by omega
              have hkB : isKindB C (q : Int) = true := inR_iff.2 (by omega)
              have hA := own_lit0 wj 3 1
              have hb1 := below_one (w := wj) (.cells #[] 3)
              have hcl := (hks.below hb1 (Nat.le_refl _)).cls
              obtain ⟨n2, hn2⟩ : ∃ t, t = ks.length := ⟨_, rfl⟩
              have hn4 : n2 ≤ 4 := by omega
              have hn2i : n2 = i := by omega
              have HN2 := hid hn2; have HNI := hid hn2i
              rw [← hn2i] at hcell
              clear hn2 hn2i
              go_wp2_with (first
                | (at_builtin; refine wpList_app rfl (.tmp 30) (.tmp 34) 22 rfl wj.heap.size 3 j0 (.int .i64 0) 1 8 under22 hj jz0 jz1 jz2 rfl (by decide) _ 0 [] rfl hA a n2 c' (ks.map (Value.int .i64)) rfl (by simp; have := HN2.out; omega) hcl (ints_one ks) (by unfold maxLen; omega) (by omega) (by simp) ?_
                   intro v1 W1 hown1 hg1
                   have hb1' := hb1.grown hg1 (by simp) (own_ge hA)
                   rw [Nat.zero_add, List.nil_append] at hown1
                   have hsz1 := hb1'.size)
                | (at_builtin; refine wpList_append_own _ rfl _ _ 22 rfl wj.heap.size 3 j0 (.int .i64 0) 1 8 under22 hj jz0 jz1 jz2 rfl (by decide) v1 n2 _ rfl (hown1.alloc _) ⟨W1.heap.size, 0, none⟩ 1 1 [.int .i64 (q : Int)] rfl rfl (cell_one_new _ _ _) (ints_oneCell .i64 [(q : Int)]) (by unfold maxLen; omega) (by omega) (by simp; omega) ?_
                   intro v2 W2 hrow2 hg2 _
                   obtain ⟨hb12, a2, c2', rfl, hi2, hln, hall2, hblk⟩ := long_step hb1' hown1 hrow2 hg2 HN2.out.symm hka hkB (by omega) c4
                   have hown2 := own_below2 hown hb12
                   have hb2 := hb.trans (hb12.mono hb.size)
                   have hbW := below_one (w := W2) (.cells #[.slice a2 (n2 + 1) c2'] 22)
                   have hcls := Cls.of_bx (Bx.new W2 #[.slice a2 (n2 + 1) c2'] 22)
                   have hsz2 := hb2.size)
                | (at_builtin; refine wpList_appAt rfl (.tmp 29) (.tmp 39) 99 rfl wo.heap.size 22 i0 (.slice none 0 0) 1 24 under99 hi0 iz0 iz1 iz2 rfl (by decide) u7 p ys rfl (own_below2 hown2 hbW) (some ⟨W2.heap.size, 0, none⟩) 1 1 [.slice a2 (n2 + 1) c2'] rfl rfl hcls (by simp; rfl) (by unfold maxLen; omega) (by omega) (by simp; omega) ?_
                   intro v3 W3 hown3 hg3 hat))
              have hge5 := own_ge2 hown2
              have hlt5 := fun g (h : u7.ownBlock = some g) => (hown.lt g h).2
              have hgt := (World.grownBy_alloc W2 (.cells #[.slice a2 (n2 + 1) c2'] 22) u7.ownBlock).trans hg3
              have hb3 : Below wo.heap.size wo W3 := (hb2.trans (hbW.mono hsz2)).grown hg3 (by simp; omega) (fun k hk => by have := hge5 k hk; omega)
              have hat2 : v3.ownBlock = u7.ownBlock ∨ ∃ g, v3.ownBlock = some g ∧ W2.heap.size ≤ g := by
                rcases hat with h | h
                · exact .inl h
                · exact .inr ⟨_, h, by simp⟩
              have hys3 : Rx W3 0 v3.ownBlock (ys ++ [Value.slice a2 (n2 + 1) c2']) (G ++ partL ks (q + 1)) := by
                have hne : ∀ ad, a2 = some ad → u7.ownBlock ≠ some ad.block := fun ad e e2 => by
                  have h1 := hlt5 _ e2
                  have h2 := hblk ad e
                  omega
                have hnew : Lx W2 0 u7.ownBlock (Value.slice a2 (n2 + 1) c2') (ks ++ [(q : Int)]) := ⟨a2, c2', by rw [hln], hi2, fun ad e => ⟨Nat.zero_le _, by
                  obtain ⟨b', off', e3, hb', _⟩ := hi2.2.2 0 (by omega)
                  rw [e] at e3
                  cases e3
                  exact hb', hne ad e⟩⟩
                rw [partL_next, ← List.append_assoc]
                exact Rx.app (show Rx W3 0 v3.ownBlock [Value.slice a2 (n2 + 1) c2'] [ks ++ [(q : Int)]] from ⟨hnew.gro hgt (fun k hk => hk) hat2, trivial⟩) (Rx.map (fun x ks h => (h.gro (Below.gr' hb12) (fun k hk => by cases hk) (.inl rfl)).gro hgt (fun k hk => hk) hat2) hys)
              have hrow3 : W3.ownsRow wo.heap.size 22 1 v3 (ys ++ [Value.slice a2 (n2 + 1) c2']).length (ys ++ [Value.slice a2 (n2 + 1) c2']) := by
                rw [List.length_append, ← Hp.out]; exact hown3
              clear hown3 hg3 hat hgt hown2 hbW hcls hi2 hb12 hb1 hg2 hown1 hrow2 hown x0 hb c0 c1 c2 hA hcl hcell hks
              go_roundw
              case rel => exact ⟨q + 1, _, by omega, by go_num, by rw [List.length_append, ← Hp.out, Hyl.out]; rfl, hrow3, hb3, hys3⟩
              case measure => simp [intOf]; omega
            · have hqI : (C.length : Int) ≤ (q : Int) := by omega
              have hyl2 : ys.length = (k + 1) * C.length := by rw [← Hp.out, Hyl.out, Nat.succ_mul, show q = C.length by omega]
              rw [Hp.out] at hown
              have HY := hid hyl2
              have hqe : q = C.length := by omega
              rw [hqe, ← HT.out] at hys
              clear hyl2 hqe
              go_wp2
              go_roundw
              case rel => exact ⟨k + 1, ys, by omega, by go_num, HY.out, hown, hb, hys⟩
              case measure => simp [intOf]; omega
        · have hkmI : (m : Int) ≤ (k : Int) := by omega
          have hke : k = m := by omega
          rw [hke, HmL.out, List.take_length] at hxs
          obtain ⟨A2, c2, rfl⟩ := own_slice2 hown
          have hlen := hxs.len
          have hLR := LR_of_own hown hxs hlen
          rw [← HnX.out] at hLR hlen
          have hb' := hbo.trans (hb.mono hbo.size)
          have x0' := x0o.below hb
          have HL := hid hlen
          obtain ⟨m2, hm2e⟩ : ∃ t, t = xs.length := ⟨_, rfl⟩
          rw [← hm2e] at HL ⊢
          clear hown hxs hlen hke hm2e hxl
          go_wp2
          go_roundw
          case rel => exact ⟨i + 1, m2, A2, c2, by omega, by go_num, rfl, HL.out, hLR, hb', x0'⟩
          case measure => simp [intOf]; omega
    · have hltI : (n : Int) ≤ (i : Int) := by omega
      have hie : i = n := by omega
      rw [hie] at hm hL
      have HM := hid hm; have HL := hid hL
      clear hm hL
      go_wp2
      go_ret
      exact ⟨hbo, A, c, by rw [← HM.out]; rfl, HL.out⟩
end Go.Proofs.Ytmkmnedojgigoaa
