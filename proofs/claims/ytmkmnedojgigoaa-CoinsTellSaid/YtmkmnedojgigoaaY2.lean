import Derived.Test.YtmkmnedojgigoaaY1
namespace Go.Proofs.Ytmkmnedojgigoaa
open Go.RowKit

/-- A value that reads as a list of numbers, whose memory is not that of a row, and not below B. -/
def Lx (w : World) (B : Nat) (own : Option Nat) (x : Value) (ks : List Int) : Prop :=
  ∃ (a : Option Addr) (c : Nat), x = .slice a ks.length c ∧ Ints w a ks ∧ ∀ ad, a = some ad → B ≤ ad.block ∧ ad.block < w.heap.size ∧ own ≠ some ad.block
theorem Lx.gro {w w' : World} {B : Nat} {own own' r : Option Nat} {x : Value} {ks : List Int} (h : Lx w B own x ks) (hg : w.grownBy w' r) (hr : ∀ k, r = some k → own = some k) (ho : own' = own ∨ ∃ k, own' = some k ∧ w.heap.size ≤ k) : Lx w' B own' x ks := by
  obtain ⟨a, c, h1, h2, h3⟩ := h
  refine ⟨a, c, h1, h2.gro hg (fun ad e hh => (h3 ad e).2.2 (hr _ hh)), fun ad e => ?_⟩
  obtain ⟨b1, b2, b3⟩ := h3 ad e
  refine ⟨b1, Nat.lt_of_lt_of_le b2 hg.size, fun e2 => ?_⟩
  rcases ho with rfl | ⟨k, rfl, hk⟩
  · exact b3 e2
  · cases e2; omega
/-- Values that read as lists. -/
def Rx (w : World) (B : Nat) (own : Option Nat) : List Value → List (List Int) → Prop
  | [], [] => True
  | x :: vs, ks :: LL => Lx w B own x ks ∧ Rx w B own vs LL
  | [], _ :: _ => False
  | _ :: _, [] => False
theorem Rx.map {w w' : World} {B B' : Nat} {own own' : Option Nat} (hf : ∀ x ks, Lx w B own x ks → Lx w' B' own' x ks) : ∀ {vs : List Value} {LL : List (List Int)}, Rx w B own vs LL → Rx w' B' own' vs LL
  | [], [], _ => trivial
  | _ :: _, _ :: _, h => ⟨hf _ _ h.1, Rx.map hf h.2⟩
  | [], _ :: _, h => h.elim
  | _ :: _, [], h => h.elim
theorem Rx.app {w : World} {B : Nat} {own : Option Nat} {us : List Value} {MM : List (List Int)} (k : Rx w B own us MM) : ∀ {vs : List Value} {LL : List (List Int)}, Rx w B own vs LL → Rx w B own (vs ++ us) (LL ++ MM)
  | [], [], _ => k
  | _ :: _, _ :: _, h => ⟨h.1, Rx.app k h.2⟩
  | [], _ :: _, h => h.elim
  | _ :: _, [], h => h.elim
theorem Rx.len {w : World} {B : Nat} {own : Option Nat} : ∀ {vs : List Value} {LL : List (List Int)}, Rx w B own vs LL → vs.length = LL.length
  | [], [], _ => rfl
  | _ :: _, _ :: _, h => by simp [Rx.len h.2]
  | [], _ :: _, h => h.elim
  | _ :: _, [], h => h.elim
theorem Rx.at {w : World} {B : Nat} {own : Option Nat} : ∀ {vs : List Value} {LL : List (List Int)}, Rx w B own vs LL → ∀ (i : Nat) (ks : List Int), LL[i]? = some ks → ∃ x, vs[i]? = some x ∧ Lx w B own x ks
  | [], [], _, i, ks, hi => by simp at hi
  | x :: _, k :: _, h, 0, ks, hi => by
    simp at hi; subst hi; exact ⟨x, rfl, h.1⟩
  | _ :: _, _ :: _, h, i + 1, ks, hi => by
    obtain ⟨x, hx, hl⟩ := Rx.at h.2 i ks (by simpa using hi)
    exact ⟨x, by simpa using hx, hl⟩
  | [], _ :: _, h, _, _, _ => h.elim
  | _ :: _, [], h, _, _, _ => h.elim
theorem Rx.one {w : World} {B : Nat} {own : Option Nat} : ∀ {vs : List Value} {LL : List (List Int)}, Rx w B own vs LL → ∀ u ∈ vs, u.oneCell' = true
  | [], [], _, u, hu => by simp at hu
  | x :: _, k :: _, h, u, hu => by
    rcases List.mem_cons.1 hu with rfl | hu
    · obtain ⟨a, c, rfl, -⟩ := h.1; rfl
    · exact Rx.one h.2 u hu
  | [], _ :: _, h, _, _ => h.elim
  | _ :: _, [], h, _, _ => h.elim


/-- A slice that reads as lists. -/
def LR (w : World) (A : Option Addr) (LL : List (List Int)) : Prop :=
  ∀ i ks, LL[i]? = some ks → ∃ b off, A = some ⟨b, off, none⟩ ∧ b < w.heap.size ∧ ∃ (a : Option Addr) (c : Nat), w.cell? ⟨b, off + i, none⟩ = some (.slice a ks.length c) ∧ Ints w a ks
theorem LR.below {w w' : World} {A : Option Addr} {LL : List (List Int)} (h : LR w A LL) (hb : Below w.heap.size w w') : LR w' A LL := fun i ks hi => by
  obtain ⟨b, off, h1, h2, a, c, h3, h4⟩ := h i ks hi
  exact ⟨b, off, h1, Nat.lt_of_lt_of_le h2 hb.size, a, c, Below.keep hb h3, h4.below hb (Nat.le_refl _)⟩
theorem lt_of_some {α : Type} {l : List α} {i : Nat} {x : α} (h : l[i]? = some x) : i < l.length := by
  rcases Nat.lt_or_ge i l.length with h2 | h2
  · exact h2
  · rw [List.getElem?_eq_none h2] at h; cases h
theorem LR_of_own {w : World} {base B : Nat} {A : Option Addr} {c n : Nat} {own : Option Nat} {xs : List Value} {LL : List (List Int)} (h : w.ownsRow base 22 1 (.slice A n c) n xs) (hx : Rx w B own xs LL) (hn : n = LL.length) : LR w A LL := fun i ks hi => by
  have hl := lt_of_some hi
  obtain ⟨x, hxi, a, c', rfl, h2, -⟩ := hx.at i ks hi
  obtain ⟨g, cap, e⟩ := Go.Joins.ownsRow_form h (by omega)
  simp only [Value.slice.injEq] at e
  obtain ⟨rfl, _, rfl⟩ := e
  exact ⟨g, 0, rfl, (h.lt g rfl).2, a, c', by rw [Nat.zero_add, h.cellAt i (by omega)]; exact hxi, h2⟩
/-- One more kind behind each list. -/
def nextL (C : List Int) (LL : List (List Int)) : List (List Int) := LL.flatMap fun (l : List Int) => (List.range C.length).map fun (k : Nat) => l ++ [(k : Int)]
/-- All lists of so many kinds. -/
def levL (C : List Int) : Nat → List (List Int)
  | 0 => [[]]
  | i + 1 => nextL C (levL C i)
/-- The first of the lists that one becomes. -/
def partL (ks : List Int) (k : Nat) : List (List Int) := (List.range k).map fun (k : Nat) => ks ++ [(k : Int)]
theorem partL_next (ks : List Int) (k : Nat) : partL ks (k + 1) = partL ks k ++ [ks ++ [(k : Int)]] := by simp [partL, List.range_succ]
theorem partL_len (ks : List Int) (k : Nat) : (partL ks k).length = k := by simp [partL]
theorem nextL_take {C : List Int} {LL : List (List Int)} {i : Nat} {ks : List Int} (h : LL[i]? = some ks) : nextL C (LL.take (i + 1)) = nextL C (LL.take i) ++ partL ks C.length := by
  rw [List.take_add_one, h]
  simp [nextL, partL]
theorem nextL_len (C : List Int) : ∀ LL : List (List Int), (nextL C LL).length = LL.length * C.length
  | [] => by simp [nextL]
  | l :: LL => by
    have := nextL_len C LL
    unfold nextL at this ⊢
    rw [List.flatMap_cons, List.length_append, this]
    simp [Nat.succ_mul, Nat.add_comm]
theorem lev_mem {C : List Int} : ∀ (i : Nat) (l : List Int), l ∈ levL C i → l.length = i ∧ l.all (isKindB C) = true
  | 0, l, h => by
    have e : l = [] := by simpa [levL] using h
    subst e; exact ⟨rfl, rfl⟩
  | i + 1, l, h => by
    simp only [levL, nextL, List.mem_flatMap, List.mem_map, List.mem_range] at h
    obtain ⟨m, hm, k, hk, rfl⟩ := h
    obtain ⟨h1, h2⟩ := lev_mem i m hm
    refine ⟨by simp [h1], ?_⟩
    rw [List.all_append, h2]
    have : isKindB C (k : Int) = true := inR_iff.2 (by omega)
    simpa using this
theorem lev_len {C : List Int} (h : C.length ≤ 4) : ∀ i, (levL C i).length ≤ 4 ^ i
  | 0 => by simp [levL]
  | i + 1 => by
    rw [levL, nextL_len, Nat.pow_succ]
    exact Nat.mul_le_mul (lev_len h i) h

def LongE (C : List Int) (LL : List (List Int)) (w : World) (e : Ending) (w' : World) : Prop :=
  Below w.heap.size w w' ∧ ∃ (A : Option Addr) (c : Nat), e = .returned (.slice A (nextL C LL).length c) ∧ LR w' A (nextL C LL)

set_option maxRecDepth 100000 in
set_option maxHeartbeats 3000000 in
theorem longer_ex (R : Nat) (an ac ap : Option Addr) (cn cc cp : Nat) (N C P : List Int) (A : Option Addr) (cA m n : Nat) (LL : List (List Int)) (w : World) (hk : Wk w R an ac ap N C P) (hL : LR w A LL) (hLn : ∀ l ∈ LL, l.length = n ∧ l.all (isKindB C) = true) (hmL : m = LL.length) (hm : m ≤ 1024) (hn : n ≤ 10) :
    Calls Try.prog 112 #[.agg #[.int .i64 (R : Int), .slice an N.length cn, .slice ac C.length cc, .slice ap P.length cp], .slice A m cA] w (LongE C LL w) := by
  obtain ⟨j0, hj, jz0, jz1, jz2⟩ := info_parts info3
  obtain ⟨i0, hi0, iz0, iz1, iz2⟩ := info_parts info22
  have HmL := hid hmL; clear hmL
  have hv := hk.v
  have c4 := hv.c4
  obtain ⟨W, hW, hb, hs, x0⟩ := boxes1 w #[.int .i64 (R : Int), .slice an N.length cn, .slice ac C.length cc, .slice ap P.length cp] 73
  clear hs
  go_enter Try.func112, Try.ntmps112
  go_wp2
  clear hW
  go_loopw [5, 11] (fun v5 v11 wr => ∃ (i : Nat) (xs : List Value), i ≤ m ∧ v11 = .int .i64 (i : Int) ∧ xs.length = i * C.length ∧ wr.ownsRow (w.heap.size + 1) 22 1 v5 xs.length xs ∧ Below w.heap.size w wr ∧ Bx wr w.heap.size #[.int .i64 (R : Int), .slice an N.length cn, .slice ac C.length cc, .slice ap P.length cp] 73 ∧ Rx wr 0 v5.ownBlock xs (nextL C (LL.take i))) (fun _ v11 _ => m - (intOf v11).toNat)
  case atStart => exact ⟨0, [], Nat.zero_le _, rfl, by simp, World.ownsRow_nil _ _ _ _, hb, x0, by simp [nextL, Rx]⟩
  case round =>
    clear hb x0
    obtain ⟨i, xs, hi, rfl, hxl, hown, hb, x0, hxs⟩ := hrel
    obtain ⟨wo, rfl⟩ : ∃ wo : World, wo = wr := ⟨_, rfl⟩
    by_cases hlt : i < m
    · obtain ⟨ks, hks⟩ : ∃ ks, LL[i]? = some ks := ⟨LL[i]'(by have := HmL.out; omega), by have := HmL.out; simp⟩
      obtain ⟨hkl, hka⟩ := hLn ks (List.mem_of_getElem? hks)
      obtain ⟨b, off, rfl, hbs0, a, c, hcell0, hks0⟩ := hL i ks hks
      rw [hkl] at hcell0
      have HT := hid (nextL_take (C := C) hks)
      clear hks
      obtain ⟨G, hG⟩ : ∃ G, G = nextL C (LL.take i) := ⟨_, rfl⟩
      rw [← hG] at hxs HT
      clear hG
      have hcell := Below.keep (hb.mono (Nat.le_refl _)) hcell0
      have hbs : b < wo.heap.size := Nat.lt_of_lt_of_le hbs0 hb.size
      have c0 := x0.cell 0 rfl; have c1 := x0.cell 1 rfl; have c2 := x0.cell 2 rfl; have c3 := x0.cell 3 rfl
      have hltI : (i : Int) < (m : Int) := by omega
      have HxL := hid hxl
      have hn1 : i * C.length ≤ 1024 * 4 := Nat.mul_le_mul (by omega) c4
      have hxb : xs.length ≤ 4096 := by omega
      clear hxl
      go_wp2
      go_loopw [5, 19] (fun v5 v19 wj => ∃ (k : Nat) (ys : List Value), k ≤ C.length ∧ v19 = .int .i64 (k : Int) ∧ ys.length = i * C.length + k ∧ wj.ownsRow (w.heap.size + 1) 22 1 v5 ys.length ys ∧ Below w.heap.size w wj ∧ Bx wj w.heap.size #[.int .i64 (R : Int), .slice an N.length cn, .slice ac C.length cc, .slice ap P.length cp] 73 ∧ Rx wj 0 v5.ownBlock ys (G ++ partL ks k)) (fun _ v19 _ => C.length - (intOf v19).toNat)
      case atStart => exact ⟨0, xs, Nat.zero_le _, rfl, HxL.out, hown, hb, x0, by simpa [partL] using hxs⟩
      case round =>
        clear hown hb x0 hxs hcell c0 c1 c2 c3 HxL hxb
        obtain ⟨k, ys, hkk, rfl, hyl, hown, hb, x0, hys⟩ := hrel
        obtain ⟨wj, rfl⟩ : ∃ wj : World, wj = wr := ⟨_, rfl⟩
        obtain ⟨p, hp⟩ : ∃ x, x = ys.length := ⟨_, rfl⟩
        rw [← hp] at hown hyl
        have Hp := hid hp; have Hyl := hid hyl
        have hpb : p ≤ 4100 := by omega
        clear hp hyl
        have hl0 := x0.lt
        have hks := hks0.below hb (Nat.le_refl _)
        by_cases hkl2 : k < C.length
        · have hkI : (k : Int) < (C.length : Int) := by omega
          have hkB : isKindB C (k : Int) = true := inR_iff.2 (by omega)
          go_wp2_with fail
          have hcl1 := clone_any a c ks wj hks (by omega)
          rw [hkl] at hcl1
          refine hcl1.mono ?_
          rintro e W1 ⟨hb1, v, rfl, hrow⟩
          rw [hkl] at hrow
          have hge1 := own_ge hrow
          have hsz1 := hb1.size
          clear hcl1
          go_wp2_with (first
            | (at_builtin; refine wpList_append_own _ rfl _ _ 22 rfl wj.heap.size 3 j0 (.int .i64 0) 1 8 under22 hj jz0 jz1 jz2 rfl (by decide) v n _ rfl (hrow.alloc _) ⟨W1.heap.size, 0, none⟩ 1 1 [.int .i64 (k : Int)] rfl rfl (cell_one_new _ _ _) (ints_oneCell .i64 [(k : Int)]) (by unfold maxLen; omega) (by omega) (by simp; omega) ?_
               intro v2 W2 hrow2 hg2 _
               obtain ⟨hb12, a2, c2, rfl, hi2, hln, hall2, hblk⟩ := long_step hb1 hrow hrow2 hg2 hkl hka hkB hn c4
               have hown2 := own_below2 hown hb12
               have hb2 := hb.trans (hb12.mono hb.size)
               have hbW := below_one (w := W2) (.cells #[.slice a2 (n + 1) c2] 22)
               have hcls := Cls.of_bx (Bx.new W2 #[.slice a2 (n + 1) c2] 22)
               have hsz2 := hb2.size)
            | (at_builtin; refine wpList_appAt rfl (.tmp 22) (.tmp 28) 99 rfl (w.heap.size + 1) 22 i0 (.slice none 0 0) 1 24 under99 hi0 iz0 iz1 iz2 rfl (by decide) u5 p ys rfl (own_below2 hown2 hbW) (some ⟨W2.heap.size, 0, none⟩) 1 1 [.slice a2 (n + 1) c2] rfl rfl hcls (by simp; rfl) (by unfold maxLen; omega) (by omega) (by simp; omega) ?_
               intro v3 W3 hown3 hg3 hat))
          have hge5 := own_ge2 hown2
          have hlt5 := fun g (h : u5.ownBlock = some g) => (hown.lt g h).2
          have hgt := (World.grownBy_alloc W2 (.cells #[.slice a2 (n + 1) c2] 22) u5.ownBlock).trans hg3
          have hb3 : Below w.heap.size w W3 := (hb2.trans (hbW.mono hsz2)).grown hg3 (by simp; omega) (fun k hk => by have := hge5 k hk; omega)
          have x03 := ((x0.below hb12).below hbW).gb hg3 (fun k hk => by have := hge5 k hk; omega)
          have hat2 : v3.ownBlock = u5.ownBlock ∨ ∃ g, v3.ownBlock = some g ∧ W2.heap.size ≤ g := by
            rcases hat with h | h
            · exact .inl h
            · exact .inr ⟨_, h, by simp⟩
          have hys3 : Rx W3 0 v3.ownBlock (ys ++ [Value.slice a2 (n + 1) c2]) (G ++ partL ks (k + 1)) := by
            have hne : ∀ ad, a2 = some ad → u5.ownBlock ≠ some ad.block := fun ad e e2 => by
              have h1 := hlt5 _ e2
              have h2 := hblk ad e
              omega
            have hnew : Lx W2 0 u5.ownBlock (Value.slice a2 (n + 1) c2) (ks ++ [(k : Int)]) := ⟨a2, c2, by rw [hln], hi2, fun ad e => ⟨Nat.zero_le _, by
              obtain ⟨b', off', e3, hb', _⟩ := hi2.2.2 0 (by omega)
              rw [e] at e3
              cases e3
              exact hb', hne ad e⟩⟩
            rw [partL_next, ← List.append_assoc]
            exact Rx.app (show Rx W3 0 v3.ownBlock [Value.slice a2 (n + 1) c2] [ks ++ [(k : Int)]] from ⟨hnew.gro hgt (fun k hk => hk) hat2, trivial⟩) (Rx.map (fun x ks h => (h.gro (Below.gr' hb12) (fun k hk => by cases hk) (.inl rfl)).gro hgt (fun k hk => hk) hat2) hys)
          have hrow3 : W3.ownsRow (w.heap.size + 1) 22 1 v3 (ys ++ [Value.slice a2 (n + 1) c2]).length (ys ++ [Value.slice a2 (n + 1) c2]) := by
            rw [List.length_append, ← Hp.out]; exact hown3
          clear hown3 hg3 hat hgt hown2 hbW hcls hi2 hb12 hb1 hg2 hrow hrow2 hown x0 hb
          go_roundw
          case rel => exact ⟨k + 1, _, by omega, by go_num, by rw [List.length_append, ← Hp.out, Hyl.out]; rfl, hrow3, hb3, x03, hys3⟩
          case measure => simp [intOf]; omega
        · have hkI : (C.length : Int) ≤ (k : Int) := by omega
          have hyl2 : ys.length = (i + 1) * C.length := by rw [← Hp.out, Hyl.out, Nat.succ_mul, show k = C.length by omega]
          rw [Hp.out] at hown
          have HY := hid hyl2
          have hkC : k = C.length := by omega
          rw [hkC, ← HT.out] at hys
          clear hyl2 hkC
          go_wp2
          go_roundw
          case rel => exact ⟨i + 1, ys, by omega, by go_num, HY.out, hown, hb, x0, hys⟩
          case measure => simp [intOf]; omega
    · have hltI : (m : Int) ≤ (i : Int) := by omega
      have him : i = m := by omega
      rw [him, HmL.out, List.take_length] at hxs
      obtain ⟨A2, c2, rfl⟩ := own_slice2 hown
      have hlen := hxs.len
      have HLL := hid (LR_of_own hown hxs hlen)
      have HF1 := hid hlen
      clear hxl hxs hlen hown him
      go_wp2
      go_ret
      exact ⟨hb, A2, c2, by rw [← HF1.out]; rfl, HLL.out⟩
end Go.Proofs.Ytmkmnedojgigoaa
