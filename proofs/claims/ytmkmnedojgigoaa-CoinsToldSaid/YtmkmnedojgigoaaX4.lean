import Derived.Test.YtmkmnedojgigoaaX3
namespace Go.Proofs.Ytmkmnedojgigoaa
open Go.RowKit

theorem under99 : Try.prog.underlying 99 = some (.slice 22) := by kernel_rfl
theorem info22 : (Try.prog.info? 22).map (fun i => (i.zero, i.size, i.bytes)) = some (some (.slice none 0 0), 1, 24) := by kernel_rfl
theorem long_step {wj W1 W2 : World} {v v2 : Value} {ks : List Int} {n k : Nat} {C : List Int} (hb1 : Below wj.heap.size wj W1) (hrow : W1.ownsRow wj.heap.size 3 1 v n (ks.map (Value.int .i64)))
    (hrow2 : W2.ownsRow wj.heap.size 3 1 v2 (n + 1) (ks.map (Value.int .i64) ++ [.int .i64 (k : Int)])) (hg2 : (W1.alloc (.cells #[.int .i64 (k : Int)] 3)).grownBy W2 v.ownBlock) (hkl : ks.length = n) (hka : ks.all (isKindB C) = true) (hkB : isKindB C (k : Int) = true) (hn : n ≤ 10) (c4 : C.length ≤ 4) :
    Below wj.heap.size wj W2 ∧ ∃ (a2 : Option Addr) (c2 : Nat), v2 = .slice a2 (n + 1) c2 ∧ Ints W2 a2 (ks ++ [(k : Int)]) ∧ (ks ++ [(k : Int)]).length = n + 1 ∧ (ks ++ [(k : Int)]).all (isKindB C) = true ∧ ∀ ad, a2 = some ad → wj.heap.size ≤ ad.block := by
  have hb12 : Below wj.heap.size wj W2 := (hb1.trans ((below_one (w := W1) (.cells #[.int .i64 (k : Int)] 3)).mono hb1.size)).grown hg2 (by have := hb1.size; simp; omega) (own_ge hrow)
  have hln : (ks ++ [(k : Int)]).length = n + 1 := by rw [List.length_append, hkl]; rfl
  have hall2 : (ks ++ [(k : Int)]).all (isKindB C) = true := by rw [List.all_append, hka]; simpa using hkB
  have hrow2' : W2.ownsRow wj.heap.size 3 1 v2 (ks ++ [(k : Int)]).length ((ks ++ [(k : Int)]).map (Value.int .i64)) := by rw [hln]; simpa using hrow2
  have hrng : ∀ x ∈ ks ++ [(k : Int)], -9223372036854775808 ≤ x ∧ x ≤ 9223372036854775807 := fun x hx => by
    have := inR_iff.1 (List.all_eq_true.1 hall2 x hx); omega
  obtain ⟨a2, c2, rfl, hi2⟩ := Ints.of_own hrow2' (by omega) hrng
  exact ⟨hb12, a2, c2, by rw [hln], hi2, hln, hall2, own_new hrow2'⟩

theorem LLs_of_own {w : World} {base : Nat} {A : Option Addr} {c n : Nat} {C : List Int} {own : Option Nat} {xs : List Value} (h : w.ownsRow base 22 1 (.slice A xs.length c) xs.length xs) (hx : ∀ x ∈ xs, HdOk w C n own x) : LLs w A xs.length n C := fun i hi => by
  obtain ⟨g, cap, e⟩ := Go.Joins.ownsRow_form h (by omega)
  simp only [Value.slice.injEq] at e
  obtain ⟨rfl, _, rfl⟩ := e
  have hc := h.cellAt i (by omega)
  rw [List.getElem?_eq_getElem hi] at hc
  obtain ⟨a, c', ks, e1, h2, h3, h4, _⟩ := hx _ (List.getElem_mem hi)
  rw [e1] at hc
  exact ⟨g, 0, rfl, (h.lt g rfl).2, a, c', ks, by rw [Nat.zero_add]; exact hc, h2, h3, h4⟩

def LongPost (C : List Int) (m n : Nat) (w : World) (e : Ending) (w' : World) : Prop :=
  Below w.heap.size w w' ∧ ∃ (A : Option Addr) (c : Nat), e = .returned (.slice A (m * C.length) c) ∧ LLs w' A (m * C.length) (n + 1) C

set_option maxRecDepth 100000 in
set_option maxHeartbeats 3000000 in
theorem longer_any (R : Nat) (an ac ap : Option Addr) (cn cc cp : Nat) (N C P : List Int) (A : Option Addr) (cA m n : Nat) (w : World) (hk : Wk w R an ac ap N C P) (hL : LLs w A m n C) (hm : m ≤ 1024) (hn : n ≤ 10) :
    Calls Try.prog 112 #[.agg #[.int .i64 (R : Int), .slice an N.length cn, .slice ac C.length cc, .slice ap P.length cp], .slice A m cA] w (LongPost C m n w) := by
  obtain ⟨j0, hj, jz0, jz1, jz2⟩ := info_parts info3
  obtain ⟨i0, hi0, iz0, iz1, iz2⟩ := info_parts info22
  have hv := hk.v
  have c4 := hv.c4
  obtain ⟨W, hW, hb, hs, x0⟩ := boxes1 w #[.int .i64 (R : Int), .slice an N.length cn, .slice ac C.length cc, .slice ap P.length cp] 73
  clear hs
  go_enter Try.func112, Try.ntmps112
  go_wp2
  clear hW
  go_loopw [5, 11] (fun v5 v11 wr => ∃ (i : Nat) (xs : List Value), i ≤ m ∧ v11 = .int .i64 (i : Int) ∧ xs.length = i * C.length ∧ wr.ownsRow (w.heap.size + 1) 22 1 v5 xs.length xs ∧ Below w.heap.size w wr ∧ Bx wr w.heap.size #[.int .i64 (R : Int), .slice an N.length cn, .slice ac C.length cc, .slice ap P.length cp] 73 ∧ ∀ x ∈ xs, HdOk wr C (n + 1) v5.ownBlock x) (fun _ v11 _ => m - (intOf v11).toNat)
  case atStart => exact ⟨0, [], Nat.zero_le _, rfl, by simp, World.ownsRow_nil _ _ _ _, hb, x0, fun x hx => by simp at hx⟩
  case round =>
    clear hb x0
    obtain ⟨i, xs, hi, rfl, hxl, hown, hb, x0, hxs⟩ := hrel
    obtain ⟨wo, rfl⟩ : ∃ wo : World, wo = wr := ⟨_, rfl⟩
    by_cases hlt : i < m
    · obtain ⟨b, off, rfl, hbs0, a, c, ks, hcell0, hks0, hkl, hka⟩ := hL i hlt
      have hcell := Below.keep (hb.mono (Nat.le_refl _)) hcell0
      have hbs : b < wo.heap.size := Nat.lt_of_lt_of_le hbs0 hb.size
      have c0 := x0.cell 0 rfl; have c1 := x0.cell 1 rfl; have c2 := x0.cell 2 rfl; have c3 := x0.cell 3 rfl
      have hltI : (i : Int) < (m : Int) := by omega
      have HxL := hid hxl
      have hn1 : i * C.length ≤ 1024 * 4 := Nat.mul_le_mul (by omega) c4
      have hxb : xs.length ≤ 4096 := by omega
      clear hxl
      go_wp2
      go_loopw [5, 19] (fun v5 v19 wj => ∃ (k : Nat) (ys : List Value), k ≤ C.length ∧ v19 = .int .i64 (k : Int) ∧ ys.length = i * C.length + k ∧ wj.ownsRow (w.heap.size + 1) 22 1 v5 ys.length ys ∧ Below w.heap.size w wj ∧ Bx wj w.heap.size #[.int .i64 (R : Int), .slice an N.length cn, .slice ac C.length cc, .slice ap P.length cp] 73 ∧ ∀ x ∈ ys, HdOk wj C (n + 1) v5.ownBlock x) (fun _ v19 _ => C.length - (intOf v19).toNat)
      case atStart => exact ⟨0, xs, Nat.zero_le _, rfl, HxL.out, hown, hb, x0, hxs⟩
      case round =>
        clear hown hb x0 hxs hcell c0 c1 c2 c3 HxL hxb
        obtain ⟨k, ys, hkk, rfl, hyl, hown, hb, x0, hys⟩ := hrel
        obtain ⟨wj, rfl⟩ : ∃ wj : World, wj = wr := ⟨_, rfl⟩
        obtain ⟨p, hp⟩ : ∃ x, x = ys.length := ⟨_, rfl⟩
        rw [← hp] at hown hyl
        have Hp := hid hp; have Hyl := hid hyl
        have hpb : p ≤ 4100 := by omega
        clear hp hyl
        have hl0 := x0.lt
        have hks := hks0.below hb (Nat.le_refl _)
        by_cases hkl2 : k < C.length
        · have hkI : (k : Int) < (C.length : Int) := by omega
          have hkB : isKindB C (k : Int) = true := inR_iff.2 (by omega)
          go_wp2_with fail
          have hcl1 := clone_any a c ks wj hks (by omega)
          rw [hkl] at hcl1
          refine hcl1.mono ?_
          rintro e W1 ⟨hb1, v, rfl, hrow⟩
          rw [hkl] at hrow
          have hge1 := own_ge hrow
          have hsz1 := hb1.size
          clear hcl1
          go_wp2_with (first
            | (at_builtin; refine wpList_append_own _ rfl _ _ 22 rfl wj.heap.size 3 j0 (.int .i64 0) 1 8 under22 hj jz0 jz1 jz2 rfl (by decide) v n _ rfl (hrow.alloc _) ⟨W1.heap.size, 0, none⟩ 1 1 [.int .i64 (k : Int)] rfl rfl (cell_one_new _ _ _) (ints_oneCell .i64 [(k : Int)]) (by unfold maxLen; omega) (by omega) (by simp; omega) ?_
               intro v2 W2 hrow2 hg2 _
               obtain ⟨hb12, a2, c2, rfl, hi2, hln, hall2, hblk⟩ := long_step hb1 hrow hrow2 hg2 hkl hka hkB hn c4
               have hown2 := own_below2 hown hb12
               have hb2 := hb.trans (hb12.mono hb.size)
               have hbW := below_one (w := W2) (.cells #[.slice a2 (n + 1) c2] 22)
               have hcls := Cls.of_bx (Bx.new W2 #[.slice a2 (n + 1) c2] 22)
               have hsz2 := hb2.size)
            | (at_builtin; refine wpList_appAt rfl (.tmp 22) (.tmp 28) 99 rfl (w.heap.size + 1) 22 i0 (.slice none 0 0) 1 24 under99 hi0 iz0 iz1 iz2 rfl (by decide) u5 p ys rfl (own_below2 hown2 hbW) (some ⟨W2.heap.size, 0, none⟩) 1 1 [.slice a2 (n + 1) c2] rfl rfl hcls (by simp; rfl) (by unfold maxLen; omega) (by omega) (by simp; omega) ?_
               intro v3 W3 hown3 hg3 hat))
          have hge5 := own_ge2 hown2
          have hlt5 := fun g (h : u5.ownBlock = some g) => (hown.lt g h).2
          have hgt := (World.grownBy_alloc W2 (.cells #[.slice a2 (n + 1) c2] 22) u5.ownBlock).trans hg3
          have hb3 : Below w.heap.size w W3 := (hb2.trans (hbW.mono hsz2)).grown hg3 (by simp; omega) (fun k hk => by have := hge5 k hk; omega)
          have x03 := ((x0.below hb12).below hbW).gb hg3 (fun k hk => by have := hge5 k hk; omega)
          have hat2 : v3.ownBlock = u5.ownBlock ∨ ∃ g, v3.ownBlock = some g ∧ W2.heap.size ≤ g := by
            rcases hat with h | h
            · exact .inl h
            · exact .inr ⟨_, h, by simp⟩
          have hys3 : ∀ x ∈ ys ++ [Value.slice a2 (n + 1) c2], HdOk W3 C (n + 1) v3.ownBlock x := fun x hx => by
            rcases List.mem_append.1 hx with h | h
            · exact ((hys x h).gro (by omega) (Below.gr' hb12) (fun k hk => by cases hk) (.inl rfl)).gro (by omega) hgt (fun k hk => hk) hat2
            · rw [List.mem_singleton.1 h]
              have hne : ∀ ad, a2 = some ad → u5.ownBlock ≠ some ad.block := fun ad e e2 => by
                have h1 := hlt5 _ e2
                have h2 := hblk ad e
                omega
              refine ⟨a2, c2, ks ++ [(k : Int)], rfl, hi2.gro hgt hne, hln, hall2, fun ad e e2 => ?_⟩
              rcases hat2 with h | ⟨g', h, hg'⟩
              · exact hne ad e (h ▸ e2)
              · rw [h] at e2
                obtain ⟨b', off', e3, hb', _⟩ := hi2.2.2 0 (by omega)
                rw [e] at e3
                cases e3
                cases e2
                simp at hg'; omega
          have hrow3 : W3.ownsRow (w.heap.size + 1) 22 1 v3 (ys ++ [Value.slice a2 (n + 1) c2]).length (ys ++ [Value.slice a2 (n + 1) c2]) := by
            rw [List.length_append, ← Hp.out]; exact hown3
          clear hown3 hg3 hat hgt hown2 hbW hcls hi2 hb12 hb1 hg2 hrow hrow2 hown x0 hb
          go_roundw
          case rel => exact ⟨k + 1, _, by omega, by go_num, by rw [List.length_append, ← Hp.out, Hyl.out]; rfl, hrow3, hb3, x03, hys3⟩
          case measure => simp [intOf]; omega
        · have hkI : (C.length : Int) ≤ (k : Int) := by omega
          have hyl2 : ys.length = (i + 1) * C.length := by rw [← Hp.out, Hyl.out, Nat.succ_mul, show k = C.length by omega]
          rw [Hp.out] at hown
          have HY := hid hyl2
          clear hyl2
          go_wp2
          go_roundw
          case rel => exact ⟨i + 1, ys, by omega, by go_num, HY.out, hown, hb, x0, hys⟩
          case measure => simp [intOf]; omega
    · have hltI : (m : Int) ≤ (i : Int) := by omega
      have him : i = m := by omega
      rw [him] at hxl
      obtain ⟨A2, c2, rfl⟩ := own_slice2 hown
      have HF := hid (And.intro hxl hxs)
      clear hxl hxs
      have hLL := LLs_of_own hown HF.out.2
      have HLL := hid hLL; have HF1 := hid HF.out.1
      clear hLL HF hown
      go_wp2
      go_ret
      exact ⟨hb, A2, c2, by rw [← HF1.out]; rfl, by rw [← HF1.out]; exact HLL.out⟩
end Go.Proofs.Ytmkmnedojgigoaa
