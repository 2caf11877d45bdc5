import Derived.Test.YtipdohpbilabiaaQ6
import Derived.Test.YtipdohpbilabiaaN8
/-! Clone: where the parts of the copy lie. -/
namespace Go.Proofs.Ytipdohpbilabiaa
set_option linter.unusedSimpArgs false
set_option linter.unusedVariables false
open Go Go.RowKit

/-- Rows of numbers in memory of the call's own, in blocks from B up to T. -/
def LssT (w : World) (B T : Nat) (v : Value) (LL : List (List Int)) : Prop := T ≤ w.heap.size ∧ ∃ a c vs, v = .slice a LL.length c ∧ w.ownsRow B 23 1 v LL.length vs ∧ (∀ q, v.ownBlock = some q → q < T) ∧ Rc w v.ownBlock B T vs LL
theorem LssT.below {w w' : World} {B T : Nat} {v : Value} {LL : List (List Int)} (h : LssT w B T v LL) (hb : Below w.heap.size w w') : LssT w' B T v LL := by
  obtain ⟨h0, a, c, vs, rfl, h1, h2, h3⟩ := h
  exact ⟨Nat.le_trans h0 hb.size, a, c, vs, rfl, own_below2 h1 hb, h2, h3.gro (Below.gr' hb) (fun k hk => by cases hk) (.inl rfl)⟩
theorem Ls.out {w w' : World} {own : Option Nat} {B T b0 : Nat} {x : Value} {ks : List Int} (h : Ls w own B T x ks) (hb : b0 < B ∨ T ≤ b0) (hg : w.grownBy w' (some b0)) : Ls w' own B T x ks := by
  obtain ⟨h0, a, c, rfl, h2, h3⟩ := h
  refine ⟨own_keep h0 hg (fun k hk e => ?_), a, c, rfl, h2.gro hg (fun ad e hh => ?_), fun ad e => ?_⟩
  · cases a with
    | none => simp [Value.ownBlock] at hk
    | some ad =>
      have hk' : ad.block = k := by simpa [Value.ownBlock] using hk
      have := h3 ad rfl
      cases e; omega
  · have := h3 ad e
    cases hh; omega
  · obtain ⟨b1, b2, b3, b4⟩ := h3 ad e
    exact ⟨b1, b2, Nat.lt_of_lt_of_le b3 hg.size, b4⟩
theorem Rc.out {w w' : World} {own : Option Nat} {b0 : Nat} (hg : w.grownBy w' (some b0)) : ∀ {vs : List Value} {LL : List (List Int)} {B T : Nat}, (b0 < B ∨ T ≤ b0) → Rc w own B T vs LL → Rc w' own B T vs LL
  | [], [], _, _, _, h => h
  | _ :: _, _ :: _, _, _, hb, ⟨M, hm, h1, h2⟩ => ⟨M, hm, h1.out (by have := h2.le; omega) hg, Rc.out hg (by omega) h2⟩
  | [], _ :: _, _, _, _, h => h.elim
  | _ :: _, [], _, _, _, h => h.elim
theorem LssT.out {w w' : World} {B T b0 : Nat} {v : Value} {LL : List (List Int)} (h : LssT w B T v LL) (hb : b0 < B ∨ T ≤ b0) (hg : w.grownBy w' (some b0)) : LssT w' B T v LL := by
  obtain ⟨h0, a, c, vs, rfl, h1, h2, h3⟩ := h
  refine ⟨Nat.le_trans h0 hg.size, a, c, vs, rfl, own_keep h1 hg (fun k hk e => ?_), h2, h3.out hg hb⟩
  have e1 := own_ge2 h1 k hk
  have e2 := h2 k hk
  cases e; omega
theorem LssT.base {w : World} {B B' T : Nat} {v : Value} {LL : List (List Int)} (h : LssT w B T v LL) (hb : B' ≤ B) : LssT w B' T v LL := by
  obtain ⟨h0, a, c, vs, rfl, h1, h2, h3⟩ := h
  exact ⟨h0, a, c, vs, rfl, own_base h1 hb, h2, h3.base hb⟩
theorem LssT.lss {w : World} {B T : Nat} {v : Value} {LL : List (List Int)} (h : LssT w B T v LL) (hl : LL.length ≤ 1000) : ∃ a c, v = .slice a LL.length c ∧ Lss w a LL := by
  obtain ⟨_, a, c, vs, rfl, h1, _, h2⟩ := h
  exact ⟨a, c, rfl, h2.lss h1 (by omega)⟩
theorem LssT.of_clone {V w' : World} {LL : List (List Int)} {a : Option Addr} {c : Nat} {vs : List Value} (h1 : w'.ownsRow V.heap.size 23 1 (.slice a LL.length c) LL.length vs) (h2 : Rc w' (Value.slice a LL.length c).ownBlock V.heap.size w'.heap.size vs LL) : LssT w' V.heap.size w'.heap.size (.slice a LL.length c) LL :=
  ⟨Nat.le_refl _, a, c, vs, rfl, h1, fun q hq => (h1.lt q hq).2, h2⟩
theorem LssT.up {w : World} {B T T' : Nat} {v : Value} {LL : List (List Int)} (h : LssT w B T v LL) (hT : T ≤ T') (hw : T' ≤ w.heap.size) : LssT w B T' v LL := by
  obtain ⟨h0, a, c, vs, rfl, h1, h2, h3⟩ := h
  exact ⟨hw, a, c, vs, rfl, h1, fun q hq => Nat.lt_of_lt_of_le (h2 q hq) hT, h3.up hT⟩
/-- Where what the first parts of a copy hold lies. -/
structure CM2 (w : World) (B : Nat) (v2 v6 : Value) (X : Sw) (T6 : Nat) : Prop where
  ex : ∃ T2, T2 ≤ T6 ∧ T6 ≤ w.heap.size ∧ LssT w B T2 v2 X.bs ∧ w.ownsRow B 3 1 v6 X.st.length (X.st.map (Value.int .i64)) ∧ (0 < X.st.length → ∀ q, v6.ownBlock = some q → T2 ≤ q ∧ q < T6)
theorem CM2.below {w w' : World} {B : Nat} {v2 v6 : Value} {X : Sw} {T6 : Nat} (h : CM2 w B v2 v6 X T6) (hb : Below w.heap.size w w') : CM2 w' B v2 v6 X T6 := by
  obtain ⟨T2, h1, h2, h3, h4, h5⟩ := h.ex
  exact ⟨T2, h1, Nat.le_trans h2 hb.size, h3.below hb, own_below2 h4 hb, h5⟩
theorem CM2.up {w : World} {B : Nat} {v2 v6 : Value} {X : Sw} {T6 T : Nat} (h : CM2 w B v2 v6 X T6) (hT : T6 ≤ T) (hw : T ≤ w.heap.size) : CM2 w B v2 v6 X T := by
  obtain ⟨T2, h1, h2, h3, h4, h5⟩ := h.ex
  exact ⟨T2, Nat.le_trans h1 hT, hw, h3, h4, fun hn q hq => ⟨(h5 hn q hq).1, Nat.lt_of_lt_of_le (h5 hn q hq).2 hT⟩⟩
theorem CM2.low {w w' : World} {B b0 : Nat} {v2 v6 : Value} {X : Sw} {T6 : Nat} (h : CM2 w B v2 v6 X T6) (hg : w.grownBy w' (some b0)) (hb : b0 < B) : CM2 w' B v2 v6 X T6 := by
  obtain ⟨T2, h1, h2, h3, h4, h5⟩ := h.ex
  exact ⟨T2, h1, Nat.le_trans h2 hg.size, h3.out (.inl hb) hg, own_keep h4 hg (fun k hk e => by have := own_ge2 h4 k hk; cases e; omega), h5⟩
/-- The memory of a copy. -/
structure CMem (w : World) (B : Nat) (v2 v6 v9 v13 : Value) (X : Sw) : Prop where
  ex : ∃ T6 T9, CM2 w B v2 v6 X T6 ∧ LssT w T6 T9 v9 X.er ∧ w.ownsRow B 55 2 v13 X.ks.length (pcells X.ks) ∧ (0 < X.ks.length → ∀ q, v13.ownBlock = some q → T9 ≤ q) ∧ B ≤ T6
theorem CMem.below {w w' : World} {B : Nat} {v2 v6 v9 v13 : Value} {X : Sw} (h : CMem w B v2 v6 v9 v13 X) (hb : Below w.heap.size w w') : CMem w' B v2 v6 v9 v13 X := by
  obtain ⟨T6, T9, h1, h2, h3, h4, h5⟩ := h.ex
  exact ⟨T6, T9, h1.below hb, h2.below hb, own_below2 h3 hb, h4, h5⟩
theorem CMem.low {w w' : World} {B b0 : Nat} {v2 v6 v9 v13 : Value} {X : Sw} (h : CMem w B v2 v6 v9 v13 X) (hg : w.grownBy w' (some b0)) (hb : b0 < B) : CMem w' B v2 v6 v9 v13 X := by
  obtain ⟨T6, T9, h1, h2, h3, h4, h5⟩ := h.ex
  exact ⟨T6, T9, h1.low hg hb, h2.out (.inl (by omega)) hg, own_keep h3 hg (fun k hk e => by have := own_ge2 h3 k hk; cases e; omega), h4, h5⟩
theorem CMem.swp {w : World} {B : Nat} {v2 v6 v9 v13 : Value} {X : Sw} (h : CMem w B v2 v6 v9 v13 X) (h1 : X.bs.length ≤ 1000) (h2 : X.st.length ≤ 1000) (h3 : X.er.length ≤ 1000) (h4 : X.ks.length ≤ 1000) (h5 : ∀ x ∈ X.st, -9223372036854775808 ≤ x ∧ x ≤ 9223372036854775807) (h6 : ∀ x ∈ X.ks, -9223372036854775808 ≤ x.1 ∧ x.1 ≤ 9223372036854775807 ∧ -9223372036854775808 ≤ x.2 ∧ x.2 ≤ 9223372036854775807) : ∃ (ab ast ae ak : Option Addr) (cb cs ce ck : Nat), v2 = .slice ab X.bs.length cb ∧ v6 = .slice ast X.st.length cs ∧ v9 = .slice ae X.er.length ce ∧ v13 = .slice ak X.ks.length ck ∧ Swp w ab ast ae ak X := by
  obtain ⟨T6, T9, ⟨T2, _, _, g2, g6, _⟩, g9, g13, _⟩ := h.ex
  obtain ⟨a1, c1, e1, l1⟩ := g2.lss h1
  obtain ⟨a2, c2, e2, l2⟩ := Ints.of_own g6 (by omega) h5
  obtain ⟨a3, c3, e3, l3⟩ := g9.lss h3
  obtain ⟨a4, c4, e4, l4⟩ := Prs.of_own g13 (by omega) h6
  exact ⟨a1, a2, a3, a4, c1, c2, c3, c4, e1, e2, e3, e4, l1, l2, l3, l4⟩
/-- What Clone's parts are. -/
def clmF (B : Nat) (X : Sw) : Nat → (Nat → Value) → World → Prop
  | 2, u, w' => ∃ T, LssT w' B T (u 2) X.bs
  | 3, u, w' => ∃ g, u 3 = .slice (some ⟨g, 0, none⟩) 0 0 ∧ w'.ownsRow B 3 1 (u 3) 0 []
  | 6, u, w' => ∃ T6, CM2 w' B (u 2) (u 6) X T6
  | 9, u, w' => ∃ T6 T9, CM2 w' B (u 2) (u 6) X T6 ∧ LssT w' T6 T9 (u 9) X.er ∧ B ≤ T6
  | 10, u, w' => ∃ g, u 10 = .slice (some ⟨g, 0, none⟩) 0 0 ∧ w'.ownsRow B 55 2 (u 10) 0 []
  | 13, u, w' => CMem w' B (u 2) (u 6) (u 9) (u 13) X
  | _, _, _ => True
theorem clmF_below (B : Nat) (X : Sw) (j : Nat) (u : Nat → Value) (w1 w2 : World) (h : clmF B X j u w1) (hb : Below w1.heap.size w1 w2) : clmF B X j u w2 := by
  unfold clmF at h ⊢
  split at h
  · obtain ⟨T, h⟩ := h; exact ⟨T, h.below hb⟩
  · obtain ⟨g, e, h⟩ := h; exact ⟨g, e, own_below2 h hb⟩
  · obtain ⟨T, h⟩ := h; exact ⟨T, h.below hb⟩
  · obtain ⟨T, T', h1, h2, h3⟩ := h; exact ⟨T, T', h1.below hb, h2.below hb, h3⟩
  · obtain ⟨g, e, h⟩ := h; exact ⟨g, e, own_below2 h hb⟩
  · exact h.below hb
  · trivial
def clmS (w : World) (s0 : Nat) (ab ast ae ak : Option Addr) (cb cs ce ck : Nat) (X : Sw) (w' : World) : Prop := s0 + 2 ≤ w'.heap.size ∧ Bx w' s0 #[.slice ab X.bs.length cb, .slice ast X.st.length cs, .slice ae X.er.length ce, .slice ak X.ks.length ck, .int .i64 X.ch] 26 ∧ Bx w' (s0 + 1) #[.slice none 0 0, .slice none 0 0, .slice none 0 0, .slice none 0 0, .int .i64 0] 26 ∧ Swp w' ab ast ae ak X ∧ Below s0 w w'

set_option maxRecDepth 100000 in
set_option maxHeartbeats 4000000 in
theorem CloneM_any (ab ast ae ak : Option Addr) (cb cs ce ck : Nat) (X : Sw) (w : World) (hX : Swp w ab ast ae ak X) (hB1 : X.bs.length ≤ 1000) (hB2 : ∀ l ∈ X.bs, l.length ≤ 1000) (hS1 : X.st.length ≤ 1000) (hE1 : X.er.length ≤ 1000) (hE2 : ∀ l ∈ X.er, l.length ≤ 1000) (hK1 : X.ks.length ≤ 1000) : Calls Try.prog 15 #[.agg #[.slice ab X.bs.length cb, .slice ast X.st.length cs, .slice ae X.er.length ce, .slice ak X.ks.length ck, .int .i64 X.ch]] w fun e w' => Below w.heap.size w w' ∧ ∃ (ab' ast' ae' ak' : Option Addr) (cb' cs' ce' ck' : Nat), e = .returned (.agg #[.slice ab' X.bs.length cb', .slice ast' X.st.length cs', .slice ae' X.er.length ce', .slice ak' X.ks.length ck', .int .i64 X.ch]) ∧ CMem w' (w.heap.size + 2) (.slice ab' X.bs.length cb') (.slice ast' X.st.length cs') (.slice ae' X.er.length ce') (.slice ak' X.ks.length ck') X := by
  obtain ⟨j0, hj, jz0, jz1, jz2⟩ := info_parts info3i
  obtain ⟨i0, hi0, iz0, iz1, iz2⟩ := info_parts info55
  obtain ⟨W, hW, hb, _, x0, x1⟩ := boxes2 w #[.slice ab X.bs.length cb, .slice ast X.st.length cs, .slice ae X.er.length ce, .slice ak X.ks.length ck, .int .i64 X.ch] 26 #[.slice none 0 0, .slice none 0 0, .slice none 0 0, .slice none 0 0, .int .i64 0] 26
  have hXW := hX.below hb (Nat.le_refl _)
  have hcb := fun V (h : Swp V ab ast ae ak X) => CloneLists_any ab cb X.bs V h.1 hB1 hB2
  have hce := fun V (h : Swp V ab ast ae ak X) => CloneLists_any ae ce X.er V h.2.2.1 hE1 hE2
  go_enter Try.func15, Try.ntmps15
  go_upto_region 1 with fail
  obtain ⟨s0, hs0⟩ : ∃ s0, s0 = w.heap.size := ⟨_, rfl⟩
  rw [← hs0] at x0 x1 hb ⊢
  have HS0 := hid hs0
  have hs1 : s0 ≤ W.heap.size := by rw [hs0]; exact hb.size
  have hbd := (Below.refl W.heap.size W).drew
  have S0 : clmS w s0 ab ast ae ak cb cs ce ck X W.drew := ⟨by have := x1.lt; have e : W.drew.heap.size = W.heap.size := rfl; omega, x0.below hbd, x1.below hbd, hXW.below hbd (Nat.le_refl _), hb.trans (hbd.mono hs1)⟩
  clear hs0 hbd x0 x1 hXW hb hX hB2 hE2 hW hs1
  refine wp_region_head 17 (clmS w s0 ab ast ae ak cb cs ce ck X) (by kernel_rfl) rfl ?_
  generalize W.drew = Y0 at *
  refine HeadAt.take (i := 0) (.pointer (some ⟨s0, 0, none⟩)) rfl (by kernel_rfl) (.inl ⟨rfl, fun _ _ => by simp [go_sem]⟩) S0 ?_
  (try simp only [Act.put, List.getElem_toArray, List.getElem_cons_succ, List.getElem_cons_zero, List.setIfInBounds_toArray, List.set_cons_succ, List.set_cons_zero])
  refine HeadAt.take (i := 1) (.slice ab X.bs.length cb) rfl (by kernel_rfl) (.inl ⟨rfl, fun w' z => ?_⟩) S0 ?_
  · (have z0 := z.2.1.cell 0 rfl; simp [go_sem, z0])
  refine HeadAt.take (i := 4) (.pointer (some ⟨s0, 1, none⟩)) rfl (by kernel_rfl) (.inl ⟨rfl, fun _ _ => by simp [go_sem]⟩) S0 ?_
  (try simp only [Act.put, List.getElem_toArray, List.getElem_cons_succ, List.getElem_cons_zero, List.setIfInBounds_toArray, List.set_cons_succ, List.set_cons_zero])
  refine HeadAt.take (i := 5) (.slice ast X.st.length cs) rfl (by kernel_rfl) (.inl ⟨rfl, fun w' z => ?_⟩) S0 ?_
  · (have z0 := z.2.1.cell 1 rfl; simp [go_sem, z0])
  refine HeadAt.take (i := 7) (.pointer (some ⟨s0, 2, none⟩)) rfl (by kernel_rfl) (.inl ⟨rfl, fun _ _ => by simp [go_sem]⟩) S0 ?_
  (try simp only [Act.put, List.getElem_toArray, List.getElem_cons_succ, List.getElem_cons_zero, List.setIfInBounds_toArray, List.set_cons_succ, List.set_cons_zero])
  refine HeadAt.take (i := 8) (.slice ae X.er.length ce) rfl (by kernel_rfl) (.inl ⟨rfl, fun w' z => ?_⟩) S0 ?_
  · (have z0 := z.2.1.cell 2 rfl; simp [go_sem, z0])
  refine HeadAt.take (i := 11) (.pointer (some ⟨s0, 3, none⟩)) rfl (by kernel_rfl) (.inl ⟨rfl, fun _ _ => by simp [go_sem]⟩) S0 ?_
  (try simp only [Act.put, List.getElem_toArray, List.getElem_cons_succ, List.getElem_cons_zero, List.setIfInBounds_toArray, List.set_cons_succ, List.set_cons_zero])
  refine HeadAt.take (i := 12) (.slice ak X.ks.length ck) rfl (by kernel_rfl) (.inl ⟨rfl, fun w' z => ?_⟩) S0 ?_
  · (have z0 := z.2.1.cell 3 rfl; simp [go_sem, z0])
  refine HeadAt.take (i := 14) (.pointer (some ⟨s0, 4, none⟩)) rfl (by kernel_rfl) (.inl ⟨rfl, fun _ _ => by simp [go_sem]⟩) S0 ?_
  (try simp only [Act.put, List.getElem_toArray, List.getElem_cons_succ, List.getElem_cons_zero, List.setIfInBounds_toArray, List.set_cons_succ, List.set_cons_zero])
  refine HeadAt.take (i := 15) (.int .i64 X.ch) rfl (by kernel_rfl) (.inl ⟨rfl, fun w' z => ?_⟩) S0 ?_
  · (have z0 := z.2.1.cell 4 rfl; simp [go_sem, z0])
  (try simp only [Act.put, List.getElem_toArray, List.getElem_cons_succ, List.getElem_cons_zero, List.setIfInBounds_toArray, List.set_cons_succ, List.set_cons_zero])
  refine HeadAt.rg2 (f0 := 1) [2, 3, 6, 9, 10, 13] 6 3 (fun u => { tmps := #[.agg #[.slice ab X.bs.length cb, .slice ast X.st.length cs, .slice ae X.er.length ce, .slice ak X.ks.length ck, .int .i64 X.ch], .pointer (some ⟨s0, 0, none⟩), .pointer (some ⟨s0 + 1, 0, none⟩), .pointer (some ⟨s0, 0, none⟩), .slice ab X.bs.length cb, u 2, u 3, .pointer (some ⟨s0, 1, none⟩), .slice ast X.st.length cs, u 6, .pointer (some ⟨s0, 2, none⟩), .slice ae X.er.length ce, u 9, u 10, .pointer (some ⟨s0, 3, none⟩), .slice ak X.ks.length ck, u 13, .pointer (some ⟨s0, 4, none⟩), .int .i64 X.ch, undef], defers := [] }) (clmF (s0 + 2) X) (fun _ => undef) (by kernel_rfl) (fun w1 w2 h hb => ⟨Nat.le_trans h.1 hb.size, h.2.1.below hb, h.2.2.1.below hb, h.2.2.2.1.below hb (Nat.le_refl _), h.2.2.2.2.trans (hb.mono (by have := h.1; omega))⟩) (clmF_below (s0 + 2) X) ?upd ?step ?done S0
  case upd =>
    intro i j hi hj hne ha u v V h
    simp only [List.mem_cons, List.not_mem_nil, or_false] at hi hj
    rcases hi with rfl | rfl | rfl | rfl | rfl | rfl <;> rcases hj with rfl | rfl | rfl | rfl | rfl | rfl <;> first | exact absurd rfl hne | exact h | (exfalso; revert ha; decide)
  case step =>
    intro i hi o ho u V hS hp
    simp only [List.mem_cons, List.not_mem_nil, or_false] at hi
    generalize hK : Upto _ _ = K0
    rcases hi with rfl | rfl | rfl | rfl | rfl | rfl
    · cases ho
      clear hp
      skip
      go_wp2_with fail
      refine (hcb _ hS.2.2.2.1).mono ?_
      rintro e V1 ⟨hb1, a, c, vs, rfl, hown, hrc⟩
      go_wp2_with fail
      subst hK
      exact ⟨_, rfl, hb1, V1.heap.size, (LssT.of_clone hown hrc).base hS.1⟩
    · cases ho
      clear hp
      skip
      have hb1 := below_one (w := V) (.cells #[] 3)
      have ho1 := own_litB V 3 1 (B := s0 + 2) hS.1
      have HH := hid (And.intro hb1 ho1)
      clear hb1 ho1
      go_wp2_with fail
      subst hK
      exact ⟨_, rfl, HH.out.1, V.heap.size, rfl, HH.out.2⟩
    · cases ho
      obtain ⟨g, e3, h3⟩ : ∃ g, u 3 = .slice (some ⟨g, 0, none⟩) 0 0 ∧ V.ownsRow (s0 + 2) 3 1 (u 3) 0 [] := hp 3 (by simp) (by kernel_rfl)
      obtain ⟨T2, h2⟩ : ∃ T, LssT V (s0 + 2) T (u 2) X.bs := hp 2 (by simp) (by kernel_rfl)
      rw [e3] at h3 ⊢
      have hI := hS.2.2.2.1.2.1
      refine wpList_appLit rfl (.tmp 6) (.tmp 8) 23 rfl (s0 + 2) 3 j0 (.int .i64 0) 1 8 under23 hj jz0 jz1 jz2 rfl (by decide) g rfl h3 ast X.st.length cs (X.st.map (Value.int .i64)) rfl (by simp) hI.cls (ints_one X.st) (by unfold maxLen; omega) (by omega) hS.1 ?_
      intro v1 V1 hown1 hb1 hpl
      subst hK
      refine ⟨v1, by simp [Act.put, updU, e3], hb1, V1.heap.size, ⟨V.heap.size, hb1.size, Nat.le_refl _, (h2.up h2.1 (Nat.le_refl _)).below hb1, hown1, fun hn q hq => ⟨?_, (hown1.lt q hq).2⟩⟩⟩
      rcases hpl q hq with ⟨h0, _⟩ | h0
      · omega
      · exact h0
    · cases ho
      obtain ⟨T6, h6⟩ : ∃ T6, CM2 V (s0 + 2) (u 2) (u 6) X T6 := hp 6 (by simp) (by kernel_rfl)
      obtain ⟨T2, _, hT6, _⟩ := h6.ex
      replace h6 := h6.up hT6 (Nat.le_refl _)
      have H6 := hid h6
      clear hp h6
      skip
      go_wp2_with fail
      refine (hce _ hS.2.2.2.1).mono ?_
      rintro e V1 ⟨hb1, a, c, vs, rfl, hown, hrc⟩
      go_wp2_with fail
      subst hK
      exact ⟨_, rfl, hb1, V.heap.size, V1.heap.size, H6.out.below hb1, LssT.of_clone hown hrc, hS.1⟩
    · cases ho
      clear hp
      skip
      have hb1 := below_one (w := V) (.cells #[] 55)
      have ho1 := own_litB V 55 2 (B := s0 + 2) hS.1
      have HH := hid (And.intro hb1 ho1)
      clear hb1 ho1
      go_wp2_with fail
      subst hK
      exact ⟨_, rfl, HH.out.1, V.heap.size, rfl, HH.out.2⟩
    · cases ho
      obtain ⟨g, e3, h3⟩ : ∃ g, u 10 = .slice (some ⟨g, 0, none⟩) 0 0 ∧ V.ownsRow (s0 + 2) 55 2 (u 10) 0 [] := hp 10 (by simp) (by kernel_rfl)
      obtain ⟨T6, T9, g6, g9, hBT⟩ : ∃ T6 T9, CM2 V (s0 + 2) (u 2) (u 6) X T6 ∧ LssT V T6 T9 (u 9) X.er ∧ s0 + 2 ≤ T6 := hp 9 (by simp) (by kernel_rfl)
      rw [e3] at h3 ⊢
      have hI := hS.2.2.2.1.2.2.2
      refine wpList_appLit rfl (.tmp 13) (.tmp 15) 24 rfl (s0 + 2) 55 i0 (.agg #[.int .i64 0, .int .i64 0]) 2 16 under24 hi0 iz0 iz1 iz2 rfl (by decide) g rfl h3 ak X.ks.length ck (pcells X.ks) rfl (pcells_len X.ks) hI.cls (pcells_one X.ks) (by unfold maxLen; omega) (by omega) hS.1 ?_
      intro v1 V1 hown1 hb1 hpl
      subst hK
      refine ⟨v1, by simp [Act.put, updU, e3], hb1, ⟨T6, V.heap.size, g6.below hb1, (g9.up g9.1 (Nat.le_refl _)).below hb1, hown1, fun hn q hq => ?_, hBT⟩⟩
      rcases hpl q hq with ⟨h0, _⟩ | h0
      · omega
      · exact h0
  case done =>
    intro u V hS hp
    have hm : CMem V (s0 + 2) (u 2) (u 6) (u 9) (u 13) X := hp 13 (by simp)
    obtain ⟨T6, T9, ⟨T2, _, _, g2, g6, _⟩, g9, g13, _⟩ := hm.ex
    obtain ⟨a2, c2, e2, _⟩ := g2.lss hB1
    obtain ⟨a6, c6, e6⟩ := own_slice2 g6
    obtain ⟨a9, c9, e9, _⟩ := g9.lss hE1
    obtain ⟨a13, c13, e13⟩ := own_slice2 g13
    clear g2 g6 g9 g13
    clear hp
    skip
    generalize u 2 = u2 at *
    generalize u 3 = u3 at *
    generalize u 6 = u6 at *
    generalize u 9 = u9 at *
    generalize u 10 = u10 at *
    generalize u 13 = u13 at *
    subst e2 e6 e9 e13
    refine HeadAt.take (i := 16) (.agg #[.slice a2 X.bs.length c2, .slice a6 X.st.length c6, .slice a9 X.er.length c9, .slice a13 X.ks.length c13, .int .i64 X.ch]) rfl (by kernel_rfl) (.inl ⟨rfl, fun w' z => ?_⟩) hS ?_
    · (simp [go_sem])
    refine HeadAt.done (by kernel_rfl) ?_
    (try simp only [Act.put, List.drop_succ_cons, List.drop_zero, List.getElem_toArray, List.getElem_cons_succ, List.getElem_cons_zero])
    obtain ⟨hsz, x0, x1, hX, hb⟩ := hS
    have d0 := x1.cell 0 rfl; have d1 := x1.cell 1 rfl; have d2 := x1.cell 2 rfl; have d3 := x1.cell 3 rfl; have d4 := x1.cell 4 rfl
    have f0 := x1.free 0; have f1 := x1.free 1; have f2 := x1.free 2; have f3 := x1.free 3; have f4 := x1.free 4
    have x1' := x1.set5 (.slice a2 X.bs.length c2) (.slice a6 X.st.length c6) (.slice a9 X.er.length c9) (.slice a13 X.ks.length c13) (.int .i64 X.ch)
    have hb' := below_put5 (b := s0 + 1) hb (by omega) (.slice a2 X.bs.length c2) (.slice a6 X.st.length c6) (.slice a9 X.er.length c9) (.slice a13 X.ks.length c13) (.int .i64 X.ch)
    have hg5 := gput5 V (s0 + 1) (.slice a2 X.bs.length c2) (.slice a6 X.st.length c6) (.slice a9 X.er.length c9) (.slice a13 X.ks.length c13) (.int .i64 X.ch)
    have hm' := hm.low hg5 (by omega)
    have HR := hid (And.intro x1' (And.intro hb' hm'))
    clear x1' hb' hg5 hm hm' x0 hX hb
    go_wp2_with fail
    refine NoPanic.normal ?_
    obtain ⟨x1', hb', hm'⟩ := HR.out
    generalize World.setCell _ _ _ = Y5 at *
    have r0 := x1'.cell 0 rfl; have r1 := x1'.cell 1 rfl; have r2 := x1'.cell 2 rfl; have r3 := x1'.cell 3 rfl; have r4 := x1'.cell 4 rfl
    clear d0 d1 d2 d3 d4 f0 f1 f2 f3 f4 HR x1
    go_wp2
    refine bodyPost_ret (v := .agg #[.slice a2 X.bs.length c2, .slice a6 X.st.length c6, .slice a9 X.er.length c9, .slice a13 X.ks.length c13, .int .i64 X.ch]) ?_ rfl ?_
    · simp [results, Try.results15, go_sem, r0, r1, r2, r3, r4]
    · refine ⟨by rw [← HS0.out]; exact hb', a2, a6, a9, a13, c2, c6, c9, c13, rfl, ?_⟩
      have := HS0.out
      rw [← this]
      exact hm'
end Go.Proofs.Ytipdohpbilabiaa
