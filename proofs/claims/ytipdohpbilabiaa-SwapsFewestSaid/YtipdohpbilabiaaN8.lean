import Derived.Test.YtipdohpbilabiaaQ5
import Derived.Test.YtipdohpbilabiaaN1
import Derived.Test.YtipdohpbilabiaaN3
import Derived.Test.YtipdohpbilabiaaVE
/-! Clone: an equal visit in memory of its own. -/
namespace Go.Proofs.Ytipdohpbilabiaa
set_option linter.unusedSimpArgs false
set_option linter.unusedVariables false
open Go Go.RowKit

theorem Prs.rng {w : World} {a : Option Addr} {xs : List (Int × Int)} (h : Prs w a xs) : ∀ x ∈ xs, -9223372036854775808 ≤ x.1 ∧ x.1 ≤ 9223372036854775807 ∧ -9223372036854775808 ≤ x.2 ∧ x.2 ≤ 9223372036854775807 := h.2.1
theorem Ls.low {w w' : World} {own : Option Nat} {B T b0 : Nat} {x : Value} {ks : List Int} (h : Ls w own B T x ks) (hb : b0 < B) (hg : w.grownBy w' (some b0)) : Ls w' own B T x ks := by
  obtain ⟨h0, a, c, rfl, h2, h3⟩ := h
  refine ⟨own_keep h0 hg (fun k hk e => ?_), a, c, rfl, h2.gro hg (fun ad e hh => ?_), fun ad e => ?_⟩
  · have := own_ge2 h0 k hk
    cases e; omega
  · have := (h3 ad e).1
    cases hh; omega
  · obtain ⟨b1, b2, b3, b4⟩ := h3 ad e
    exact ⟨b1, b2, Nat.lt_of_lt_of_le b3 hg.size, b4⟩
theorem Rc.low {w w' : World} {own : Option Nat} {b0 : Nat} (hg : w.grownBy w' (some b0)) : ∀ {vs : List Value} {LL : List (List Int)} {B T : Nat}, b0 < B → Rc w own B T vs LL → Rc w' own B T vs LL
  | [], [], _, _, _, h => h
  | _ :: _, _ :: _, _, _, hb, ⟨M, hm, h1, h2⟩ => ⟨M, hm, h1.low hb hg, Rc.low hg (Nat.lt_of_lt_of_le hb hm) h2⟩
  | [], _ :: _, _, _, _, h => h.elim
  | _ :: _, [], _, _, _, h => h.elim
theorem Rc.base {w : World} {own : Option Nat} : ∀ {vs : List Value} {LL : List (List Int)} {B B' T : Nat}, B' ≤ B → Rc w own B T vs LL → Rc w own B' T vs LL
  | [], [], _, _, _, hb, h => Nat.le_trans hb h
  | _ :: _, _ :: _, _, _, _, hb, ⟨M, hm, ⟨h0, a, c, h1, h2, h3⟩, hr⟩ => ⟨M, Nat.le_trans hb hm, ⟨own_base h0 hb, a, c, h1, h2, fun ad e => by
      obtain ⟨b1, b2, b3, b4⟩ := h3 ad e
      exact ⟨Nat.le_trans hb b1, b2, b3, b4⟩⟩, hr⟩
  | [], _ :: _, _, _, _, _, h => h.elim
  | _ :: _, [], _, _, _, _, h => h.elim
/-- Rows of numbers in memory of the call's own, from block B on. -/
def LssO (w : World) (B : Nat) (v : Value) (LL : List (List Int)) : Prop := ∃ a c vs, v = .slice a LL.length c ∧ w.ownsRow B 23 1 v LL.length vs ∧ Rc w v.ownBlock B w.heap.size vs LL
theorem LssO.below {w w' : World} {B : Nat} {v : Value} {LL : List (List Int)} (h : LssO w B v LL) (hb : Below w.heap.size w w') : LssO w' B v LL := by
  obtain ⟨a, c, vs, rfl, h1, h2⟩ := h
  exact ⟨a, c, vs, rfl, own_below2 h1 hb, (h2.gro (Below.gr' hb) (fun k hk => by cases hk) (.inl rfl)).up hb.size⟩
theorem LssO.low {w w' : World} {B b0 : Nat} {v : Value} {LL : List (List Int)} (h : LssO w B v LL) (hg : w.grownBy w' (some b0)) (hb : b0 < B) : LssO w' B v LL := by
  obtain ⟨a, c, vs, rfl, h1, h2⟩ := h
  refine ⟨a, c, vs, rfl, own_keep h1 hg (fun k hk e => ?_), (h2.low hg hb).up hg.size⟩
  have := own_ge2 h1 k hk
  cases e; omega
theorem LssO.lss {w : World} {B : Nat} {v : Value} {LL : List (List Int)} (h : LssO w B v LL) (hl : LL.length ≤ 1000) : ∃ a c, v = .slice a LL.length c ∧ Lss w a LL := by
  obtain ⟨a, c, vs, rfl, h1, h2⟩ := h
  exact ⟨a, c, rfl, h2.lss h1 (by omega)⟩
/-- What Clone's parts are. -/
def clnF (B : Nat) (X : Sw) : Nat → Value → World → Prop
  | 2, v, w' => LssO w' B v X.bs
  | 3, v, w' => ∃ g, v = .slice (some ⟨g, 0, none⟩) 0 0 ∧ w'.ownsRow B 3 1 v 0 []
  | 6, v, w' => w'.ownsRow B 3 1 v X.st.length (X.st.map (Value.int .i64))
  | 9, v, w' => LssO w' B v X.er
  | 10, v, w' => ∃ g, v = .slice (some ⟨g, 0, none⟩) 0 0 ∧ w'.ownsRow B 55 2 v 0 []
  | 13, v, w' => w'.ownsRow B 55 2 v X.ks.length (pcells X.ks)
  | _, _, _ => True
theorem clnF_below (B : Nat) (X : Sw) (j : Nat) (v : Value) (w1 w2 : World) (h : clnF B X j v w1) (hb : Below w1.heap.size w1 w2) : clnF B X j v w2 := by
  unfold clnF at h ⊢
  split at h
  · exact h.below hb
  · obtain ⟨g, e, h⟩ := h; exact ⟨g, e, own_below2 h hb⟩
  · exact own_below2 h hb
  · exact h.below hb
  · obtain ⟨g, e, h⟩ := h; exact ⟨g, e, own_below2 h hb⟩
  · exact own_below2 h hb
  · trivial
theorem gput5' (W : World) (b : Nat) (v0 v1 v2 v3 v4 : Value) : W.grownBy (((((W.setCell ⟨b, 0, none⟩ v0).setCell ⟨b, 1, none⟩ v1).setCell ⟨b, 2, none⟩ v2).setCell ⟨b, 3, none⟩ v3).setCell ⟨b, 4, none⟩ v4) (some b) := gput5 W b v0 v1 v2 v3 v4
def clnS (w : World) (s0 : Nat) (ab ast ae ak : Option Addr) (cb cs ce ck : Nat) (X : Sw) (w' : World) : Prop := s0 + 2 ≤ w'.heap.size ∧ Bx w' s0 #[.slice ab X.bs.length cb, .slice ast X.st.length cs, .slice ae X.er.length ce, .slice ak X.ks.length ck, .int .i64 X.ch] 26 ∧ Bx w' (s0 + 1) #[.slice none 0 0, .slice none 0 0, .slice none 0 0, .slice none 0 0, .int .i64 0] 26 ∧ Swp w' ab ast ae ak X ∧ Below s0 w w'

set_option maxRecDepth 100000 in
set_option maxHeartbeats 4000000 in
theorem Clone_any (ab ast ae ak : Option Addr) (cb cs ce ck : Nat) (X : Sw) (w : World) (hX : Swp w ab ast ae ak X) (hB1 : X.bs.length ≤ 1000) (hB2 : ∀ l ∈ X.bs, l.length ≤ 1000) (hS1 : X.st.length ≤ 1000) (hE1 : X.er.length ≤ 1000) (hE2 : ∀ l ∈ X.er, l.length ≤ 1000) (hK1 : X.ks.length ≤ 1000) : Calls Try.prog 15 #[.agg #[.slice ab X.bs.length cb, .slice ast X.st.length cs, .slice ae X.er.length ce, .slice ak X.ks.length ck, .int .i64 X.ch]] w fun e w' => Below w.heap.size w w' ∧ ∃ (ab' ast' ae' ak' : Option Addr) (cb' cs' ce' ck' : Nat), e = .returned (.agg #[.slice ab' X.bs.length cb', .slice ast' X.st.length cs', .slice ae' X.er.length ce', .slice ak' X.ks.length ck', .int .i64 X.ch]) ∧ LssO w' (w.heap.size + 2) (.slice ab' X.bs.length cb') X.bs ∧ w'.ownsRow (w.heap.size + 2) 3 1 (.slice ast' X.st.length cs') X.st.length (X.st.map (Value.int .i64)) ∧ LssO w' (w.heap.size + 2) (.slice ae' X.er.length ce') X.er ∧ w'.ownsRow (w.heap.size + 2) 55 2 (.slice ak' X.ks.length ck') X.ks.length (pcells X.ks) := by
  obtain ⟨j0, hj, jz0, jz1, jz2⟩ := info_parts info3i
  obtain ⟨i0, hi0, iz0, iz1, iz2⟩ := info_parts info55
  obtain ⟨W, hW, hb, _, x0, x1⟩ := boxes2 w #[.slice ab X.bs.length cb, .slice ast X.st.length cs, .slice ae X.er.length ce, .slice ak X.ks.length ck, .int .i64 X.ch] 26 #[.slice none 0 0, .slice none 0 0, .slice none 0 0, .slice none 0 0, .int .i64 0] 26
  have hXW := hX.below hb (Nat.le_refl _)
  have hcb := fun V (h : Swp V ab ast ae ak X) => CloneLists_any ab cb X.bs V h.1 hB1 hB2
  have hce := fun V (h : Swp V ab ast ae ak X) => CloneLists_any ae ce X.er V h.2.2.1 hE1 hE2
  go_enter Try.func15, Try.ntmps15
  go_upto_region 1 with fail
  obtain ⟨s0, hs0⟩ : ∃ s0, s0 = w.heap.size := ⟨_, rfl⟩
  rw [← hs0] at x0 x1 hb ⊢
  have HS0 := hid hs0
  have hs1 : s0 ≤ W.heap.size := by rw [hs0]; exact hb.size
  have hbd := (Below.refl W.heap.size W).drew
  have S0 : clnS w s0 ab ast ae ak cb cs ce ck X W.drew := ⟨by have := x1.lt; have e : W.drew.heap.size = W.heap.size := rfl; omega, x0.below hbd, x1.below hbd, hXW.below hbd (Nat.le_refl _), hb.trans (hbd.mono hs1)⟩
  clear hs0 hbd x0 x1 hXW hb hX hB2 hE2 hW hs1
  refine wp_region_head 17 (clnS w s0 ab ast ae ak cb cs ce ck X) (by kernel_rfl) rfl ?_
  generalize W.drew = Y0 at *
  refine HeadAt.take (i := 0) (.pointer (some ⟨s0, 0, none⟩)) rfl (by kernel_rfl) (.inl ⟨rfl, fun _ _ => by simp [go_sem]⟩) S0 ?_
  (try simp only [Act.put, List.getElem_toArray, List.getElem_cons_succ, List.getElem_cons_zero, List.setIfInBounds_toArray, List.set_cons_succ, List.set_cons_zero])
  refine HeadAt.take (i := 1) (.slice ab X.bs.length cb) rfl (by kernel_rfl) (.inl ⟨rfl, fun w' z => ?_⟩) S0 ?_
  · (have z0 := z.2.1.cell 0 rfl; simp [go_sem, z0])
  refine HeadAt.take (i := 4) (.pointer (some ⟨s0, 1, none⟩)) rfl (by kernel_rfl) (.inl ⟨rfl, fun _ _ => by simp [go_sem]⟩) S0 ?_
  (try simp only [Act.put, List.getElem_toArray, List.getElem_cons_succ, List.getElem_cons_zero, List.setIfInBounds_toArray, List.set_cons_succ, List.set_cons_zero])
  refine HeadAt.take (i := 5) (.slice ast X.st.length cs) rfl (by kernel_rfl) (.inl ⟨rfl, fun w' z => ?_⟩) S0 ?_
  · (have z0 := z.2.1.cell 1 rfl; simp [go_sem, z0])
  refine HeadAt.take (i := 7) (.pointer (some ⟨s0, 2, none⟩)) rfl (by kernel_rfl) (.inl ⟨rfl, fun _ _ => by simp [go_sem]⟩) S0 ?_
  (try simp only [Act.put, List.getElem_toArray, List.getElem_cons_succ, List.getElem_cons_zero, List.setIfInBounds_toArray, List.set_cons_succ, List.set_cons_zero])
  refine HeadAt.take (i := 8) (.slice ae X.er.length ce) rfl (by kernel_rfl) (.inl ⟨rfl, fun w' z => ?_⟩) S0 ?_
  · (have z0 := z.2.1.cell 2 rfl; simp [go_sem, z0])
  refine HeadAt.take (i := 11) (.pointer (some ⟨s0, 3, none⟩)) rfl (by kernel_rfl) (.inl ⟨rfl, fun _ _ => by simp [go_sem]⟩) S0 ?_
  (try simp only [Act.put, List.getElem_toArray, List.getElem_cons_succ, List.getElem_cons_zero, List.setIfInBounds_toArray, List.set_cons_succ, List.set_cons_zero])
  refine HeadAt.take (i := 12) (.slice ak X.ks.length ck) rfl (by kernel_rfl) (.inl ⟨rfl, fun w' z => ?_⟩) S0 ?_
  · (have z0 := z.2.1.cell 3 rfl; simp [go_sem, z0])
  refine HeadAt.take (i := 14) (.pointer (some ⟨s0, 4, none⟩)) rfl (by kernel_rfl) (.inl ⟨rfl, fun _ _ => by simp [go_sem]⟩) S0 ?_
  (try simp only [Act.put, List.getElem_toArray, List.getElem_cons_succ, List.getElem_cons_zero, List.setIfInBounds_toArray, List.set_cons_succ, List.set_cons_zero])
  refine HeadAt.take (i := 15) (.int .i64 X.ch) rfl (by kernel_rfl) (.inl ⟨rfl, fun w' z => ?_⟩) S0 ?_
  · (have z0 := z.2.1.cell 4 rfl; simp [go_sem, z0])
  (try simp only [Act.put, List.getElem_toArray, List.getElem_cons_succ, List.getElem_cons_zero, List.setIfInBounds_toArray, List.set_cons_succ, List.set_cons_zero])
  refine HeadAt.rg (f0 := 1) [2, 3, 6, 9, 10, 13] 6 (fun u => { tmps := #[.agg #[.slice ab X.bs.length cb, .slice ast X.st.length cs, .slice ae X.er.length ce, .slice ak X.ks.length ck, .int .i64 X.ch], .pointer (some ⟨s0, 0, none⟩), .pointer (some ⟨s0 + 1, 0, none⟩), .pointer (some ⟨s0, 0, none⟩), .slice ab X.bs.length cb, u 2, u 3, .pointer (some ⟨s0, 1, none⟩), .slice ast X.st.length cs, u 6, .pointer (some ⟨s0, 2, none⟩), .slice ae X.er.length ce, u 9, u 10, .pointer (some ⟨s0, 3, none⟩), .slice ak X.ks.length ck, u 13, .pointer (some ⟨s0, 4, none⟩), .int .i64 X.ch, undef], defers := [] }) (clnF (s0 + 2) X) (fun _ => undef) (by kernel_rfl) (fun w1 w2 h hb => ⟨Nat.le_trans h.1 hb.size, h.2.1.below hb, h.2.2.1.below hb, h.2.2.2.1.below hb (Nat.le_refl _), h.2.2.2.2.trans (hb.mono (by have := h.1; omega))⟩) (clnF_below (s0 + 2) X) ?step ?done S0
  case step =>
    intro i hi o ho u V hS hp
    simp only [List.mem_cons, List.not_mem_nil, or_false] at hi
    generalize hK : Upto _ _ = K0
    rcases hi with rfl | rfl | rfl | rfl | rfl | rfl
    · cases ho
      clear hp
      skip
      go_wp2_with fail
      refine (hcb _ hS.2.2.2.1).mono ?_
      rintro e V1 ⟨hb1, a, c, vs, rfl, hown, hrc⟩
      go_wp2_with fail
      subst hK
      exact ⟨_, rfl, hb1, a, c, vs, rfl, own_base hown hS.1, hrc.base hS.1⟩
    · cases ho
      clear hp
      skip
      have hb1 := below_one (w := V) (.cells #[] 3)
      have ho1 := own_litB V 3 1 (B := s0 + 2) hS.1
      have HH := hid (And.intro hb1 ho1)
      clear hb1 ho1
      go_wp2_with fail
      subst hK
      exact ⟨_, rfl, HH.out.1, V.heap.size, rfl, HH.out.2⟩
    · cases ho
      obtain ⟨g, e3, h3⟩ := hp 3 (by simp) (by kernel_rfl)
      rw [e3] at h3 ⊢
      have hI := hS.2.2.2.1.2.1
      refine wpList_appLit rfl (.tmp 6) (.tmp 8) 23 rfl (s0 + 2) 3 j0 (.int .i64 0) 1 8 under23 hj jz0 jz1 jz2 rfl (by decide) g rfl h3 ast X.st.length cs (X.st.map (Value.int .i64)) rfl (by simp) hI.cls (ints_one X.st) (by unfold maxLen; omega) (by omega) hS.1 ?_
      intro v1 V1 hown1 hb1 hpl
      subst hK
      exact ⟨_, by simp [Act.put, updU, e3], hb1, hown1⟩
    · cases ho
      clear hp
      skip
      go_wp2_with fail
      refine (hce _ hS.2.2.2.1).mono ?_
      rintro e V1 ⟨hb1, a, c, vs, rfl, hown, hrc⟩
      go_wp2_with fail
      subst hK
      exact ⟨_, rfl, hb1, a, c, vs, rfl, own_base hown hS.1, hrc.base hS.1⟩
    · cases ho
      clear hp
      skip
      have hb1 := below_one (w := V) (.cells #[] 55)
      have ho1 := own_litB V 55 2 (B := s0 + 2) hS.1
      have HH := hid (And.intro hb1 ho1)
      clear hb1 ho1
      go_wp2_with fail
      subst hK
      exact ⟨_, rfl, HH.out.1, V.heap.size, rfl, HH.out.2⟩
    · cases ho
      obtain ⟨g, e3, h3⟩ := hp 10 (by simp) (by kernel_rfl)
      rw [e3] at h3 ⊢
      have hI := hS.2.2.2.1.2.2.2
      refine wpList_appLit rfl (.tmp 13) (.tmp 15) 24 rfl (s0 + 2) 55 i0 (.agg #[.int .i64 0, .int .i64 0]) 2 16 under24 hi0 iz0 iz1 iz2 rfl (by decide) g rfl h3 ak X.ks.length ck (pcells X.ks) rfl (pcells_len X.ks) hI.cls (pcells_one X.ks) (by unfold maxLen; omega) (by omega) hS.1 ?_
      intro v1 V1 hown1 hb1 hpl
      subst hK
      exact ⟨_, by simp [Act.put, updU, e3], hb1, hown1⟩
  case done =>
    intro u V hS hp
    have h2 : LssO V (s0 + 2) (u 2) X.bs := hp 2 (by simp)
    have h6 : V.ownsRow (s0 + 2) 3 1 (u 6) X.st.length (X.st.map (Value.int .i64)) := hp 6 (by simp)
    have h9 : LssO V (s0 + 2) (u 9) X.er := hp 9 (by simp)
    have h13 : V.ownsRow (s0 + 2) 55 2 (u 13) X.ks.length (pcells X.ks) := hp 13 (by simp)
    obtain ⟨a2, c2, e2, _⟩ := h2.lss hB1
    obtain ⟨a6, c6, e6⟩ := own_slice2 h6
    obtain ⟨a9, c9, e9, _⟩ := h9.lss hE1
    obtain ⟨a13, c13, e13⟩ := own_slice2 h13
    clear hp
    skip
    generalize u 2 = u2 at *
    generalize u 3 = u3 at *
    generalize u 6 = u6 at *
    generalize u 9 = u9 at *
    generalize u 10 = u10 at *
    generalize u 13 = u13 at *
    subst e2 e6 e9 e13
    refine HeadAt.take (i := 16) (.agg #[.slice a2 X.bs.length c2, .slice a6 X.st.length c6, .slice a9 X.er.length c9, .slice a13 X.ks.length c13, .int .i64 X.ch]) rfl (by kernel_rfl) (.inl ⟨rfl, fun w' z => ?_⟩) hS ?_
    · (simp [go_sem])
    refine HeadAt.done (by kernel_rfl) ?_
    (try simp only [Act.put, List.drop_succ_cons, List.drop_zero, List.getElem_toArray, List.getElem_cons_succ, List.getElem_cons_zero])
    obtain ⟨hsz, x0, x1, hX, hb⟩ := hS
    have d0 := x1.cell 0 rfl; have d1 := x1.cell 1 rfl; have d2 := x1.cell 2 rfl; have d3 := x1.cell 3 rfl; have d4 := x1.cell 4 rfl
    have f0 := x1.free 0; have f1 := x1.free 1; have f2 := x1.free 2; have f3 := x1.free 3; have f4 := x1.free 4
    have x1' := x1.set5 (.slice a2 X.bs.length c2) (.slice a6 X.st.length c6) (.slice a9 X.er.length c9) (.slice a13 X.ks.length c13) (.int .i64 X.ch)
    have hb' := below_put5 (b := s0 + 1) hb (by omega) (.slice a2 X.bs.length c2) (.slice a6 X.st.length c6) (.slice a9 X.er.length c9) (.slice a13 X.ks.length c13) (.int .i64 X.ch)
    have hg5 := gput5 V (s0 + 1) (.slice a2 X.bs.length c2) (.slice a6 X.st.length c6) (.slice a9 X.er.length c9) (.slice a13 X.ks.length c13) (.int .i64 X.ch)
    have h2' := h2.low hg5 (by omega)
    have h6' := own_keep h6 hg5 (fun k hk e => by have := own_ge2 h6 k hk; cases e; omega)
    have h9' := h9.low hg5 (by omega)
    have h13' := own_keep h13 hg5 (fun k hk e => by have := own_ge2 h13 k hk; cases e; omega)
    have HR := hid (And.intro x1' (And.intro hb' (And.intro h2' (And.intro h6' (And.intro h9' h13')))))
    clear x1' hb' hg5 h2 h6 h9 h13 h2' h6' h9' h13' x0 hX hb
    go_wp2_with fail
    refine NoPanic.normal ?_
    obtain ⟨x1', hb', h2', h6', h9', h13'⟩ := HR.out
    generalize World.setCell _ _ _ = Y5 at *
    have r0 := x1'.cell 0 rfl; have r1 := x1'.cell 1 rfl; have r2 := x1'.cell 2 rfl; have r3 := x1'.cell 3 rfl; have r4 := x1'.cell 4 rfl
    clear d0 d1 d2 d3 d4 f0 f1 f2 f3 f4 HR x1
    go_wp2
    refine bodyPost_ret (v := .agg #[.slice a2 X.bs.length c2, .slice a6 X.st.length c6, .slice a9 X.er.length c9, .slice a13 X.ks.length c13, .int .i64 X.ch]) ?_ rfl ?_
    · simp [results, Try.results15, go_sem, r0, r1, r2, r3, r4]
    · refine ⟨by rw [← HS0.out]; exact hb', a2, a6, a9, a13, c2, c6, c9, c13, rfl, ?_⟩
      have := HS0.out
      rw [← this]
      exact ⟨h2', h6', h9', h13'⟩
theorem Clone_swp (ab ast ae ak : Option Addr) (cb cs ce ck : Nat) (X : Sw) (w : World) (hX : Swp w ab ast ae ak X) (hB1 : X.bs.length ≤ 1000) (hB2 : ∀ l ∈ X.bs, l.length ≤ 1000) (hS1 : X.st.length ≤ 1000) (hE1 : X.er.length ≤ 1000) (hE2 : ∀ l ∈ X.er, l.length ≤ 1000) (hK1 : X.ks.length ≤ 1000) : Calls Try.prog 15 #[.agg #[.slice ab X.bs.length cb, .slice ast X.st.length cs, .slice ae X.er.length ce, .slice ak X.ks.length ck, .int .i64 X.ch]] w fun e w' => Below w.heap.size w w' ∧ ∃ (ab' ast' ae' ak' : Option Addr) (cb' cs' ce' ck' : Nat), e = .returned (.agg #[.slice ab' X.bs.length cb', .slice ast' X.st.length cs', .slice ae' X.er.length ce', .slice ak' X.ks.length ck', .int .i64 X.ch]) ∧ Swp w' ab' ast' ae' ak' X := by
  refine (Clone_any ab ast ae ak cb cs ce ck X w hX hB1 hB2 hS1 hE1 hE2 hK1).mono ?_
  rintro e w' ⟨hb, ab', ast', ae', ak', cb', cs', ce', ck', rfl, h1, h2, h3, h4⟩
  obtain ⟨a1, c1, e1, l1⟩ := h1.lss hB1
  obtain ⟨a2, c2, e2, l2⟩ := Ints.of_own h2 (by omega) hX.2.1.rng
  obtain ⟨a3, c3, e3, l3⟩ := h3.lss hE1
  obtain ⟨a4, c4, e4, l4⟩ := Prs.of_own h4 (by omega) hX.2.2.2.rng
  cases e1; cases e2; cases e3; cases e4
  exact ⟨hb, ab', ast', ae', ak', cb', cs', ce', ck', rfl, l1, l2, l3, l4⟩
end Go.Proofs.Ytipdohpbilabiaa
