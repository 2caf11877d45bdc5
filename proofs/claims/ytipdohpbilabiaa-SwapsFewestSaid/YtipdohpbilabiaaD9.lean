import Derived.Test.YtipdohpbilabiaaD8
/-! The fewest changes. -/
namespace Go.Proofs.Ytipdohpbilabiaa
set_option linter.unusedSimpArgs false
set_option linter.unusedVariables false
open Go Go.RowKit

attribute [local go_sem] Oper.semAt_some

def fewS (V : Vz) (goal : Int) (s : Int × Bool) (p : Pl) : Int × Bool := if earn V p < goal then s else if s.2 = false ∨ (chT V p : Int) < s.1 then ((chT V p : Int), true) else s
def fewF (V : Vz) (goal : Int) (l : List Pl) : Int × Bool := l.foldl (fewS V goal) (0, false)
def fewV (V : Vz) (goal : Int) : Int × Bool := fewF V goal (plansV V)
theorem fewF_snoc (V : Vz) (goal : Int) (l : List Pl) (p : Pl) : fewF V goal (l ++ [p]) = fewS V goal (fewF V goal l) p := by unfold fewF; rw [List.foldl_append]; rfl

set_option maxRecDepth 100000 in
set_option maxHeartbeats 4000000 in
theorem fewest_any (ab ast ae ak : Option Addr) (cb cs ce nk ck : Nat) (V : Vz) (hV : VOk V) (goal : Int) (w : World) (hR : Vis w ast ae V) (y : Int) (o : Bool) (hp : (y, o) = fewV V goal) : Calls Try.prog 71 #[.agg #[.slice ab V.nb cb, .slice ast V.st.length cs, .slice ae V.er.length ce, .slice ak nk ck, .int .i64 V.ch, .int .u8 (V.now.a : Int), .int .u8 (V.now.b : Int), .int .u8 (V.now.c : Int), .int .u8 (V.stay.a : Int), .int .u8 (V.stay.b : Int), .int .u8 (V.stay.c : Int)], .int .i64 goal] w fun e w' => e = .returned (.tuple #[.int .i64 y, .bool o]) ∧ Below w.heap.size w w' := by
  refine calls_of_wp_marks Try.func71 rfl ?_
  simp only [Try.ntmps71, List.size_toArray, List.length_cons, List.length_nil, Nat.reduceAdd, Nat.reduceSub, Array.replicate_succ, Array.replicate_zero, List.push_toArray, List.append_toArray, List.nil_append, List.cons_append]
  obtain ⟨W1, hW1, hb1, hs1, x0, x1, x2, x3⟩ := boxes4 w #[.slice ab V.nb cb, .slice ast V.st.length cs, .slice ae V.er.length ce, .slice ak nk ck, .int .i64 V.ch, .int .u8 (V.now.a : Int), .int .u8 (V.now.b : Int), .int .u8 (V.now.c : Int), .int .u8 (V.stay.a : Int), .int .u8 (V.stay.b : Int), .int .u8 (V.stay.c : Int)] 72 #[.int .i64 goal] 3 #[.int .i64 0] 3 #[.bool false] 4
  have hit := plans_iter ab ast ae ak cb cs ce nk ck V hV w.heap.size (W1.heap.size + 2) w W1 hR (Nat.le_refl _) hb1 hb1.size
  have hea := fun (q : Pl) (hq : q.ok (2 ^ V.st.length)) W h => earns_any ab ast ae ak cb cs ce nk ck V hV q hq W h
  have hch := fun (q : Pl) (hq : q.ok 64) W => changes_any ab ast ae ak cb cs ce nk ck V hV q hq W
  have hok : ∀ q ∈ plansV V, q.ok (2 ^ V.st.length) := fun q => plansV_ok
  have h64 := hV.p64
  have hsn := fun l q => fewF_snoc V goal l q
  have hf0 : fewF V goal [] = (0, false) := rfl
  have HP := hid (show (y, o) = fewF V goal (plansV V) from hp)
  have hR1 := fun W (h : Below w.heap.size w W) => hR.below h (Nat.le_refl _)
  clear hp hV hR
  generalize plansV V = XS at *
  have c0 := x0.cell 0 rfl; have c1 := x0.cell 1 rfl; have c2 := x0.cell 2 rfl; have c3 := x0.cell 3 rfl; have c4 := x0.cell 4 rfl; have c5 := x0.cell 5 rfl; have c6 := x0.cell 6 rfl; have c7 := x0.cell 7 rfl; have c8 := x0.cell 8 rfl; have c9 := x0.cell 9 rfl; have c10 := x0.cell 10 rfl
  go_wp2_with fail
  clear hW1 c0 c1 c2 c3 c4 c5 c6 c7 c8 c9 c10
  obtain ⟨s0, hs0⟩ : ∃ s0, s0 = w.heap.size := ⟨_, rfl⟩
  obtain ⟨B, hB⟩ : ∃ B, B = W1.heap.size := ⟨_, rfl⟩
  rw [← hs0] at x0 x1 x2 x3 hb1 hit hR1 hs1 ⊢
  have HS0 := hid hs0
  have hsB : B = s0 + 1 + 1 + 1 + 1 := by rw [hB]; exact hs1
  clear hs0 hs1
  refine wp_rangeFuncB (α := Pl) s0 (by omega) (gf := 85) (bd := #[.agg #[.slice ab V.nb cb, .slice ast V.st.length cs, .slice ae V.er.length ce, .slice ak nk ck, .int .i64 V.ch, .int .u8 (V.now.a : Int), .int .u8 (V.now.b : Int), .int .u8 (V.now.c : Int), .int .u8 (V.stay.a : Int), .int .u8 (V.stay.b : Int), .int .u8 (V.stay.c : Int)]]) (lb := #[]) (encs := encP) (xs := XS) (StI := Below (W1.heap.size + 2)) (St := fun W W' => W1.heap.size ≤ W.heap.size → Below W1.heap.size W W')
    rfl (enters_of Try.func85 (by kernel_rfl) rfl) (fun _ => by rfl) hit (fun W W' h h2 => h.below h2) (fun W W' _ h => h) (fun W W' h _ => h.mono (by omega))
    (fun pre W => W1.heap.size ≤ W.heap.size ∧ Bx W s0 #[.slice ab V.nb cb, .slice ast V.st.length cs, .slice ae V.er.length ce, .slice ak nk ck, .int .i64 V.ch, .int .u8 (V.now.a : Int), .int .u8 (V.now.b : Int), .int .u8 (V.now.c : Int), .int .u8 (V.stay.a : Int), .int .u8 (V.stay.b : Int), .int .u8 (V.stay.c : Int)] 72 ∧ Bx W (s0 + 1) #[.int .i64 goal] 3 ∧ Bx W (s0 + 1 + 1) #[.int .i64 (fewF V goal pre).1] 3 ∧ Bx W (s0 + 1 + 1 + 1) #[.bool (fewF V goal pre).2] 4 ∧ Below s0 w W)
    ?hI ?h0 (fun q a' W => ∃ b4, B + 2 ≤ b4 ∧ Bx W b4 #[.int .u8 (q.a : Int), .int .u8 (q.b : Int), .int .u8 (q.c : Int)] 70 ∧ a' = { tmps := #[.agg #[.slice ab V.nb cb, .slice ast V.st.length cs, .slice ae V.er.length ce, .slice ak nk ck, .int .i64 V.ch, .int .u8 (V.now.a : Int), .int .u8 (V.now.b : Int), .int .u8 (V.now.c : Int), .int .u8 (V.stay.a : Int), .int .u8 (V.stay.b : Int), .int .u8 (V.stay.c : Int)], .int .i64 goal, .pointer (some ⟨s0, 0, none⟩), .pointer (some ⟨s0 + 1, 0, none⟩), .pointer (some ⟨s0 + 1 + 1, 0, none⟩), .pointer (some ⟨s0 + 1 + 1 + 1, 0, none⟩), .pointer (some ⟨b4, 0, none⟩), undef, .agg #[.slice ab V.nb cb, .slice ast V.st.length cs, .slice ae V.er.length ce, .slice ak nk ck, .int .i64 V.ch, .int .u8 (V.now.a : Int), .int .u8 (V.now.b : Int), .int .u8 (V.now.c : Int), .int .u8 (V.stay.a : Int), .int .u8 (V.stay.b : Int), .int .u8 (V.stay.c : Int)], .func (.func 85) #[.agg #[.slice ab V.nb cb, .slice ast V.st.length cs, .slice ae V.er.length ce, .slice ak nk ck, .int .i64 V.ch, .int .u8 (V.now.a : Int), .int .u8 (V.now.b : Int), .int .u8 (V.now.c : Int), .int .u8 (V.stay.a : Int), .int .u8 (V.stay.b : Int), .int .u8 (V.stay.c : Int)]] #[], .agg #[.int .u8 (q.a : Int), .int .u8 (q.b : Int), .int .u8 (q.c : Int)], undef, undef, undef, undef, undef, undef, undef, undef, undef, undef, undef, undef, undef, undef, undef, undef, undef, undef], defers := [] }) ?hAx ?assign ?body ?done
  case hI =>
    rintro pre W W' ⟨i0, i1, i2, i3, i5, i4⟩ hs
    have hs := hs i0
    have f : ∀ {b : Nat} {vs : Array Value} {T : TypeId}, Bx W b vs T → b < B → Bx W' b vs T := fun hx hlt => by
      unfold Bx at *; rw [hs.block _ (by omega)]; exact hx
    exact ⟨Nat.le_trans i0 hs.size, f i1 (by omega), f i2 (by omega), f i3 (by omega), f i5 (by omega), i4.trans (hs.mono (by omega))⟩
  case h0 => exact ⟨Nat.le_refl _, x0, x1, x2, x3, hb1⟩
  case hAx =>
    rintro q a' W W' ⟨b4, h1, h2, h3⟩ hs
    refine ⟨b4, h1, ?_, h3⟩
    unfold Bx at *; rw [hs.block b4 (Bx.lt h2) (by omega) (by omega)]; exact h2
  case assign =>
    rintro l pre q W K hx ⟨i0, i1, i2, i3, i5, i4⟩ hsz hK
    refine wpIn_region_plain rfl ?_
    simp only [encP]
    go_wp2_with fail
    have hb := below_one (w := W) (.cells #[.int .u8 (q.a : Int), .int .u8 (q.b : Int), .int .u8 (q.c : Int)] 70)
    exact hK _ _ (Kept.of_below hb (by omega)) ⟨by simp; omega, i1.alloc _, i2.alloc _, i3.alloc _, i5.alloc _, i4.trans (hb.mono (by omega))⟩ ⟨W.heap.size, by omega, Bx.new _ _ _, rfl⟩
  case body =>
    rintro l pre q a' W hx ⟨i0, i1, i2, i3, i5, i4⟩ ⟨b4, h1, h2, rfl⟩ hsz
    have hqm : q ∈ XS := by obtain ⟨r, hr⟩ := hx; rw [hr]; simp
    have hqo := hok q hqm
    have hs1 := hsn pre q
    obtain ⟨⟨a, ok⟩, hc⟩ : ∃ c, c = fewF V goal pre := ⟨_, rfl⟩
    rw [← hc] at hs1 i3 i5
    have hq1 := fun (t : Ext W) => hea q hqo t.w (hR1 _ (i4.trans (t.below.mono (by omega))))
    have hcq := fun W => hch q (hqo.le h64) W
    have u0 := i1.ext 0 rfl; have u1 := i1.ext 1 rfl; have u2 := i1.ext 2 rfl; have u3 := i1.ext 3 rfl; have u4 := i1.ext 4 rfl; have u5 := i1.ext 5 rfl; have u6 := i1.ext 6 rfl; have u7 := i1.ext 7 rfl; have u8 := i1.ext 8 rfl; have u9 := i1.ext 9 rfl; have u10 := i1.ext 10 rfl; 
    have v0 := h2.ext 0 rfl; have v1 := h2.ext 1 rfl; have v2 := h2.ext 2 rfl
    have y0 := i2.ext 0 rfl
    unfold fewS at hs1
    simp only at hs1
    obtain ⟨eq, heq⟩ : ∃ e, e = earn V q := ⟨_, rfl⟩
    obtain ⟨cq, hcq'⟩ : ∃ e, e = chT V q := ⟨_, rfl⟩
    rw [← heq] at hq1 hs1
    rw [← hcq'] at hcq hs1
    have HS1 := hid hs1
    clear hs1 heq hcq' hc hqm hqo hea hch hok hsn hx hit hR1 x0 x1 x2 x3 hf0
    gi_wp2_with fail
    refine wpIn_region_ext (by kernel_rfl) (by kernel_rfl) ?_
    repeat (quiet_step (first | (go_at_call 58; exact quiet_ext (hq1 _))))
    refine wpQuiet_nil ?_
    intro _ hw'
    obtain ⟨t, rfl⟩ := hw'
    have hbt := t.below
    replace i1 := i1.below hbt; replace i2 := i2.below hbt; replace i3 := i3.below hbt; replace i5 := i5.below hbt; replace h2 := h2.below hbt
    replace i4 := i4.trans (hbt.mono (by omega))
    have hk := Kept.of_below (n0 := s0) (B := W1.heap.size) hbt (by omega)
    have hz := hbt.size
    clear u0 u1 u2 u3 u4 u5 u6 u7 u8 u9 u10 v0 v1 v2 y0 hq1
    generalize t.w = W3 at *
    by_cases hlt : eq < goal
    · have hs2 := HS1.out
      rw [if_pos hlt] at hs2
      have HS2 := hid hs2
      clear hs2
      gi_wp2
      exact ⟨hk, by omega, i1, i2, by rw [HS2.out]; exact i3, by rw [HS2.out]; exact i5, i4⟩
    · have hs2 := HS1.out
      rw [if_neg hlt] at hs2
      have HS2 := hid hs2
      have hle : goal ≤ eq := by omega
      have v0 := h2.cell 0 rfl; have v1 := h2.cell 1 rfl; have v2 := h2.cell 2 rfl
      have c0 := i1.cell 0 rfl; have c1 := i1.cell 1 rfl; have c2 := i1.cell 2 rfl; have c3 := i1.cell 3 rfl; have c4 := i1.cell 4 rfl; have c5 := i1.cell 5 rfl; have c6 := i1.cell 6 rfl; have c7 := i1.cell 7 rfl; have c8 := i1.cell 8 rfl; have c9 := i1.cell 9 rfl; have c10 := i1.cell 10 rfl
      clear hs2 hlt
      cases ok
      · have hs3 := HS2.out
        rw [if_pos (Or.inl rfl)] at hs3
        clear HS2
        have HS2 := hid hs3
        clear hs3
        gi_wp2_with (refine ⟨trivial, rfl, (CallsIn.inRound l (callsIn_wide.2 (hcq _))).mono ?_⟩; rintro e W4 ⟨rfl, hb4⟩; (try clear c0 c1 c2 c3 c4 c5 c6 c7 c8 c9 c10 v0 v1 v2 hcq); replace i1 := i1.below hb4; replace i2 := i2.below hb4; replace i3 := i3.below hb4; replace i5 := i5.below hb4; replace i4 := i4.trans (hb4.mono (by omega)); replace hk := hk.trans (Kept.of_below (n0 := s0) (B := W1.heap.size) hb4 (by omega)); replace hz := Nat.le_trans hz hb4.size; clear hb4 h2; have e3 := i3.cell 0 rfl; have e5 := i5.cell 0 rfl; have f3 := i3.free 0; have f5 := i5.free 0)
        gi_wp2
        have hk' := (hk.trans (Kept.set (p := ⟨s0 + 1 + 1, 0, none⟩) (by show s0 ≤ s0 + 1 + 1; omega) (by show s0 + 1 + 1 < W1.heap.size; omega) (.int .i64 (cq : Int)))).trans (Kept.set (p := ⟨s0 + 1 + 1 + 1, 0, none⟩) (by show s0 ≤ s0 + 1 + 1 + 1; omega) (by show s0 + 1 + 1 + 1 < W1.heap.size; omega) (.bool true))
        have i1' := (i1.other (a := ⟨s0 + 1 + 1, 0, none⟩) (by show s0 ≠ s0 + 1 + 1; omega) (.int .i64 (cq : Int))).other (a := ⟨s0 + 1 + 1 + 1, 0, none⟩) (by show s0 ≠ s0 + 1 + 1 + 1; omega) (.bool true)
        have i2' := (i2.other (a := ⟨s0 + 1 + 1, 0, none⟩) (by show s0 + 1 ≠ s0 + 1 + 1; omega) (.int .i64 (cq : Int))).other (a := ⟨s0 + 1 + 1 + 1, 0, none⟩) (by show s0 + 1 ≠ s0 + 1 + 1 + 1; omega) (.bool true)
        have i3' := (i3.set 0 (.int .i64 (cq : Int))).other (a := ⟨s0 + 1 + 1 + 1, 0, none⟩) (by show s0 + 1 + 1 ≠ s0 + 1 + 1 + 1; omega) (.bool true)
        have i5' := (i5.other (a := ⟨s0 + 1 + 1, 0, none⟩) (by show s0 + 1 + 1 + 1 ≠ s0 + 1 + 1; omega) (.int .i64 (cq : Int))).set 0 (.bool true)
        have i4' := (i4.setCell (p := ⟨s0 + 1 + 1, 0, none⟩) (by show s0 ≤ s0 + 1 + 1; omega) (.int .i64 (cq : Int))).setCell (p := ⟨s0 + 1 + 1 + 1, 0, none⟩) (by show s0 ≤ s0 + 1 + 1 + 1; omega) (.bool true)
        exact ⟨hk', by have := hk'.below.size; omega, i1', i2', by rw [HS2.out]; exact i3', by rw [HS2.out]; exact i5', i4'⟩
      · by_cases hl : (cq : Int) < a
        · have hs3 := HS2.out
          rw [if_pos (Or.inr hl)] at hs3
          clear HS2
          have HS2 := hid hs3
          clear hs3
          gi_wp2_with (refine ⟨trivial, rfl, (CallsIn.inRound l (callsIn_wide.2 (hcq _))).mono ?_⟩; rintro e W4 ⟨rfl, hb4⟩; (try clear c0 c1 c2 c3 c4 c5 c6 c7 c8 c9 c10 v0 v1 v2 hcq); replace i1 := i1.below hb4; replace i2 := i2.below hb4; replace i3 := i3.below hb4; replace i5 := i5.below hb4; replace i4 := i4.trans (hb4.mono (by omega)); replace hk := hk.trans (Kept.of_below (n0 := s0) (B := W1.heap.size) hb4 (by omega)); replace hz := Nat.le_trans hz hb4.size; clear hb4 h2; have e3 := i3.cell 0 rfl; have e5 := i5.cell 0 rfl; have f3 := i3.free 0; have f5 := i5.free 0)
          gi_wp2
          have hk' := (hk.trans (Kept.set (p := ⟨s0 + 1 + 1, 0, none⟩) (by show s0 ≤ s0 + 1 + 1; omega) (by show s0 + 1 + 1 < W1.heap.size; omega) (.int .i64 (cq : Int)))).trans (Kept.set (p := ⟨s0 + 1 + 1 + 1, 0, none⟩) (by show s0 ≤ s0 + 1 + 1 + 1; omega) (by show s0 + 1 + 1 + 1 < W1.heap.size; omega) (.bool true))
          have i1' := (i1.other (a := ⟨s0 + 1 + 1, 0, none⟩) (by show s0 ≠ s0 + 1 + 1; omega) (.int .i64 (cq : Int))).other (a := ⟨s0 + 1 + 1 + 1, 0, none⟩) (by show s0 ≠ s0 + 1 + 1 + 1; omega) (.bool true)
          have i2' := (i2.other (a := ⟨s0 + 1 + 1, 0, none⟩) (by show s0 + 1 ≠ s0 + 1 + 1; omega) (.int .i64 (cq : Int))).other (a := ⟨s0 + 1 + 1 + 1, 0, none⟩) (by show s0 + 1 ≠ s0 + 1 + 1 + 1; omega) (.bool true)
          have i3' := (i3.set 0 (.int .i64 (cq : Int))).other (a := ⟨s0 + 1 + 1 + 1, 0, none⟩) (by show s0 + 1 + 1 ≠ s0 + 1 + 1 + 1; omega) (.bool true)
          have i5' := (i5.other (a := ⟨s0 + 1 + 1, 0, none⟩) (by show s0 + 1 + 1 + 1 ≠ s0 + 1 + 1; omega) (.int .i64 (cq : Int))).set 0 (.bool true)
          have i4' := (i4.setCell (p := ⟨s0 + 1 + 1, 0, none⟩) (by show s0 ≤ s0 + 1 + 1; omega) (.int .i64 (cq : Int))).setCell (p := ⟨s0 + 1 + 1 + 1, 0, none⟩) (by show s0 ≤ s0 + 1 + 1 + 1; omega) (.bool true)
          exact ⟨hk', by have := hk'.below.size; omega, i1', i2', by rw [HS2.out]; exact i3', by rw [HS2.out]; exact i5', i4'⟩
        · have hs3 := HS2.out
          rw [if_neg (by simp; omega)] at hs3
          clear HS2
          have HS2 := hid hs3
          have hl2 : a ≤ (cq : Int) := by omega
          clear hs3 hl
          gi_wp2_with (refine ⟨trivial, rfl, (CallsIn.inRound l (callsIn_wide.2 (hcq _))).mono ?_⟩; rintro e W4 ⟨rfl, hb4⟩; (try clear c0 c1 c2 c3 c4 c5 c6 c7 c8 c9 c10 v0 v1 v2 hcq); replace i1 := i1.below hb4; replace i2 := i2.below hb4; replace i3 := i3.below hb4; replace i5 := i5.below hb4; replace i4 := i4.trans (hb4.mono (by omega)); replace hk := hk.trans (Kept.of_below (n0 := s0) (B := W1.heap.size) hb4 (by omega)); replace hz := Nat.le_trans hz hb4.size; clear hb4 h2; have e3 := i3.cell 0 rfl; have e5 := i5.cell 0 rfl; have f3 := i3.free 0; have f5 := i5.free 0)
          gi_wp2
          exact ⟨hk, by have := hk.below.size; omega, i1, i2, by rw [HS2.out]; exact i3, by rw [HS2.out]; exact i5, i4⟩
  case done =>
    rintro W ⟨i0, i1, i2, i3, i5, i4⟩ hD hsz
    rw [← HP.out] at i3 i5
    have u0 := i3.ext 0 rfl; have u1 := i5.ext 0 rfl
    clear hea hch hok hsn hf0 hit hR1 x0 x1 x2 x3
    go_wp2_with fail
    clear u0 u1
    refine wp_region_head 3 (fun w' => Bx w' (s0 + 1 + 1) #[.int .i64 y] 3 ∧ Bx w' (s0 + 1 + 1 + 1) #[.bool o] 4) (by kernel_rfl) rfl ?_
    have hbt := (Below.refl W.heap.size W).drew
    have S0 := And.intro (i3.below hbt) (i5.below hbt)
    replace i4 := i4.trans (hbt.mono (by omega))
    have hD2 := (hbt.block W1.heap.size (by omega)).trans hD
    clear i1 i2 i3 i5 i0 hD hsz hbt
    generalize W.drew = Y0 at *
    refine HeadAt.take (i := 0) (.int .i64 y) rfl (by kernel_rfl) (.inl ⟨rfl, fun w' z => ?_⟩) S0 ?_
    · (have z0 := z.1.cell 0 rfl; simp [go_sem, z0])
    refine HeadAt.take (i := 1) (.bool o) rfl (by kernel_rfl) (.inl ⟨rfl, fun w' z => ?_⟩) S0 ?_
    · (have z0 := z.2.cell 0 rfl; simp [go_sem, z0])
    (try simp only [Act.put, List.getElem_toArray, List.getElem_cons_succ, List.getElem_cons_zero, List.setIfInBounds_toArray, List.set_cons_succ, List.set_cons_zero])
    refine HeadAt.one (i := 2) rfl (by kernel_rfl) ?_
    generalize hK : Upto _ _ = K0
    (try simp only [Act.put, List.getElem_toArray, List.getElem_cons_succ, List.getElem_cons_zero, List.setIfInBounds_toArray, List.set_cons_succ, List.set_cons_zero])
    have v0 := S0.1.cell 0 rfl
    have f0 := S0.1.free 0
    have S1 : Bx (Y0.setCell ⟨s0 + 1 + 1, 0, none⟩ (.int .i64 y)) (s0 + 1 + 1) #[.int .i64 y] 3 ∧ Bx (Y0.setCell ⟨s0 + 1 + 1, 0, none⟩ (.int .i64 y)) (s0 + 1 + 1 + 1) #[.bool o] 4 := ⟨S0.1.set 0 _, S0.2.other (by show s0 + 1 + 1 + 1 ≠ s0 + 1 + 1; omega) _⟩
    have i41 := i4.setCell (p := ⟨s0 + 1 + 1, 0, none⟩) (by show s0 ≤ s0 + 1 + 1; omega) (.int .i64 y)
    have hM1 := (Marks.one hD2).set (a := ⟨s0 + 1 + 1, 0, none⟩) (by show s0 + 1 + 1 < W1.heap.size; omega) (.int .i64 y)
    have HX := hid (And.intro S1 (And.intro i41 hM1))
    clear S1 i41 hM1
    go_wp2_with fail
    subst hK
    obtain ⟨S1, i41, hM1⟩ := HX.out
    refine ⟨S1, ?_⟩
    generalize Y0.setCell ⟨s0 + 1 + 1, 0, none⟩ (.int .i64 y) = Y1 at *
    refine HeadAt.done (by kernel_rfl) ?_
    (try simp only [Act.put, List.drop_succ_cons, List.drop_zero, List.getElem_toArray, List.getElem_cons_succ, List.getElem_cons_zero])
    have v1 := S1.2.cell 0 rfl
    have f1 := S1.2.free 0
    have i3' := S1.1.other (a := ⟨s0 + 1 + 1 + 1, 0, none⟩) (by show s0 + 1 + 1 ≠ s0 + 1 + 1 + 1; omega) (.bool o)
    have i5' := S1.2.set 0 (.bool o)
    have i4' := i41.setCell (p := ⟨s0 + 1 + 1 + 1, 0, none⟩) (by show s0 ≤ s0 + 1 + 1 + 1; omega) (.bool o)
    have hM := hM1.set (a := ⟨s0 + 1 + 1 + 1, 0, none⟩) (by show s0 + 1 + 1 + 1 < W1.heap.size; omega) (.bool o)
    have HH := hid (And.intro i3' (And.intro i5' (And.intro i4' hM)))
    clear i3' i5' i4' hM
    go_wp2_with fail
    refine NoPanic.normal ?_
    go_wp2_with fail
    obtain ⟨i3', i5', i4', hM⟩ := HH.out
    refine leaves_marks _ _ hM fun w' hc => ?_
    have r := (hc.bx i3').cell 0 rfl; have s := (hc.bx i5').cell 0 rfl
    refine ⟨.tuple #[.int .i64 y, .bool o], ?_, rfl, ?_⟩
    · have r' : w'.cell? ⟨s0 + 1 + 1, 0, none⟩ = some (.int .i64 y) := r
      have s' : w'.cell? ⟨s0 + 1 + 1 + 1, 0, none⟩ = some (.bool o) := s
      simp [results, Try.results71, go_sem, r', s']
    · rw [← HS0.out]; exact i4'.trans (hc.1.mono (by omega))
end Go.Proofs.Ytipdohpbilabiaa
