import Derived.Test.YtipdohpbilabiaaD5
/-! The best plan. -/
namespace Go.Proofs.Ytipdohpbilabiaa
set_option linter.unusedSimpArgs false
set_option linter.unusedVariables false
open Go Go.RowKit

attribute [local go_sem] Oper.semAt_some

/-- A region of a round whose operations keep what is there. -/
theorem wpIn_region_ext {P : Program} {id l m : Nat} {Q : Exit → Act → World → Prop} {a : Act} {w : World} {L : List Oper} (hm : P.follows .mixedOrders = true) (hB : (L.all noDef && Region.lexB .any L.toArray) = true)
    (h : wpQuiet P L.toArray (fun w' => ∃ t : Ext w, w' = t.w) (fun a' => ∀ w', (∃ t : Ext w, w' = t.w) → Q .normal a' w') L a) : (Code.region id L.toArray true).wpIn (RF l) m P Q a w := by
  simp only [Bool.and_eq_true, Region.lexB] at hB
  obtain ⟨hd, hB⟩ := hB
  refine Go.wpIn_mono (wpIn_region_any hm (anyIn_of (by simpa using hd) only_lets _ _ _ _ (wpAny_of_quiet (C := fun w' => ∃ t : Ext w, w' = t.w) (Q' := Exit.then (Q .normal) fun _ _ _ => False) (Q := fun a' => ∀ w', (∃ t : Ext w, w' = t.w) → Q .normal a' w') (fun _ w' hw' h => h w' hw') _ _ _ _ ⟨⟨w.drew, (Below.refl w.heap.size w).drew⟩, rfl⟩ ?_))) only_imp
  have := wpAnyQ_lex (C := fun w' => ∃ t : Ext w, w' = t.w) (md := .any) hB.1 L.toArray.toList 0 (Array.replicate L.toArray.size false) a (by simp) (by simpa using hB.2) (by simpa using h)
  simpa using this

set_option maxRecDepth 100000 in
set_option maxHeartbeats 2000000 in
theorem plans_iter (ab ast ae ak : Option Addr) (cb cs ce nk ck : Nat) (V : Vz) (hV : VOk V) (n0 B : Nat) (w0 w : World) (hR : Vis w0 ast ae V) (hn0 : w0.heap.size ≤ n0) (hw : Below n0 w0 w) (hnw : n0 ≤ w.heap.size) : Iter Try.prog 85 #[.agg #[.slice ab V.nb cb, .slice ast V.st.length cs, .slice ae V.er.length ce, .slice ak nk ck, .int .i64 V.ch, .int .u8 (V.now.a : Int), .int .u8 (V.now.b : Int), .int .u8 (V.now.c : Int), .int .u8 (V.stay.a : Int), .int .u8 (V.stay.b : Int), .int .u8 (V.stay.c : Int)]] #[] encP (plansV V) (Below B) n0 B w := by
  intro l J W hW hs hJ hY h0
  obtain ⟨W1, hW1, hb1, hs1, x0⟩ := boxes1 W #[.slice ab V.nb cb, .slice ast V.st.length cs, .slice ae V.er.length ce, .slice ak nk ck, .int .i64 V.ch, .int .u8 (V.now.a : Int), .int .u8 (V.now.b : Int), .int .u8 (V.now.c : Int), .int .u8 (V.stay.a : Int), .int .u8 (V.stay.b : Int), .int .u8 (V.stay.c : Int)] 72
  have hf := fill_rec ab ast ae ak cb cs ce nk ck V hV l n0 B w0 hR hn0 (by rw [← hs]; exact Nat.le_trans hnw hW.size) (plansV V) J hJ hY V.nb 0 pl0 [] [] W1 (by omega) ⟨Nat.two_pow_pos _, Nat.two_pow_pos _, Nat.two_pow_pos _⟩ (by unfold plansV; simp) (hJ _ _ _ h0 (hb1.mono (by omega))) ((hw.trans (hW.mono hnw)).trans (hb1.mono (Nat.le_trans hnw hW.size))) (by omega)
  have hpl : plansF V V.nb pl0 0 = plansV V := rfl
  rw [hpl, List.nil_append] at hf
  have c0 := x0.cell 0 rfl; have c1 := x0.cell 1 rfl; have c2 := x0.cell 2 rfl; have c3 := x0.cell 3 rfl; have c4 := x0.cell 4 rfl; have c5 := x0.cell 5 rfl; have c6 := x0.cell 6 rfl; have c7 := x0.cell 7 rfl; have c8 := x0.cell 8 rfl; have c9 := x0.cell 9 rfl; have c10 := x0.cell 10 rfl
  clear hJ hY h0 hs
  go_enter Try.func85, Try.ntmps85
  go_wp2_with fail
  refine hf.mono ?_
  rintro e W2 ⟨rfl, hj, _⟩
  go_wp2
  go_end0
  exact ⟨⟨_, rfl⟩, hj⟩

/-- The best of plans. -/
def bestF (V : Vz) (l : List Pl) : Pl := l.foldl (fun b p => if earn V b < earn V p then p else b) V.now
def bestP (V : Vz) : Pl := bestF V (plansV V)
theorem bestF_snoc (V : Vz) (l : List Pl) (p : Pl) : bestF V (l ++ [p]) = if earn V (bestF V l) < earn V p then p else bestF V l := by unfold bestF; rw [List.foldl_append]; rfl

theorem plansF_ok {V : Vz} : ∀ (r : Nat) (p : Pl) (box : Nat), p.ok (2 ^ V.st.length) → ∀ q ∈ plansF V r p box, q.ok (2 ^ V.st.length)
  | 0, p, _, hp, q, hq => by
    unfold plansF at hq
    split at hq
    · simp at hq; subst hq; exact hp
    · simp at hq
  | r + 1, p, box, hp, q, hq => by
    unfold plansF at hq
    rw [List.mem_flatMap] at hq
    obtain ⟨t, ht, hq⟩ := hq
    split at hq
    · exact plansF_ok r _ _ (hp.set box (by simpa using ht)) q hq
    · simp at hq
theorem plansV_ok {V : Vz} {q : Pl} (hq : q ∈ plansV V) : q.ok (2 ^ V.st.length) := plansF_ok _ _ _ ⟨Nat.two_pow_pos _, Nat.two_pow_pos _, Nat.two_pow_pos _⟩ q hq
theorem bestF_ok {V : Vz} (hV : VOk V) : ∀ (l : List Pl), (∀ q ∈ l, q.ok (2 ^ V.st.length)) → (bestF V l).ok (2 ^ V.st.length) := by
  intro l hl
  have : ∀ (l : List Pl) (b : Pl), b.ok (2 ^ V.st.length) → (∀ q ∈ l, q.ok (2 ^ V.st.length)) → (l.foldl (fun b p => if earn V b < earn V p then p else b) b).ok (2 ^ V.st.length) := by
    intro l
    induction l with
    | nil => intro b hb _; exact hb
    | cons x l ih =>
      intro b hb h
      refine ih _ ?_ (fun q hq => h q (by simp [hq]))
      show Pl.ok (if earn V b < earn V x then x else b) _
      by_cases hh : earn V b < earn V x
      · rw [if_pos hh]; exact h x (by simp)
      · rw [if_neg hh]; exact hb
  exact this l V.now hV.now hl

theorem Marks.one {B : Nat} {W : World} (h : W.heap[B]? = some (.deferred (some []))) : Marks B W [{ target := .collected B, args := #[] }] :=
  ⟨B, rfl, Nat.le_refl _, h, trivial, fun d hd => by cases hd⟩

set_option maxRecDepth 100000 in
set_option maxHeartbeats 3000000 in
theorem bestPlan_any (ab ast ae ak : Option Addr) (cb cs ce nk ck : Nat) (V : Vz) (hV : VOk V) (w : World) (hR : Vis w ast ae V) (p : Pl) (hp : p = bestP V) : Calls Try.prog 66 #[.agg #[.slice ab V.nb cb, .slice ast V.st.length cs, .slice ae V.er.length ce, .slice ak nk ck, .int .i64 V.ch, .int .u8 (V.now.a : Int), .int .u8 (V.now.b : Int), .int .u8 (V.now.c : Int), .int .u8 (V.stay.a : Int), .int .u8 (V.stay.b : Int), .int .u8 (V.stay.c : Int)]] w fun e w' => e = .returned (.agg #[.int .u8 (p.a : Int), .int .u8 (p.b : Int), .int .u8 (p.c : Int)]) ∧ Below w.heap.size w w' := by
  refine calls_of_wp_marks Try.func66 rfl ?_
  simp only [Try.ntmps66, List.size_toArray, List.length_cons, List.length_nil, Nat.reduceAdd, Nat.reduceSub, Array.replicate_succ, Array.replicate_zero, List.push_toArray, List.append_toArray, List.nil_append, List.cons_append]
  obtain ⟨W1, hW1, hb1, hs1, x0, x1, x2⟩ := boxes3 w #[.slice ab V.nb cb, .slice ast V.st.length cs, .slice ae V.er.length ce, .slice ak nk ck, .int .i64 V.ch, .int .u8 (V.now.a : Int), .int .u8 (V.now.b : Int), .int .u8 (V.now.c : Int), .int .u8 (V.stay.a : Int), .int .u8 (V.stay.b : Int), .int .u8 (V.stay.c : Int)] 72 #[.int .u8 0, .int .u8 0, .int .u8 0] 70 #[.int .u8 (V.now.a : Int), .int .u8 (V.now.b : Int), .int .u8 (V.now.c : Int)] 70
  have hit := plans_iter ab ast ae ak cb cs ce nk ck V hV w.heap.size (W1.heap.size + 2) w W1 hR (Nat.le_refl _) hb1 hb1.size
  have hea := fun (q : Pl) (hq : q.ok (2 ^ V.st.length)) W h => earns_any ab ast ae ak cb cs ce nk ck V hV q hq W h
  have hok : ∀ q ∈ plansV V, q.ok (2 ^ V.st.length) := fun q => plansV_ok
  have hbo := fun l hl => bestF_ok hV l hl
  have hsn := fun l q => bestF_snoc V l q
  have hb0 : bestF V [] = V.now := rfl
  have HP := hid (show p = bestF V (plansV V) from hp)
  have hR1 := fun W (h : Below w.heap.size w W) => hR.below h (Nat.le_refl _)
  clear hp hV hR
  generalize plansV V = XS at *
  have c0 := x0.cell 0 rfl; have c1 := x0.cell 1 rfl; have c2 := x0.cell 2 rfl; have c3 := x0.cell 3 rfl; have c4 := x0.cell 4 rfl; have c5 := x0.cell 5 rfl; have c6 := x0.cell 6 rfl; have c7 := x0.cell 7 rfl; have c8 := x0.cell 8 rfl; have c9 := x0.cell 9 rfl; have c10 := x0.cell 10 rfl
  go_wp2_with fail
  clear hW1 c0 c1 c2 c3 c4 c5 c6 c7 c8 c9 c10
  obtain ⟨s0, hs0⟩ : ∃ s0, s0 = w.heap.size := ⟨_, rfl⟩
  obtain ⟨B, hB⟩ : ∃ B, B = W1.heap.size := ⟨_, rfl⟩
  rw [← hs0] at x0 x1 x2 hb1 hit hR1 hs1 ⊢
  have HS0 := hid hs0
  have hsB : B = s0 + 1 + 1 + 1 := by rw [hB]; exact hs1
  clear hs0 hs1
  refine wp_rangeFuncB (α := Pl) s0 (by omega) (gf := 85) (bd := #[.agg #[.slice ab V.nb cb, .slice ast V.st.length cs, .slice ae V.er.length ce, .slice ak nk ck, .int .i64 V.ch, .int .u8 (V.now.a : Int), .int .u8 (V.now.b : Int), .int .u8 (V.now.c : Int), .int .u8 (V.stay.a : Int), .int .u8 (V.stay.b : Int), .int .u8 (V.stay.c : Int)]]) (lb := #[]) (encs := encP) (xs := XS) (StI := Below (W1.heap.size + 2)) (St := fun W W' => W1.heap.size ≤ W.heap.size → Below W1.heap.size W W')
    rfl (enters_of Try.func85 (by kernel_rfl) rfl) (fun _ => by rfl) hit (fun W W' h h2 => h.below h2) (fun W W' _ h => h) (fun W W' h _ => h.mono (by omega))
    (fun pre W => W1.heap.size ≤ W.heap.size ∧ Bx W s0 #[.slice ab V.nb cb, .slice ast V.st.length cs, .slice ae V.er.length ce, .slice ak nk ck, .int .i64 V.ch, .int .u8 (V.now.a : Int), .int .u8 (V.now.b : Int), .int .u8 (V.now.c : Int), .int .u8 (V.stay.a : Int), .int .u8 (V.stay.b : Int), .int .u8 (V.stay.c : Int)] 72 ∧ Bx W (s0 + 1) #[.int .u8 0, .int .u8 0, .int .u8 0] 70 ∧ Bx W (s0 + 1 + 1) #[.int .u8 ((bestF V pre).a : Int), .int .u8 ((bestF V pre).b : Int), .int .u8 ((bestF V pre).c : Int)] 70 ∧ Below s0 w W)
    ?hI ?h0 (fun q a' W => ∃ b4, B + 2 ≤ b4 ∧ Bx W b4 #[.int .u8 (q.a : Int), .int .u8 (q.b : Int), .int .u8 (q.c : Int)] 70 ∧ a' = { tmps := #[.agg #[.slice ab V.nb cb, .slice ast V.st.length cs, .slice ae V.er.length ce, .slice ak nk ck, .int .i64 V.ch, .int .u8 (V.now.a : Int), .int .u8 (V.now.b : Int), .int .u8 (V.now.c : Int), .int .u8 (V.stay.a : Int), .int .u8 (V.stay.b : Int), .int .u8 (V.stay.c : Int)], .pointer (some ⟨s0, 0, none⟩), .pointer (some ⟨s0 + 1, 0, none⟩), .pointer (some ⟨s0 + 1 + 1, 0, none⟩), .pointer (some ⟨b4, 0, none⟩), .pointer (some ⟨s0, 5, none⟩), .agg #[.int .u8 (V.now.a : Int), .int .u8 (V.now.b : Int), .int .u8 (V.now.c : Int)], .agg #[.slice ab V.nb cb, .slice ast V.st.length cs, .slice ae V.er.length ce, .slice ak nk ck, .int .i64 V.ch, .int .u8 (V.now.a : Int), .int .u8 (V.now.b : Int), .int .u8 (V.now.c : Int), .int .u8 (V.stay.a : Int), .int .u8 (V.stay.b : Int), .int .u8 (V.stay.c : Int)], .func (.func 85) #[.agg #[.slice ab V.nb cb, .slice ast V.st.length cs, .slice ae V.er.length ce, .slice ak nk ck, .int .i64 V.ch, .int .u8 (V.now.a : Int), .int .u8 (V.now.b : Int), .int .u8 (V.now.c : Int), .int .u8 (V.stay.a : Int), .int .u8 (V.stay.b : Int), .int .u8 (V.stay.c : Int)]] #[], .agg #[.int .u8 (q.a : Int), .int .u8 (q.b : Int), .int .u8 (q.c : Int)], undef, undef, undef, undef, undef, undef, undef, undef, undef], defers := [] }) ?hAx ?assign ?body ?done
  case hI =>
    rintro pre W W' ⟨i0, i1, i2, i3, i4⟩ hs
    have hs := hs i0
    have f : ∀ {b : Nat} {vs : Array Value} {T : TypeId}, Bx W b vs T → b < B → Bx W' b vs T := fun hx hlt => by
      unfold Bx at *; rw [hs.block _ (by omega)]; exact hx
    exact ⟨Nat.le_trans i0 hs.size, f i1 (by omega), f i2 (by omega), f i3 (by omega), i4.trans (hs.mono (by omega))⟩
  case h0 => exact ⟨Nat.le_refl _, x0, x1, x2, hb1⟩
  case hAx =>
    rintro q a' W W' ⟨b4, h1, h2, h3⟩ hs
    refine ⟨b4, h1, ?_, h3⟩
    unfold Bx at *; rw [hs.block b4 (Bx.lt h2) (by omega) (by omega)]; exact h2
  case assign =>
    rintro l pre q W K hx ⟨i0, i1, i2, i3, i4⟩ hsz hK
    refine wpIn_region_plain rfl ?_
    simp only [encP]
    go_wp2_with fail
    have hb := below_one (w := W) (.cells #[.int .u8 (q.a : Int), .int .u8 (q.b : Int), .int .u8 (q.c : Int)] 70)
    exact hK _ _ (Kept.of_below hb (by omega)) ⟨by simp; omega, i1.alloc _, i2.alloc _, i3.alloc _, i4.trans (hb.mono (by omega))⟩ ⟨W.heap.size, by omega, Bx.new _ _ _, rfl⟩
  case body =>
    rintro l pre q a' W hx ⟨i0, i1, i2, i3, i4⟩ ⟨b4, h1, h2, rfl⟩ hsz
    have hqm : q ∈ XS := by obtain ⟨r, hr⟩ := hx; rw [hr]; simp
    have hpm : ∀ y ∈ pre, y.ok (2 ^ V.st.length) := fun y hy => hok y (by obtain ⟨r, hr⟩ := hx; rw [hr]; simp [hy])
    have hqo := hok q hqm
    have hbp := hbo pre hpm
    have hs1 := hsn pre q
    obtain ⟨b, hb⟩ : ∃ b, b = bestF V pre := ⟨_, rfl⟩
    rw [← hb] at hs1 hbp i3
    have hq1 := fun (t : Ext W) => hea q hqo t.w (hR1 _ (i4.trans (t.below.mono (by omega))))
    have hq2 := fun (t : Ext W) => hea b hbp t.w (hR1 _ (i4.trans (t.below.mono (by omega))))
    have u0 := i1.ext 0 rfl; have u1 := i1.ext 1 rfl; have u2 := i1.ext 2 rfl; have u3 := i1.ext 3 rfl; have u4 := i1.ext 4 rfl; have u5 := i1.ext 5 rfl; have u6 := i1.ext 6 rfl; have u7 := i1.ext 7 rfl; have u8 := i1.ext 8 rfl; have u9 := i1.ext 9 rfl; have u10 := i1.ext 10 rfl; 
    have v0 := h2.ext 0 rfl; have v1 := h2.ext 1 rfl; have v2 := h2.ext 2 rfl
    have y0 := i3.ext 0 rfl; have y1 := i3.ext 1 rfl; have y2 := i3.ext 2 rfl
    obtain ⟨eq, heq⟩ : ∃ e, e = earn V q := ⟨_, rfl⟩
    obtain ⟨eb, heb⟩ : ∃ e, e = earn V b := ⟨_, rfl⟩
    rw [← heq] at hq1 hs1
    rw [← heb] at hq2 hs1
    have HS1 := hid hs1
    clear hs1 heq heb hb hqm hpm hqo hbp hea hok hbo hsn hb0 hx hit hR1 x0 x1 x2
    gi_wp2_with fail
    refine wpIn_region_ext (by kernel_rfl) (by kernel_rfl) ?_
    iterate 3 (quiet_step (first | (go_at_call 58; exact quiet_ext (hq1 _))))
    repeat (quiet_step (first | (go_at_call 58; exact quiet_ext (hq2 _))))
    refine wpQuiet_nil ?_
    intro _ hw'
    obtain ⟨t, rfl⟩ := hw'
    have hbt := t.below
    replace i1 := i1.below hbt; replace i2 := i2.below hbt; replace i3 := i3.below hbt; replace h2 := h2.below hbt
    replace i4 := i4.trans (hbt.mono (by omega))
    have hk := Kept.of_below (n0 := s0) (B := W1.heap.size) hbt (by omega)
    have hz := hbt.size
    clear u0 u1 u2 u3 u4 u5 u6 u7 u8 u9 u10 v0 v1 v2 y0 y1 y2 hq1 hq2
    generalize t.w = W2 at *
    by_cases hlt : eb < eq
    · have hs2 := HS1.out
      rw [if_pos hlt] at hs2
      have v0 := h2.cell 0 rfl; have v1 := h2.cell 1 rfl; have v2 := h2.cell 2 rfl
      have f0 := i3.free 0; have f1 := i3.free 1; have f2 := i3.free 2
      have y0 := i3.cell 0 rfl; have y1 := i3.cell 1 rfl; have y2 := i3.cell 2 rfl
      have i3' := i3.set3 (.int .u8 (q.a : Int)) (.int .u8 (q.b : Int)) (.int .u8 (q.c : Int))
      have hk3 := ((hk.trans (Kept.set (p := ⟨s0 + 1 + 1, 0, none⟩) (by show s0 ≤ s0 + 1 + 1; omega) (by show s0 + 1 + 1 < W1.heap.size; omega) (.int .u8 (q.a : Int)))).trans (Kept.set (p := ⟨s0 + 1 + 1, 1, none⟩) (by show s0 ≤ s0 + 1 + 1; omega) (by show s0 + 1 + 1 < W1.heap.size; omega) (.int .u8 (q.b : Int)))).trans (Kept.set (p := ⟨s0 + 1 + 1, 2, none⟩) (by show s0 ≤ s0 + 1 + 1; omega) (by show s0 + 1 + 1 < W1.heap.size; omega) (.int .u8 (q.c : Int)))
      have i4' := ((i4.setCell (p := ⟨s0 + 1 + 1, 0, none⟩) (by show s0 ≤ s0 + 1 + 1; omega) (.int .u8 (q.a : Int))).setCell (p := ⟨s0 + 1 + 1, 1, none⟩) (by show s0 ≤ s0 + 1 + 1; omega) (.int .u8 (q.b : Int))).setCell (p := ⟨s0 + 1 + 1, 2, none⟩) (by show s0 ≤ s0 + 1 + 1; omega) (.int .u8 (q.c : Int))
      have i1' := ((i1.other (a := ⟨s0 + 1 + 1, 0, none⟩) (by show s0 ≠ s0 + 1 + 1; omega) (.int .u8 (q.a : Int))).other (a := ⟨s0 + 1 + 1, 1, none⟩) (by show s0 ≠ s0 + 1 + 1; omega) (.int .u8 (q.b : Int))).other (a := ⟨s0 + 1 + 1, 2, none⟩) (by show s0 ≠ s0 + 1 + 1; omega) (.int .u8 (q.c : Int))
      have i2' := ((i2.other (a := ⟨s0 + 1 + 1, 0, none⟩) (by show s0 + 1 ≠ s0 + 1 + 1; omega) (.int .u8 (q.a : Int))).other (a := ⟨s0 + 1 + 1, 1, none⟩) (by show s0 + 1 ≠ s0 + 1 + 1; omega) (.int .u8 (q.b : Int))).other (a := ⟨s0 + 1 + 1, 2, none⟩) (by show s0 + 1 ≠ s0 + 1 + 1; omega) (.int .u8 (q.c : Int))
      have HH := hid (And.intro hk3 (And.intro i1' (And.intro i2' (And.intro i3' i4'))))
      have HS2 := hid hs2
      clear hs2 hk3 i4' i3' i2' i1'
      gi_wp2
      obtain ⟨hk3, i1', i2', i3', i4'⟩ := HH.out
      exact ⟨hk3, by have := hk3.below.size; omega, i1', i2', by rw [HS2.out]; exact i3', i4'⟩
    · have hs2 := HS1.out
      rw [if_neg hlt] at hs2
      have HS2 := hid hs2
      have hle : eq ≤ eb := by omega
      clear hs2 hlt
      gi_wp2
      exact ⟨hk, by omega, i1, i2, by rw [HS2.out]; exact i3, i4⟩
  case done =>
    rintro W ⟨i0, i1, i2, i3, i4⟩ hD hsz
    rw [← HP.out] at i3
    have v0 := i3.cell 0 rfl; have v1 := i3.cell 1 rfl; have v2 := i3.cell 2 rfl
    have f0 := i2.free 0; have f1 := i2.free 1; have f2 := i2.free 2
    have y0 := i2.cell 0 rfl; have y1 := i2.cell 1 rfl; have y2 := i2.cell 2 rfl
    have i2' := i2.set3 (.int .u8 (p.a : Int)) (.int .u8 (p.b : Int)) (.int .u8 (p.c : Int))
    have hb' := ((i4.setCell (p := ⟨s0 + 1, 0, none⟩) (by show s0 ≤ s0 + 1; omega) (.int .u8 (p.a : Int))).setCell (p := ⟨s0 + 1, 1, none⟩) (by show s0 ≤ s0 + 1; omega) (.int .u8 (p.b : Int))).setCell (p := ⟨s0 + 1, 2, none⟩) (by show s0 ≤ s0 + 1; omega) (.int .u8 (p.c : Int))
    have hM : Marks W1.heap.size (((W.setCell ⟨s0 + 1, 0, none⟩ (.int .u8 (p.a : Int))).setCell ⟨s0 + 1, 1, none⟩ (.int .u8 (p.b : Int))).setCell ⟨s0 + 1, 2, none⟩ (.int .u8 (p.c : Int))) [{ target := .collected W1.heap.size, args := #[] }] :=
      Marks.set (Marks.set (Marks.set (Marks.one hD) (by show s0 + 1 < W1.heap.size; omega) _) (by show s0 + 1 < W1.heap.size; omega) _) (by show s0 + 1 < W1.heap.size; omega) _
    have HH := hid (And.intro i2' (And.intro hb' hM))
    clear i2' hb' hM hea hok hbo hsn hb0 hit hR1 x0 x1 x2
    go_wp2_with fail
    obtain ⟨i2', hb', hM⟩ := HH.out
    refine leaves_marks _ _ hM fun w' hc => ?_
    have r := hc.bx i2'
    have r0 := r.cell 0 rfl; have r1 := r.cell 1 rfl; have r2 := r.cell 2 rfl
    refine ⟨.agg #[.int .u8 (p.a : Int), .int .u8 (p.b : Int), .int .u8 (p.c : Int)], ?_, rfl, ?_⟩
    · simp [results, Try.results66, go_sem, r0, r1, r2]
    · rw [← HS0.out]; exact hb'.trans (hc.1.mono (by omega))

set_option maxRecDepth 100000 in
set_option maxHeartbeats 2000000 in
theorem best_any (ab ast ae ak : Option Addr) (cb cs ce nk ck : Nat) (V : Vz) (hV : VOk V) (w : World) (hR : Vis w ast ae V) : Calls Try.prog 60 #[.agg #[.slice ab V.nb cb, .slice ast V.st.length cs, .slice ae V.er.length ce, .slice ak nk ck, .int .i64 V.ch, .int .u8 (V.now.a : Int), .int .u8 (V.now.b : Int), .int .u8 (V.now.c : Int), .int .u8 (V.stay.a : Int), .int .u8 (V.stay.b : Int), .int .u8 (V.stay.c : Int)]] w fun e w' => e = .returned (.int .i64 (earn V (bestP V))) ∧ Below w.heap.size w w' := by
  obtain ⟨W1, hW1, hb1, hs1, x0⟩ := boxes1 w #[.slice ab V.nb cb, .slice ast V.st.length cs, .slice ae V.er.length ce, .slice ak nk ck, .int .i64 V.ch, .int .u8 (V.now.a : Int), .int .u8 (V.now.b : Int), .int .u8 (V.now.c : Int), .int .u8 (V.stay.a : Int), .int .u8 (V.stay.b : Int), .int .u8 (V.stay.c : Int)] 72
  have hR1 := hR.below hb1 (Nat.le_refl _)
  obtain ⟨p, hp⟩ : ∃ p, p = bestP V := ⟨_, rfl⟩
  have hpo : p.ok (2 ^ V.st.length) := by rw [hp]; exact bestF_ok hV _ (fun q => plansV_ok)
  have hb := fun (t : Ext W1) => bestPlan_any ab ast ae ak cb cs ce nk ck V hV t.w (hR1.below t.below (Nat.le_refl _)) p hp
  have he := fun (t : Ext W1) => earns_any ab ast ae ak cb cs ce nk ck V hV p hpo t.w (hR1.below t.below (Nat.le_refl _))
  rw [← hp]
  clear hp hpo hR1 hR
  have u0 := x0.ext 0 rfl; have u1 := x0.ext 1 rfl; have u2 := x0.ext 2 rfl; have u3 := x0.ext 3 rfl; have u4 := x0.ext 4 rfl; have u5 := x0.ext 5 rfl; have u6 := x0.ext 6 rfl; have u7 := x0.ext 7 rfl; have u8 := x0.ext 8 rfl; have u9 := x0.ext 9 rfl; have u10 := x0.ext 10 rfl; 
  go_enter Try.func60, Try.ntmps60
  go_upto_region 1 with fail
  refine wp_region_ext_lit (by kernel_rfl) (by kernel_rfl) ?_
  iterate 3 (quiet_step (first | (go_at_call 66; exact quiet_ext (hb _))))
  repeat (quiet_step (first | (go_at_call 58; exact quiet_ext (he _))))
  refine wpQuiet_nil ?_
  intro _ hw'
  obtain ⟨t, rfl⟩ := hw'
  go_wp2
  go_ret
  exact ⟨rfl, hb1.trans (t.below.mono hb1.size)⟩
end Go.Proofs.Ytipdohpbilabiaa
