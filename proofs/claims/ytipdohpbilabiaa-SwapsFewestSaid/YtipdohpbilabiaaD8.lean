import Derived.Test.YtipdohpbilabiaaD7
/-! What all best plans have in common. -/
namespace Go.Proofs.Ytipdohpbilabiaa
set_option linter.unusedSimpArgs false
set_option linter.unusedVariables false
open Go Go.RowKit

attribute [local go_sem] Oper.semAt_some

def andP (c q : Pl) : Pl := ⟨c.a &&& q.a, c.b &&& q.b, c.c &&& q.c⟩
def andK (c q : Pl) (k : Nat) : Pl := ⟨if 0 < k then c.a &&& q.a else c.a, if 1 < k then c.b &&& q.b else c.b, if 2 < k then c.c &&& q.c else c.c⟩
theorem andK_succ (c q : Pl) {k : Nat} (hk : k < 3) : andK c q (k + 1) = (andK c q k).set k ((andK c q k).get k &&& q.get k) := by
  match k, hk with
  | 0, _ => simp [andK, Pl.set, Pl.get]
  | 1, _ => simp [andK, Pl.set, Pl.get]
  | 2, _ => simp [andK, Pl.set, Pl.get]
theorem andK_ok {c q : Pl} (hc : c.ok 64) (hq : q.ok 64) (k : Nat) : (andK c q k).ok 64 := by
  obtain ⟨c1, c2, c3⟩ := hc
  obtain ⟨q1, q2, q3⟩ := hq
  refine ⟨?_, ?_, ?_⟩
  · show (if 0 < k then c.a &&& q.a else c.a) < 64
    split
    · exact (and_dec _ c1 _ q1).2
    · exact c1
  · show (if 1 < k then c.b &&& q.b else c.b) < 64
    split
    · exact (and_dec _ c2 _ q2).2
    · exact c2
  · show (if 2 < k then c.c &&& q.c else c.c) < 64
    split
    · exact (and_dec _ c3 _ q3).2
    · exact c3
def alwF (V : Vz) (m : Int) (c0 : Pl) (l : List Pl) : Pl := l.foldl (fun c p => if earn V p < m then c else andP c p) c0
/-- What all best plans have. -/
def alwP (V : Vz) : Pl := alwF V (earn V (bestP V)) (bestP V) (plansV V)
theorem alwF_snoc (V : Vz) (m : Int) (c0 : Pl) (l : List Pl) (p : Pl) : alwF V m c0 (l ++ [p]) = if earn V p < m then alwF V m c0 l else andP (alwF V m c0 l) p := by unfold alwF; rw [List.foldl_append]; rfl
theorem andP_ok {c q : Pl} (hc : c.ok 64) (hq : q.ok 64) : (andP c q).ok 64 := andK_ok hc hq 3
theorem alwF_ok (V : Vz) (m : Int) : ∀ (l : List Pl) (c : Pl), c.ok 64 → (∀ q ∈ l, q.ok 64) → (alwF V m c l).ok 64 := by
  intro l
  induction l with
  | nil => intro c hc _; exact hc
  | cons x l ih =>
    intro c hc h
    show (alwF V m (if earn V x < m then c else andP c x) l).ok 64
    refine ih _ ?_ (fun q hq => h q (by simp [hq]))
    split
    · exact hc
    · exact andP_ok hc (h x (by simp))
theorem Kept.set2 {n0 B : Nat} {a b : World} (h : Kept n0 B a b) {p : Addr} (h1 : n0 ≤ p.block) (h2 : p.block < B) (v : Value) : Kept n0 B a (b.setCell p v) := h.trans (Kept.set h1 h2 v)

set_option maxRecDepth 100000 in
set_option maxHeartbeats 4000000 in
theorem always_any (ab ast ae ak : Option Addr) (cb cs ce nk ck : Nat) (V : Vz) (hV : VOk V) (w : World) (hR : Vis w ast ae V) (p : Pl) (hp : p = alwP V) : Calls Try.prog 63 #[.agg #[.slice ab V.nb cb, .slice ast V.st.length cs, .slice ae V.er.length ce, .slice ak nk ck, .int .i64 V.ch, .int .u8 (V.now.a : Int), .int .u8 (V.now.b : Int), .int .u8 (V.now.c : Int), .int .u8 (V.stay.a : Int), .int .u8 (V.stay.b : Int), .int .u8 (V.stay.c : Int)]] w fun e w' => e = .returned (.agg #[.int .u8 (p.a : Int), .int .u8 (p.b : Int), .int .u8 (p.c : Int)]) ∧ Below w.heap.size w w' := by
  refine calls_of_wp_marks Try.func63 rfl ?_
  simp only [Try.ntmps63, List.size_toArray, List.length_cons, List.length_nil, Nat.reduceAdd, Nat.reduceSub, Array.replicate_succ, Array.replicate_zero, List.push_toArray, List.append_toArray, List.nil_append, List.cons_append]
  obtain ⟨W0, hW0, hb0, hs0', x0, x1⟩ := boxes2 w #[.slice ab V.nb cb, .slice ast V.st.length cs, .slice ae V.er.length ce, .slice ak nk ck, .int .i64 V.ch, .int .u8 (V.now.a : Int), .int .u8 (V.now.b : Int), .int .u8 (V.now.c : Int), .int .u8 (V.stay.a : Int), .int .u8 (V.stay.b : Int), .int .u8 (V.stay.c : Int)] 72 #[.int .u8 0, .int .u8 0, .int .u8 0] 70
  have hR0 := fun W (h : Below w.heap.size w W) => hR.below h (Nat.le_refl _)
  have hbo : (bestP V).ok (2 ^ V.st.length) := bestF_ok hV _ (fun q => plansV_ok)
  have hbs := bestPlan_any ab ast ae ak cb cs ce nk ck V hV W0 (hR0 _ hb0) _ rfl
  have hea := fun (q : Pl) (hq : q.ok (2 ^ V.st.length)) W h => earns_any ab ast ae ak cb cs ce nk ck V hV q hq W h
  have hea1 := hea _ hbo
  have hok : ∀ q ∈ plansV V, q.ok (2 ^ V.st.length) := fun q => plansV_ok
  have h64 := hV.p64
  have HP := hid (show p = alwF V (earn V (bestP V)) (bestP V) (plansV V) from hp)
  have hit := fun n0 B W1 (h1 : w.heap.size ≤ n0) (h2 : Below n0 w W1) (h3 : n0 ≤ W1.heap.size) => plans_iter ab ast ae ak cb cs ce nk ck V hV n0 B w W1 hR h1 h2 h3
  have hsn := fun m c0 l q => alwF_snoc V m c0 l q
  have hao := fun m l c h1 h2 => alwF_ok V m l c h1 h2
  have hf0 := fun (m : Int) (c : Pl) => (show alwF V m c [] = c from rfl)
  clear hp hV hR
  generalize plansV V = XS at *
  generalize bestP V = b0 at *
  obtain ⟨m, hm⟩ : ∃ m, m = earn V b0 := ⟨_, rfl⟩
  rw [← hm] at hea1 HP
  clear hm
  have c0 := x0.cell 0 rfl; have c1 := x0.cell 1 rfl; have c2 := x0.cell 2 rfl; have c3 := x0.cell 3 rfl; have c4 := x0.cell 4 rfl; have c5 := x0.cell 5 rfl; have c6 := x0.cell 6 rfl; have c7 := x0.cell 7 rfl; have c8 := x0.cell 8 rfl; have c9 := x0.cell 9 rfl; have c10 := x0.cell 10 rfl
  go_wp2_with fail
  refine hbs.mono ?_
  rintro e V1 ⟨rfl, hb1⟩
  clear hbs hW0 c0 c1 c2 c3 c4 c5 c6 c7 c8 c9 c10
  replace hb0 := hb0.trans (hb1.mono hb0.size)
  replace hs0' : w.heap.size + 1 + 1 ≤ V1.heap.size := by have := hb1.size; omega
  replace x0 := x0.below hb1; replace x1 := x1.below hb1
  clear hb1
  obtain ⟨W2, hW2, hb2, hs2, x3⟩ := boxes1 V1 #[.int .u8 (b0.a : Int), .int .u8 (b0.b : Int), .int .u8 (b0.c : Int)] 70
  replace hb0 := hb0.trans (hb2.mono hb0.size)
  replace x0 := x0.below hb2; replace x1 := x1.below hb2
  have c0 := x0.cell 0 rfl; have c1 := x0.cell 1 rfl; have c2 := x0.cell 2 rfl; have c3 := x0.cell 3 rfl; have c4 := x0.cell 4 rfl; have c5 := x0.cell 5 rfl; have c6 := x0.cell 6 rfl; have c7 := x0.cell 7 rfl; have c8 := x0.cell 8 rfl; have c9 := x0.cell 9 rfl; have c10 := x0.cell 10 rfl; have d0 := x3.cell 0 rfl; have d1 := x3.cell 1 rfl; have d2 := x3.cell 2 rfl
  go_wp2_with fail
  refine (hea1 _ (hR0 _ hb0)).mono ?_
  rintro e V2 ⟨rfl, hb1⟩
  obtain ⟨s3, hs3⟩ : ∃ s, s = V1.heap.size := ⟨_, rfl⟩
  rw [← hs3] at hs0' hs2 x3 ⊢
  clear hea1 hW2 hb2 hs3 c0 c1 c2 c3 c4 c5 c6 c7 c8 c9 c10 d0 d1 d2
  replace hb0 := hb0.trans (hb1.mono hb0.size)
  replace hs2 : s3 + 1 ≤ V2.heap.size := by have := hb1.size; omega
  replace x0 := x0.below hb1; replace x1 := x1.below hb1; replace x3 := x3.below hb1
  clear hb1
  obtain ⟨W1, hW1, hb2, hs4, x4⟩ := boxes1 V2 #[.int .i64 m] 3
  replace hb0 := hb0.trans (hb2.mono hb0.size)
  replace x0 := x0.below hb2; replace x1 := x1.below hb2; replace x3 := x3.below hb2
  have c0 := x0.cell 0 rfl; have c1 := x0.cell 1 rfl; have c2 := x0.cell 2 rfl; have c3 := x0.cell 3 rfl; have c4 := x0.cell 4 rfl; have c5 := x0.cell 5 rfl; have c6 := x0.cell 6 rfl; have c7 := x0.cell 7 rfl; have c8 := x0.cell 8 rfl; have c9 := x0.cell 9 rfl; have c10 := x0.cell 10 rfl
  go_wp2_with fail
  obtain ⟨s4, hs4'⟩ : ∃ s, s = V2.heap.size := ⟨_, rfl⟩
  rw [← hs4'] at hs4 hs2 x4 ⊢
  clear hW1 hb2 hs4' c0 c1 c2 c3 c4 c5 c6 c7 c8 c9 c10
  obtain ⟨s0, hs0⟩ : ∃ s0, s0 = w.heap.size := ⟨_, rfl⟩
  obtain ⟨B, hB⟩ : ∃ B, B = W1.heap.size := ⟨_, rfl⟩
  rw [← hs0] at x0 x1 hb0 hit hR0 hs0' ⊢
  have HS0 := hid hs0
  have hsB : B = s4 + 1 := by rw [hB]; exact hs4
  clear hs0 hs4
  refine wp_rangeFuncB (α := Pl) s0 (by omega) (gf := 85) (bd := #[.agg #[.slice ab V.nb cb, .slice ast V.st.length cs, .slice ae V.er.length ce, .slice ak nk ck, .int .i64 V.ch, .int .u8 (V.now.a : Int), .int .u8 (V.now.b : Int), .int .u8 (V.now.c : Int), .int .u8 (V.stay.a : Int), .int .u8 (V.stay.b : Int), .int .u8 (V.stay.c : Int)]]) (lb := #[]) (encs := encP) (xs := XS) (StI := Below (W1.heap.size + 2)) (St := fun W W' => W1.heap.size ≤ W.heap.size → Below W1.heap.size W W')
    rfl (enters_of Try.func85 (by kernel_rfl) rfl) (fun _ => by rfl) (hit _ _ _ (Nat.le_refl _) hb0 (by have := HS0.out; have := hb0.size; omega)) (fun W W' h h2 => h.below h2) (fun W W' _ h => h) (fun W W' h _ => h.mono (by omega))
    (fun pre W => W1.heap.size ≤ W.heap.size ∧ Bx W s0 #[.slice ab V.nb cb, .slice ast V.st.length cs, .slice ae V.er.length ce, .slice ak nk ck, .int .i64 V.ch, .int .u8 (V.now.a : Int), .int .u8 (V.now.b : Int), .int .u8 (V.now.c : Int), .int .u8 (V.stay.a : Int), .int .u8 (V.stay.b : Int), .int .u8 (V.stay.c : Int)] 72 ∧ Bx W (s0 + 1) #[.int .u8 0, .int .u8 0, .int .u8 0] 70 ∧ Bx W s3 #[.int .u8 ((alwF V m b0 pre).a : Int), .int .u8 ((alwF V m b0 pre).b : Int), .int .u8 ((alwF V m b0 pre).c : Int)] 70 ∧ Bx W s4 #[.int .i64 m] 3 ∧ Below s0 w W)
    ?hI ?h0 (fun q a' W => ∃ b4, B + 2 ≤ b4 ∧ Bx W b4 #[.int .u8 (q.a : Int), .int .u8 (q.b : Int), .int .u8 (q.c : Int)] 70 ∧ a' = { tmps := #[.agg #[.slice ab V.nb cb, .slice ast V.st.length cs, .slice ae V.er.length ce, .slice ak nk ck, .int .i64 V.ch, .int .u8 (V.now.a : Int), .int .u8 (V.now.b : Int), .int .u8 (V.now.c : Int), .int .u8 (V.stay.a : Int), .int .u8 (V.stay.b : Int), .int .u8 (V.stay.c : Int)], .pointer (some ⟨s0, 0, none⟩), .pointer (some ⟨s0 + 1, 0, none⟩), .pointer (some ⟨s3, 0, none⟩), .pointer (some ⟨s4, 0, none⟩), .pointer (some ⟨b4, 0, none⟩), undef, undef, .agg #[.slice ab V.nb cb, .slice ast V.st.length cs, .slice ae V.er.length ce, .slice ak nk ck, .int .i64 V.ch, .int .u8 (V.now.a : Int), .int .u8 (V.now.b : Int), .int .u8 (V.now.c : Int), .int .u8 (V.stay.a : Int), .int .u8 (V.stay.b : Int), .int .u8 (V.stay.c : Int)], .agg #[.int .u8 (b0.a : Int), .int .u8 (b0.b : Int), .int .u8 (b0.c : Int)], .agg #[.slice ab V.nb cb, .slice ast V.st.length cs, .slice ae V.er.length ce, .slice ak nk ck, .int .i64 V.ch, .int .u8 (V.now.a : Int), .int .u8 (V.now.b : Int), .int .u8 (V.now.c : Int), .int .u8 (V.stay.a : Int), .int .u8 (V.stay.b : Int), .int .u8 (V.stay.c : Int)], .agg #[.int .u8 (b0.a : Int), .int .u8 (b0.b : Int), .int .u8 (b0.c : Int)], .int .i64 m, .agg #[.slice ab V.nb cb, .slice ast V.st.length cs, .slice ae V.er.length ce, .slice ak nk ck, .int .i64 V.ch, .int .u8 (V.now.a : Int), .int .u8 (V.now.b : Int), .int .u8 (V.now.c : Int), .int .u8 (V.stay.a : Int), .int .u8 (V.stay.b : Int), .int .u8 (V.stay.c : Int)], .func (.func 85) #[.agg #[.slice ab V.nb cb, .slice ast V.st.length cs, .slice ae V.er.length ce, .slice ak nk ck, .int .i64 V.ch, .int .u8 (V.now.a : Int), .int .u8 (V.now.b : Int), .int .u8 (V.now.c : Int), .int .u8 (V.stay.a : Int), .int .u8 (V.stay.b : Int), .int .u8 (V.stay.c : Int)]] #[], .agg #[.int .u8 (q.a : Int), .int .u8 (q.b : Int), .int .u8 (q.c : Int)], undef, undef, undef, undef, undef, undef, undef, undef, undef, undef, undef, undef, undef, undef, undef, undef, undef, undef], defers := [] }) ?hAx ?assign ?body ?done
  case hI =>
    rintro pre W W' ⟨i0, i1, i2, i3, i5, i4⟩ hs
    have hs := hs i0
    have f : ∀ {b : Nat} {vs : Array Value} {T : TypeId}, Bx W b vs T → b < B → Bx W' b vs T := fun hx hlt => by
      unfold Bx at *; rw [hs.block _ (by omega)]; exact hx
    exact ⟨Nat.le_trans i0 hs.size, f i1 (by omega), f i2 (by omega), f i3 (by omega), f i5 (by omega), i4.trans (hs.mono (by omega))⟩
  case h0 => exact ⟨Nat.le_refl _, x0, x1, x3, x4, hb0⟩
  case hAx =>
    rintro q a' W W' ⟨b4, h1, h2, h3⟩ hs
    refine ⟨b4, h1, ?_, h3⟩
    unfold Bx at *; rw [hs.block b4 (Bx.lt h2) (by omega) (by omega)]; exact h2
  case assign =>
    rintro l pre q W K hx ⟨i0, i1, i2, i3, i5, i4⟩ hsz hK
    refine wpIn_region_plain rfl ?_
    simp only [encP]
    go_wp2_with fail
    have hb := below_one (w := W) (.cells #[.int .u8 (q.a : Int), .int .u8 (q.b : Int), .int .u8 (q.c : Int)] 70)
    exact hK _ _ (Kept.of_below hb (by omega)) ⟨by simp; omega, i1.alloc _, i2.alloc _, i3.alloc _, i5.alloc _, i4.trans (hb.mono (by omega))⟩ ⟨W.heap.size, by omega, Bx.new _ _ _, rfl⟩
  case body =>
    rintro l pre q a' W hx ⟨i0, i1, i2, i3, i5, i4⟩ ⟨b4, h1, h2, rfl⟩ hsz
    have hqm : q ∈ XS := by obtain ⟨r, hr⟩ := hx; rw [hr]; simp
    have hqo := hok q hqm
    have hq64 := hqo.le h64
    have hpm : ∀ y ∈ pre, y.ok 64 := fun y hy => (hok y (by obtain ⟨r, hr⟩ := hx; rw [hr]; simp [hy])).le h64
    have hcc := hao m pre b0 (hbo.le h64) hpm
    have hs1 := hsn m b0 pre q
    obtain ⟨c, hc⟩ : ∃ c, c = alwF V m b0 pre := ⟨_, rfl⟩
    rw [← hc] at hs1 hcc i3
    have hq1 := fun (t : Ext W) => hea q hqo t.w (hR0 _ (i4.trans (t.below.mono (by omega))))
    have u0 := i1.ext 0 rfl; have u1 := i1.ext 1 rfl; have u2 := i1.ext 2 rfl; have u3 := i1.ext 3 rfl; have u4 := i1.ext 4 rfl; have u5 := i1.ext 5 rfl; have u6 := i1.ext 6 rfl; have u7 := i1.ext 7 rfl; have u8 := i1.ext 8 rfl; have u9 := i1.ext 9 rfl; have u10 := i1.ext 10 rfl; 
    have v0 := h2.ext 0 rfl; have v1 := h2.ext 1 rfl; have v2 := h2.ext 2 rfl
    have y0 := i5.ext 0 rfl
    obtain ⟨eq, heq⟩ : ∃ e, e = earn V q := ⟨_, rfl⟩
    rw [← heq] at hq1 hs1
    have HS1 := hid hs1
    clear hs1 heq hc hqm hpm hqo hbo hea hok hsn hx hit hR0 x0 x1 x3 x4 hao hf0
    gi_wp2_with fail
    refine wpIn_region_ext (by kernel_rfl) (by kernel_rfl) ?_
    repeat (quiet_step (first | (go_at_call 58; exact quiet_ext (hq1 _))))
    refine wpQuiet_nil ?_
    intro _ hw'
    obtain ⟨t, rfl⟩ := hw'
    have hbt := t.below
    replace i1 := i1.below hbt; replace i2 := i2.below hbt; replace i3 := i3.below hbt; replace i5 := i5.below hbt; replace h2 := h2.below hbt
    replace i4 := i4.trans (hbt.mono (by omega))
    have hk := Kept.of_below (n0 := s0) (B := W1.heap.size) hbt (by omega)
    have hz := hbt.size
    clear u0 u1 u2 u3 u4 u5 u6 u7 u8 u9 u10 v0 v1 v2 y0 hq1
    generalize t.w = W3 at *
    by_cases hlt : eq < m
    · have hs2 := HS1.out
      rw [if_pos hlt] at hs2
      have HS2 := hid hs2
      clear hs2
      gi_wp2
      exact ⟨hk, by omega, i1, i2, by rw [HS2.out]; exact i3, i5, i4⟩
    · have hs2 := HS1.out
      rw [if_neg hlt] at hs2
      have HS2 := hid hs2
      have hle : m ≤ eq := by omega
      have v0 := h2.cell 0 rfl; have v1 := h2.cell 1 rfl; have v2 := h2.cell 2 rfl
      clear hs2 hlt
      gi_wp2
      clear v0 v1 v2
      have hK3 : andK c q 3 = andP c q := rfl
      gi_loopw [6, 7, 22] (fun v6 v7 v22 wr => ∃ k : Nat, k ≤ 3 ∧ v22 = .int .i64 (k : Int) ∧ Kept s0 W1.heap.size W wr ∧ Bx wr s0 #[.slice ab V.nb cb, .slice ast V.st.length cs, .slice ae V.er.length ce, .slice ak nk ck, .int .i64 V.ch, .int .u8 (V.now.a : Int), .int .u8 (V.now.b : Int), .int .u8 (V.now.c : Int), .int .u8 (V.stay.a : Int), .int .u8 (V.stay.b : Int), .int .u8 (V.stay.c : Int)] 72 ∧ Bx wr (s0 + 1) #[.int .u8 0, .int .u8 0, .int .u8 0] 70 ∧ Bx wr s3 #[.int .u8 ((andK c q k).a : Int), .int .u8 ((andK c q k).b : Int), .int .u8 ((andK c q k).c : Int)] 70 ∧ Bx wr s4 #[.int .i64 m] 3 ∧ Below s0 w wr) (fun _ _ v22 _ => 3 - (intOf v22).toNat)
      case atStart => exact ⟨0, Nat.zero_le _, rfl, hk, i1, i2, i3, i5, i4⟩
      case round =>
        clear hk i1 i2 i3 i5 i4
        obtain ⟨k, hk3, rfl, hk, i1, i2, i3, i5, i4⟩ := hrel
        by_cases hlt : k < 3
        · have hkI : (k : Int) < 3 := by omega
          have hk0 : (0 : Int) ≤ (k : Int) := by omega
          have hix := pl_index q hlt wr
          have hsc := andK_succ c q hlt
          have had := and_dec _ ((andK_ok hcc hq64 k).get k) _ (hq64.get k)
          obtain ⟨r, hr⟩ : ∃ r, r = andK c q k := ⟨_, rfl⟩
          rw [← hr] at hsc had i3
          have z0 := i3.cell k (pl_at r hlt)
          have z1 := i3.free k
          have hps := pl_set r hlt (r.get k &&& q.get k)
          rw [← hsc] at hps
          obtain ⟨x, hx⟩ : ∃ x, x = r.get k := ⟨_, rfl⟩
          obtain ⟨y, hy⟩ : ∃ y, y = q.get k := ⟨_, rfl⟩
          rw [← hx] at had z0 hps
          rw [← hy] at had hix hps
          have hadI := had.1
          have i3' := i3.set k (.int .u8 ((x &&& y : Nat) : Int))
          rw [hps] at i3'
          have hk' := hk.set2 (p := ⟨s3, k, none⟩) (by show s0 ≤ s3; omega) (by show s3 < W1.heap.size; omega) (.int .u8 ((x &&& y : Nat) : Int))
          have i1' := i1.other (a := ⟨s3, k, none⟩) (by show s0 ≠ s3; omega) (.int .u8 ((x &&& y : Nat) : Int))
          have i2' := i2.other (a := ⟨s3, k, none⟩) (by show s0 + 1 ≠ s3; omega) (.int .u8 ((x &&& y : Nat) : Int))
          have i5' := i5.other (a := ⟨s3, k, none⟩) (by show s4 ≠ s3; omega) (.int .u8 ((x &&& y : Nat) : Int))
          have i4' := i4.setCell (p := ⟨s3, k, none⟩) (by show s0 ≤ s3; omega) (.int .u8 ((x &&& y : Nat) : Int))
          have HH := hid (And.intro hk' (And.intro i1' (And.intro i2' (And.intro i3' (And.intro i5' i4')))))
          clear hk' i1' i2' i3' i5' i4' hx hy hr hsc hps had
          gi_wp2
          go_roundw
          case rel => exact ⟨k + 1, by omega, by simp, HH.out⟩
          case measure => simp [intOf]; omega
        · obtain rfl : k = 3 := by omega
          gi_wp2
          rw [hK3] at i3
          exact ⟨hk, by have := hk.below.size; omega, i1, i2, by rw [HS2.out]; exact i3, i5, i4⟩
  case done =>
    rintro W ⟨i0, i1, i2, i3, i5, i4⟩ hD hsz
    rw [← HP.out] at i3
    have v0 := i3.cell 0 rfl; have v1 := i3.cell 1 rfl; have v2 := i3.cell 2 rfl
    have f0 := i2.free 0; have f1 := i2.free 1; have f2 := i2.free 2
    have y0 := i2.cell 0 rfl; have y1 := i2.cell 1 rfl; have y2 := i2.cell 2 rfl
    have i2' := i2.set3 (.int .u8 (p.a : Int)) (.int .u8 (p.b : Int)) (.int .u8 (p.c : Int))
    have hb' := ((i4.setCell (p := ⟨s0 + 1, 0, none⟩) (by show s0 ≤ s0 + 1; omega) (.int .u8 (p.a : Int))).setCell (p := ⟨s0 + 1, 1, none⟩) (by show s0 ≤ s0 + 1; omega) (.int .u8 (p.b : Int))).setCell (p := ⟨s0 + 1, 2, none⟩) (by show s0 ≤ s0 + 1; omega) (.int .u8 (p.c : Int))
    have hM : Marks W1.heap.size (((W.setCell ⟨s0 + 1, 0, none⟩ (.int .u8 (p.a : Int))).setCell ⟨s0 + 1, 1, none⟩ (.int .u8 (p.b : Int))).setCell ⟨s0 + 1, 2, none⟩ (.int .u8 (p.c : Int))) [{ target := .collected W1.heap.size, args := #[] }] :=
      Marks.set (Marks.set (Marks.set (Marks.one hD) (by show s0 + 1 < W1.heap.size; omega) _) (by show s0 + 1 < W1.heap.size; omega) _) (by show s0 + 1 < W1.heap.size; omega) _
    have HH := hid (And.intro i2' (And.intro hb' hM))
    clear i2' hb' hM hea hok hbo hsn hit hR0 x0 x1 x3 x4
    go_wp2_with fail
    obtain ⟨i2', hb', hM⟩ := HH.out
    refine leaves_marks _ _ hM fun w' hc => ?_
    have r := hc.bx i2'
    have r0 := r.cell 0 rfl; have r1 := r.cell 1 rfl; have r2 := r.cell 2 rfl
    refine ⟨.agg #[.int .u8 (p.a : Int), .int .u8 (p.b : Int), .int .u8 (p.c : Int)], ?_, rfl, ?_⟩
    · simp [results, Try.results63, go_sem, r0, r1, r2]
    · rw [← HS0.out]; exact hb'.trans (hc.1.mono (by omega))
end Go.Proofs.Ytipdohpbilabiaa
