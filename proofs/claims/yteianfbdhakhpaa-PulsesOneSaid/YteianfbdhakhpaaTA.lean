import Derived.Test.YteianfbdhakhpaaT9
/-! ask: all readings in a row. -/
namespace Go.Proofs.Yteianfbdhakhpaa
set_option linter.unusedSimpArgs false
set_option linter.unusedVariables false
open Go Go.RowKit

attribute [local go_sem] Oper.semAt_some

theorem own_heap {w w' : World} {base size : Nat} {e : TypeId} {v : Value} {n : Nat} {xs : List Value} (h : w.ownsRow base e size v n xs) (hk : ∀ g, v.ownBlock = some g → w'.heap[g]? = w.heap[g]?) : w'.ownsRow base e size v n xs := by
  refine ⟨h.1, ?_⟩
  rcases h.2 with h' | ⟨g, cap, cur, rfl, h2, h3, h4⟩
  · exact .inl h'
  · exact .inr ⟨g, cap, cur, rfl, h2, (hk g rfl).trans h3, h4⟩
theorem own_cells {w : World} {base size : Nat} {e : TypeId} {v : Value} {n : Nat} {xs : List Value} (h : w.ownsRow base e size v n xs) : ∀ g, v.ownBlock = some g → ∃ cur, w.heap[g]? = some (.cells cur e (0, 0)) := fun g hg => by
  rcases h.2 with ⟨rfl, _⟩ | ⟨g', cap, cur, rfl, h2, h3, h4⟩
  · cases hg
  · have : g' = g := by simpa [Value.ownBlock] using hg
    exact ⟨cur, by rw [← this]; exact h3⟩
theorem own_cel {B : Nat} {w w' : World} {base size : Nat} {e : TypeId} {v : Value} {n : Nat} {xs : List Value} (h : w.ownsRow base e size v n xs) (hc : Cel B w w') : w'.ownsRow base e size v n xs :=
  own_heap h (fun g hg => by obtain ⟨cur, hh⟩ := own_cells h g hg; rw [hc.2 _ _ _ _ hh, hh])
theorem own_base {w : World} {base base' size : Nat} {e : TypeId} {v : Value} {n : Nat} {xs : List Value} (h : w.ownsRow base e size v n xs) (hb : base' ≤ base) : w.ownsRow base' e size v n xs := by
  refine ⟨h.1, ?_⟩
  rcases h.2 with h' | ⟨g, cap, cur, h1, h2, h3⟩
  · exact .inl h'
  · exact .inr ⟨g, cap, cur, h1, by omega, h3⟩
abbrev Rd := List Int × List Int
/-- Values that are the cells of readings. -/
def RvS (B : Nat) (w : World) (vs : List Value) (rs : List Rd) : Prop :=
  vs.length = rs.length * 2 ∧ ∀ (i : Nat) (r : Rd), rs[i]? = some r → ∃ (a1 : Option Addr) (c1 : Nat) (a2 : Option Addr) (c2 : Nat), vs[i * 2]? = some (.slice a1 r.1.length c1) ∧ vs[i * 2 + 1]? = some (.slice a2 r.2.length c2) ∧ Iz B w a1 r.1 ∧ Iz B w a2 r.2
theorem RvS.nil (B : Nat) (w : World) : RvS B w [] [] := ⟨rfl, fun i r h => by simp at h⟩
theorem RvS.map {B B' : Nat} {w w' : World} {vs : List Value} {rs : List Rd} (h : RvS B w vs rs) (hf : ∀ a L, Iz B w a L → Iz B' w' a L) : RvS B' w' vs rs :=
  ⟨h.1, fun i r hi => by
    obtain ⟨a1, c1, a2, c2, h1, h2, h3, h4⟩ := h.2 i r hi
    exact ⟨a1, c1, a2, c2, h1, h2, hf _ _ h3, hf _ _ h4⟩⟩
theorem RvS.snoc {B : Nat} {w : World} {vs : List Value} {rs : List Rd} (h : RvS B w vs rs) {r : Rd} {a1 a2 : Option Addr} {c1 c2 : Nat} (h1 : Iz B w a1 r.1) (h2 : Iz B w a2 r.2) : RvS B w (vs ++ [.slice a1 r.1.length c1, .slice a2 r.2.length c2]) (rs ++ [r]) := by
  refine ⟨by simp [h.1]; omega, fun i q hi => ?_⟩
  rcases Nat.lt_or_ge i rs.length with hl | hl
  · rw [List.getElem?_append_left hl] at hi
    obtain ⟨b1, d1, b2, d2, q1, q2, q3, q4⟩ := h.2 i q hi
    exact ⟨b1, d1, b2, d2, by rw [List.getElem?_append_left (by rw [h.1]; omega)]; exact q1, by rw [List.getElem?_append_left (by rw [h.1]; omega)]; exact q2, q3, q4⟩
  · rw [List.getElem?_append_right hl] at hi
    have h0 : i - rs.length = 0 := by
      rcases hh : i - rs.length with _ | m
      · rfl
      · rw [hh] at hi; simp at hi
    rw [h0] at hi
    simp at hi
    subst hi
    have hil : i = rs.length := by omega
    refine ⟨a1, c1, a2, c2, ?_, ?_, h1, h2⟩
    · rw [List.getElem?_append_right (by rw [h.1]; omega), h.1, hil, Nat.sub_self]; rfl
    · rw [List.getElem?_append_right (by rw [h.1]; omega), h.1, hil, show rs.length * 2 + 1 - rs.length * 2 = 1 by omega]; rfl
theorem two_slices (x y : Value) (h : x.oneCell' = true) (h' : y.oneCell' = true) : ∀ u ∈ [x, y], u.oneCell' = true := fun u hu => by
  rcases List.mem_cons.1 hu with rfl | hu
  · exact h
  · rw [List.mem_singleton.1 hu]; exact h'
theorem info62 : (Try.prog.info? 62).map (fun i => (i.zero, i.size, i.bytes)) = some (some (.agg #[.slice none 0 0, .slice none 0 0]), 2, 48) := by kernel_rfl
theorem under67 : Try.prog.underlying 67 = some (.slice 62) := by kernel_rfl
/-- What ask hands back. -/
def AkP (E : Int) (rs : List Rd) (w : World) (e : Ending) (w' : World) : Prop :=
  Below w.heap.size w w' ∧ ((E ≠ 0 ∧ e = .returned (.tuple #[.slice none 0 0, .int .i64 E])) ∨ (E = 0 ∧ rs = [] ∧ e = .returned (.tuple #[.slice none 0 0, .int .i64 3])) ∨
    (E = 0 ∧ rs ≠ [] ∧ ∃ (a : Option Addr) (c : Nat) (vs : List Value), e = .returned (.tuple #[.slice a rs.length c, .int .i64 0]) ∧ w'.ownsRow w.heap.size 62 2 (.slice a rs.length c) rs.length vs ∧ RvS w.heap.size w' vs rs))

set_option maxRecDepth 100000 in
set_option maxHeartbeats 6000000 in
theorem ask_any (aT : Option Addr) (cT : Nat) (X : Pu) (o : Bool) (w : World) (hX : Ints w aT X.ts) : Calls Try.prog 58 #[.agg #[.int .i64 X.l, .int .i64 X.n, .int .i64 X.pi, .int .i64 X.sl, .int .i64 X.ga, .int .i64 X.pa, .int .i64 X.sp, .slice aT X.ts.length cT], .bool o] w (AkP (chkE X o) (rdL X X.sp.toNat) w) := by
  obtain ⟨i0, hi0, iz0, iz1, iz2⟩ := info_parts info62
  refine calls_of_wp_marks Try.func58 rfl ?_
  simp only [Try.ntmps58, List.size_toArray, List.length_cons, List.length_nil, Nat.reduceAdd, Nat.reduceSub, Array.replicate_succ, Array.replicate_zero, List.push_toArray, List.append_toArray, List.nil_append, List.cons_append]
  obtain ⟨W, hW, hb, hs, x0⟩ := boxes1 w #[.int .i64 X.l, .int .i64 X.n, .int .i64 X.pi, .int .i64 X.sl, .int .i64 X.ga, .int .i64 X.pa, .int .i64 X.sp, .slice aT X.ts.length cT] 24
  have hck := fun V (h : Below w.heap.size w V) => check_any aT cT X o V (hX.below h (Nat.le_refl _))
  obtain ⟨n, hn⟩ : ∃ n, n = X.ts.length := ⟨_, rfl⟩
  have HN := hid hn
  by_cases hE : chkE X o = 0
  rotate_left
  · skip
    obtain ⟨E, hEE⟩ : ∃ E, E = chkE X o := ⟨_, rfl⟩
    rw [← hEE] at hE hck ⊢
    have hE2 : (E != 0) = true := by rw [bne_iff_ne]; exact hE
    have HE := hid hE
    rw [← hn] at x0 hW hck ⊢
    generalize rdL X X.sp.toNat = rs
    clear hn hE hEE HN
    have c0 := x0.cell 0 rfl; have c1 := x0.cell 1 rfl; have c2 := x0.cell 2 rfl; have c3 := x0.cell 3 rfl; have c4 := x0.cell 4 rfl; have c5 := x0.cell 5 rfl; have c6 := x0.cell 6 rfl; have c7 := x0.cell 7 rfl
    go_wp2_with fail
    refine (hck _ hb).mono ?_
    rintro e V1 ⟨rfl, hb1⟩
    replace hb := hb.trans (hb1.mono hb.size)
    clear hb1 hW c0 c1 c2 c3 c4 c5 c6 c7 x0 hck
    go_wp2
    refine leaves_marks (B := w.heap.size) [] _ trivial fun w' hc => ?_
    refine ⟨_, results_tmp2 rfl _ _ _, ?_⟩
    exact ⟨hb.trans hc.1, .inl ⟨HE.out, rfl⟩⟩
  have hvo : vB X = true ∧ o = true := by
    unfold chkE at hE
    cases hv : vB X
    · rw [hv] at hE; simp at hE
    · rw [hv] at hE
      cases o
      · simp at hE
      · exact ⟨rfl, rfl⟩
  obtain ⟨hv, rfl⟩ := hvo
  obtain ⟨ok, hsp, htm⟩ := vB_ok hv
  obtain ⟨h24, hr⟩ := timesB_rng htm
  have hlen := rdL_len X X.sp.toNat h24 (by omega)
  obtain ⟨m, hm⟩ : ∃ m, m = X.sp.toNat := ⟨_, rfl⟩
  have hsm : X.sp = (m : Int) := by omega
  rw [← hm] at hlen ⊢
  rw [hE] at hck ⊢
  rw [hsm] at x0 hW hck ⊢
  have hm3 : m ≤ 3 := by omega
  have hrd := fun V => readings_any aT cT X (m : Int) V
  have hit0 := fun C B h1 h2 g1 g2 h3 V h4 k1 k2 => readings_iter aT cT X ok h24 hr m hm3 w hX C B h1 h2 g1 g2 h3 V h4 k1 k2
  rw [hsm] at hrd hit0
  rw [← hn] at x0 hW hck hrd hit0 ⊢
  obtain ⟨RS, hRS⟩ : ∃ RS, RS = rdL X m := ⟨_, rfl⟩
  rw [← hRS] at hlen hit0 ⊢
  have hee : ((0 : Int) != 0) = false := by simp
  clear hE hv ok hsp htm h24 hr hm hsm hn hRS
  have c0 := x0.cell 0 rfl; have c1 := x0.cell 1 rfl; have c2 := x0.cell 2 rfl; have c3 := x0.cell 3 rfl; have c4 := x0.cell 4 rfl; have c5 := x0.cell 5 rfl; have c6 := x0.cell 6 rfl; have c7 := x0.cell 7 rfl
  go_wp2_with fail
  refine (hck _ hb).mono ?_
  rintro e V1 ⟨rfl, hb1⟩
  clear c0 c1 c2 c3 c4 c5 c6 c7 hck
  replace x0 := x0.below hb1
  have hb2 := hb.trans (hb1.mono hb.size)
  have hs1 := hb1.size
  clear hb1 hW hb
  obtain ⟨V2, hV2⟩ : ∃ V2, V2 = V1.alloc (.cells #[.slice none 0 0] 67) := ⟨_, rfl⟩
  have hba := below_one (w := V1) (.cells #[.slice none 0 0] 67)
  have hfb := Bx.new V1 #[.slice none 0 0] 67
  rw [← hV2] at hba hfb
  have x1 := x0.below hba
  have hb3 := hb2.trans (hba.mono hb2.size)
  have hs2 : V2.heap.size = V1.heap.size + 1 := by rw [hV2]; simp
  have HV2 := hid hV2
  clear hba hV2 x0
  go_upto_region 5 with fail
  rw [← HV2.out]
  obtain ⟨fb, hfb'⟩ : ∃ fb, fb = V1.heap.size := ⟨_, rfl⟩
  rw [← hfb'] at hfb hs1 hs2 ⊢
  have hfw : w.heap.size ≤ fb := by rw [hfb']; exact hb2.size
  clear hfb' HV2 hb2
  have c0 := x1.cell 0 rfl; have c1 := x1.cell 1 rfl; have c2 := x1.cell 2 rfl; have c3 := x1.cell 3 rfl; have c4 := x1.cell 4 rfl; have c5 := x1.cell 5 rfl; have c6 := x1.cell 6 rfl; have c7 := x1.cell 7 rfl
  go_wp2_with fail
  refine (hrd _).mono ?_
  rintro e V3 ⟨rfl, z1, z2, hb4⟩
  clear c0 c1 c2 c3 c4 c5 c6 c7 hrd x1
  replace hfb := hfb.below hb4
  replace hb3 := hb3.trans (hb4.mono hb3.size)
  have hs3 := hb4.size
  have hz2 := z2.lt
  clear hb4
  go_wp2_with fail

  rw [hs2] at z1 z2 hs3
  have hV3 : fb + 1 + 1 < V3.heap.size := by omega
  have hfl := hfb.lt
  have hw3 := hb3.size
  refine wp_rangeFuncF (α := Rd) (gf := 81) (bd := #[]) (lb := #[.pointer (some ⟨fb + 1, 0, none⟩), .pointer (some ⟨fb + 1 + 1, 0, none⟩)]) (E := ER) (xs := RS) 62 w.heap.size (fun k => k = fb) (fun k h => by omega) rfl (enters_of Try.func81 (by kernel_rfl) rfl) (fun x vs W hE => by obtain ⟨a1, c1, a2, c2, rfl, _⟩ := hE; rfl)
    (hit0 _ _ (fun k h => by rcases h with h | h | h <;> omega) (fun k h => by rcases h with h | h | h <;> omega) (fb + 1) (fb + 1 + 1) (fun h => by rcases h with h | h | h <;> omega) V3 hb3 z1 z2)
    (fun pre W => (∃ (a : Option Addr) (c : Nat) (vs : List Value), Bx W fb #[.slice a pre.length c] 67 ∧ W.ownsRow V3.heap.size 62 2 (.slice a pre.length c) pre.length vs ∧ RvS (V3.heap.size + 2) W vs pre) ∧ Below w.heap.size w W) ?hI ?h0
    (fun x a' W => ∃ (a1 : Option Addr) (c1 : Nat) (a2 : Option Addr) (c2 : Nat) (rb : Nat), Bx W rb #[.slice a1 x.1.length c1, .slice a2 x.2.length c2] 62 ∧ V3.heap.size + 2 ≤ rb ∧ Iz (V3.heap.size + 2) W a1 x.1 ∧ Iz (V3.heap.size + 2) W a2 x.2 ∧ a' = { tmps := #[.agg #[.int .i64 X.l, .int .i64 X.n, .int .i64 X.pi, .int .i64 X.sl, .int .i64 X.ga, .int .i64 X.pa, .int .i64 (m : Int), .slice aT n cT], .bool true, .pointer (some ⟨w.heap.size, 0, none⟩), undef, .slice none 0 0, .int .i64 0, .int .i64 0, .pointer (some ⟨fb, 0, none⟩), .pointer (some ⟨rb, 0, none⟩), .agg #[.int .i64 X.l, .int .i64 X.n, .int .i64 X.pi, .int .i64 X.sl, .int .i64 X.ga, .int .i64 X.pa, .int .i64 (m : Int), .slice aT n cT], .bool true, .int .i64 0, .int .i64 0, .bool false, undef, .agg #[.int .i64 X.l, .int .i64 X.n, .int .i64 X.pi, .int .i64 X.sl, .int .i64 X.ga, .int .i64 X.pa, .int .i64 (m : Int), .slice aT n cT], .pointer (some ⟨w.heap.size, 6, none⟩), .int .i64 (m : Int), .func (.func 81) #[] #[.pointer (some ⟨fb + 1, 0, none⟩), .pointer (some ⟨fb + 1 + 1, 0, none⟩)], .agg #[.slice a1 x.1.length c1, .slice a2 x.2.length c2], undef, undef, undef, undef, undef, undef, undef, undef], defers := [] }) ?hAx ?assign ?body ?done
  case hI =>
    rintro pre W W' ⟨⟨a, c, vs, i1, i2, i3⟩, i4⟩ hs'
    exact ⟨⟨a, c, vs, hs'.bx i1, own_cel i2 hs', i3.map (fun a L h => h.cel hs')⟩, i4.trans (hs'.1.mono (by omega))⟩
  case h0 => exact ⟨⟨none, 0, [], hfb, World.ownsRow_nil _ _ _ _, RvS.nil _ _⟩, hb3⟩
  case hAx =>
    rintro x a' W W' ⟨a1, c1, a2, c2, rb, k1, k2, k3, k4, k5⟩ hs'
    exact ⟨a1, c1, a2, c2, rb, hs'.bx k1, k2, k3.cel hs', k4.cel hs', k5⟩
  case assign =>
    rintro l' pre x vs W K hx ⟨⟨a, c, vs', i1, i2, i3⟩, i4⟩ ⟨a1, c1, a2, c2, rfl, hE1, hE2⟩ hsz hK
    have hba := below_one (w := W) (.cells #[.slice a1 x.1.length c1, .slice a2 x.2.length c2] 62)
    have HK := hid (hK)
    have HH := hid (And.intro (Kc.of_below (T := 62) (n0 := w.heap.size) (C := fun k => k = fb) hba) (And.intro (i1.below hba) (And.intro (own_below2 i2 hba) (And.intro (i3.map (fun a L h => h.below hba)) (And.intro (i4.trans (hba.mono (by omega))) (And.intro (Bx.new W #[.slice a1 x.1.length c1, .slice a2 x.2.length c2] 62) (And.intro (hE1.below hba) (hE2.below hba))))))))
    clear hK hba i1 i2 i3 i4 hE1 hE2 hit0 z1 z2 hfb
    refine wpIn_region_plain rfl ?_
    go_wp2_with fail
    obtain ⟨q1, q2, q3, q4, q5, q6, q7, q8⟩ := HH.out
    exact HK.out _ _ q1 ⟨⟨a, c, vs', q2, q3, q4⟩, q5⟩ ⟨a1, c1, a2, c2, W.heap.size, q6, hsz, q7, q8, rfl⟩
  case body =>
    rintro l' pre x a' W ⟨rest, hx⟩ ⟨⟨a, c, vs, i1, i2, i3⟩, i4⟩ ⟨a1, c1, a2, c2, rb, k1, k2, k3, k4, rfl⟩ hsz
    have hp : pre.length ≤ 15625 := by rw [hx] at hlen; simp at hlen; omega
    obtain ⟨p, hpp⟩ : ∃ p, p = pre.length := ⟨_, rfl⟩
    rw [← hpp] at hp i1 i2
    have HP := hid hpp
    obtain ⟨n1, hn1⟩ : ∃ n1, n1 = x.1.length := ⟨_, rfl⟩
    obtain ⟨n2, hn2⟩ : ∃ n2, n2 = x.2.length := ⟨_, rfl⟩
    rw [← hn1, ← hn2] at k1
    rw [← hn1, ← hn2]
    have HN1 := hid hn1; have HN2 := hid hn2
    have v0 := i1.cell 0 rfl
    have u0 := k1.cell 0 rfl
    have u1 := k1.cell 1 rfl
    have hba := below_one (w := W) (.cells #[.slice a1 n1 c1, .slice a2 n2 c2] 62)
    have j1 := i1.below hba
    have j2 := own_below2 i2 hba
    have hcls := Cls.of_bx (Bx.new W #[.slice a1 n1 c1, .slice a2 n2 c2] 62)
    have hkc : Kc 62 w.heap.size (fun k => k = fb) W (W.alloc (.cells #[.slice a1 n1 c1, .slice a2 n2 c2] 62)) := Kc.of_below hba
    have hsa : (W.alloc (.cells #[.slice a1 n1 c1, .slice a2 n2 c2] 62)).heap.size = W.heap.size + 1 := by simp
    have hge := own_ge2 j2
    have hoc := own_cells j2
    have HI3 := hid i3; have HI4 := hid i4; have HK3 := hid k3; have HK4 := hid k4
    clear hx hpp hn1 hn2 i1 i2 i3 i4 k1 k3 k4 hba hit0 z1 z2 hfb
    refine wpIn_block ?_
    refine wpIn_region_plain rfl ?_
    go_wp2_with (at_builtin; go_loud (refine wpList_app rfl (.tmp 20) (.tmp 22) 67 rfl V3.heap.size 62 i0 (.agg #[.slice none 0 0, .slice none 0 0]) 2 48 under67 hi0 iz0 iz1 iz2 rfl (by decide) (.slice a p c) p vs rfl j2 (some ⟨W.heap.size, 0, none⟩) 1 1 [.slice a1 n1 c1, .slice a2 n2 c2] rfl rfl hcls (two_slices _ _ rfl rfl) (by unfold maxLen; omega) (by omega) (by simp; omega) ?_); intro v3 W3 hrow3 hg3; obtain ⟨a3, c3, rfl⟩ := own_slice2 hrow3; have j3 : Bx W3 fb #[.slice a p c] 67 := (by have hh := hg3.block fb (by simp; omega) (fun e => by have := hge fb e.symm; omega); unfold Bx at *; rw [hh]; exact j1); have v3c := j3.cell 0 rfl; have v3f := j3.free 0)
    have hge3 := own_ge2 hrow3
    have hk2 := (hkc.trans (Kc.grown (C := fun k => k = fb) (n0 := w.heap.size) (T := 62) hg3 (fun k e => .inr ⟨by have := hge k e; omega, by obtain ⟨cur, hh⟩ := hoc k e; exact ⟨cur, _, hh⟩⟩))).trans (Kc.set (n0 := w.heap.size) (T := 62) (C := fun k => k = fb) (p := ⟨fb, 0, none⟩) rfl (.slice a3 (p + 1) c3))
    have hown4 : (W3.setCell ⟨fb, 0, none⟩ (.slice a3 (p + 1) c3)).ownsRow V3.heap.size 62 2 (.slice a3 (p + 1) c3) (p + 1) (vs ++ [.slice a1 n1 c1, .slice a2 n2 c2]) := own_heap hrow3 (fun g hg => Below.heap_setCell _ _ _ _ (by have := hge3 g hg; show g ≠ fb; omega))
    have j4 : Bx (W3.setCell ⟨fb, 0, none⟩ (.slice a3 (p + 1) c3)) fb #[.slice a3 (p + 1) c3] 67 := by have := j3.set 0 (.slice a3 (p + 1) c3); simpa using this
    have hiz : ∀ a L, Iz (V3.heap.size + 2) W a L → Iz (V3.heap.size + 2) (W3.setCell ⟨fb, 0, none⟩ (.slice a3 (p + 1) c3)) a L := fun a L h => h.kc (by decide) hk2 (fun k e => by omega)
    have hRv := (HI3.out.map hiz).snoc (r := x) (a1 := a1) (c1 := c1) (a2 := a2) (c2 := c2) (hiz _ _ HK3.out) (hiz _ _ HK4.out)
    rw [← HN1.out, ← HN2.out] at hRv
    have hl : (pre ++ [x]).length = p + 1 := by rw [List.length_append, HP.out]; rfl
    have HF := hid (show (∃ (a : Option Addr) (c : Nat) (vs : List Value), Bx (W3.setCell ⟨fb, 0, none⟩ (.slice a3 (p + 1) c3)) fb #[.slice a (pre ++ [x]).length c] 67 ∧ (W3.setCell ⟨fb, 0, none⟩ (.slice a3 (p + 1) c3)).ownsRow V3.heap.size 62 2 (.slice a (pre ++ [x]).length c) (pre ++ [x]).length vs ∧ RvS (V3.heap.size + 2) (W3.setCell ⟨fb, 0, none⟩ (.slice a3 (p + 1) c3)) vs (pre ++ [x])) ∧ Below w.heap.size w (W3.setCell ⟨fb, 0, none⟩ (.slice a3 (p + 1) c3)) from by
      rw [hl]
      exact ⟨⟨a3, c3, _, j4, hown4, hRv⟩, HI4.out.trans (hk2.below (fun k e => by omega) (by omega))⟩)
    have HK2 := hid hk2
    clear hl hRv hiz j4 hown4 hk2 hge3 hoc hge hcls j1 j2 hrow3 hg3
    go_wp2
    obtain ⟨⟨a', c', vs', g1, g2, g3⟩, g4⟩ := HF.out
    exact ⟨HK2.out, ⟨a', c', by simpa using g1, vs', by simpa using g2, g3⟩, g4⟩
  case done =>
    rintro W ⟨⟨a, c, vs, i1, i2, i3⟩, i4⟩ hD hsz
    have hM := Marks.one hD
    have v0 := i1.cell 0 rfl
    obtain ⟨N, hN⟩ : ∃ N, N = RS.length := ⟨_, rfl⟩
    rw [← hN] at v0 i2 hlen
    have HNN := hid hN
    clear i1 hit0 z1 z2 hfb hN
    by_cases hN0 : N = 0
    · have hEQ : ((N : Int) == 0) = true := by simp [hN0]
      have HR := hid (show RS = [] from List.eq_nil_of_length_eq_zero (by rw [← HNN.out]; exact hN0))
      clear hN0
      go_wp2_with fail
      refine leaves_marks _ _ hM fun w' hc => ?_
      refine ⟨_, results_tmp2 rfl _ _ _, ?_⟩
      exact ⟨i4.trans (hc.1.mono (by omega)), .inr (.inl ⟨rfl, HR.out, rfl⟩)⟩
    · have hEQ : ((N : Int) == 0) = false := by rw [beq_eq_false_iff_ne]; omega
      have HR := hid (show RS ≠ [] from fun h => hN0 (by rw [HNN.out, h]; rfl))
      clear hN0
      go_wp2_with fail
      refine leaves_marks _ _ hM fun w' hc => ?_
      refine ⟨_, results_tmp2 rfl _ _ _, ?_⟩
      refine ⟨i4.trans (hc.1.mono (by omega)), .inr (.inr ⟨rfl, HR.out, a, c, vs, ?_, ?_, ?_⟩)⟩
      · rw [← HNN.out]; rfl
      · rw [← HNN.out]; exact own_base (own_cel i2 hc) (by omega)
      · exact i3.map (fun a L h => (h.cel hc).mono (by omega))
end Go.Proofs.Yteianfbdhakhpaa
