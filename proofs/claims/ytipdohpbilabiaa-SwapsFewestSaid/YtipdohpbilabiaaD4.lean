import Derived.Test.YtipdohpbilabiaaD3
/-! What a plan earns in each box: the sums. -/
namespace Go.Proofs.Ytipdohpbilabiaa
open Go.RowKit

def earI (V : Vz) (k i : Nat) : Int := (V.er.getD i []).getD k 0
/-- What titles earn in a box. -/
def sumE (V : Vz) (k : Nat) (l : List Nat) : Int := l.foldl (fun s i => s + earI V k i) 0
theorem sumE_snoc (V : Vz) (k : Nat) (l : List Nat) (i : Nat) : sumE V k (l ++ [i]) = sumE V k l + earI V k i := by simp [sumE]
def earB (V : Vz) (p : Pl) (k : Nat) : Int := sumE V k (bitsOf (p.get k))
def earL (V : Vz) (p : Pl) (k : Nat) : List Int := (List.range k).map (earB V p)
def earn (V : Vz) (p : Pl) : Int := (earL V p V.nb).foldl (· + ·) 0

theorem under23 : Try.prog.underlying 23 = some (.slice 3) := by kernel_rfl
theorem info3i : (Try.prog.info? 3).map (fun i => (i.zero, i.size, i.bytes)) = some (some (.int .i64 0), 1, 8) := by kernel_rfl
theorem make_ints (n : Nat) (hn : n ≤ 1000) (w : World) : (Instr.makeSlice 23 (.int .i64 (n : Int)) (.int .i64 (n : Int))).run Try.prog w = .ok (.slice (some ⟨w.heap.size, 0, none⟩) n n) (w.alloc (.cells (vrow (List.replicate n 0)) 3)) := by
  obtain ⟨i0, hi, hz0, hz1, hz2⟩ := info_parts info3i
  have h := run_makeSlice (P := Try.prog) (w := w) 23 3 i0 (.int .i64 0) under23 hi hz0 .i64 .i64 (n : Int) (n : Int) (by omega) (Int.le_refl _) (by rw [hz1]; simp; omega) (by rw [hz2]; omega) (by omega)
  rw [hz1, Int.toNat_natCast] at h
  rw [h, ← made_ints n]


theorem earI_le {V : Vz} (hV : VOk V) (k i : Nat) : 0 ≤ earI V k i ∧ earI V k i ≤ 999 := by
  unfold earI
  by_cases h1 : i < V.er.length
  · have hm : V.er.getD i [] ∈ V.er := by rw [List.getD_eq_getElem?_getD, List.getElem?_eq_getElem h1]; simp
    by_cases h2 : k < (V.er.getD i []).length
    · refine hV.er3 _ hm _ ?_
      generalize V.er.getD i [] = r at *
      rw [List.getD_eq_getElem?_getD, List.getElem?_eq_getElem h2]; simp
    · generalize V.er.getD i [] = r at *
      rw [List.getD_eq_getElem?_getD, List.getElem?_eq_none (by omega)]; simp
  · rw [List.getD_eq_getElem?_getD (l := V.er), List.getElem?_eq_none (by omega)]; simp
theorem sumE_le {V : Vz} (hV : VOk V) (k : Nat) (l : List Nat) : 0 ≤ sumE V k l ∧ sumE V k l ≤ 999 * (l.length : Int) := by
  have : ∀ (l : List Nat) (s : Int), 0 ≤ s → 0 ≤ l.foldl (fun s i => s + earI V k i) s ∧ l.foldl (fun s i => s + earI V k i) s ≤ s + 999 * (l.length : Int) := by
    intro l
    induction l with
    | nil => intro s h; simp; exact h
    | cons x l ih =>
      intro s h
      have hx := earI_le hV k x
      have := ih (s + earI V k x) (by omega)
      simp only [List.foldl_cons, List.length_cons]
      omega
  have := this l 0 (Int.le_refl _)
  unfold sumE
  omega
theorem earL_len (V : Vz) (p : Pl) (k : Nat) : (earL V p k).length = k := by simp [earL]
theorem earL_succ (V : Vz) (p : Pl) (k : Nat) : earL V p (k + 1) = earL V p k ++ [earB V p k] := by simp [earL, List.range_succ]
def rowE (V : Vz) (p : Pl) (n k : Nat) : List Int := earL V p k ++ List.replicate (n - k) 0
theorem rowE_set (V : Vz) (p : Pl) {n k : Nat} (hk : k < n) : (rowE V p n k).set k (earB V p k) = rowE V p n (k + 1) := by
  unfold rowE
  rw [earL_succ, List.set_append, if_neg (by rw [earL_len]; omega), earL_len, Nat.sub_self, show n - k = (n - (k + 1)) + 1 by omega, List.replicate_succ]
  simp
theorem rowE_get (V : Vz) (p : Pl) {n k : Nat} (hk : k < n) : (rowE V p n k)[k]? = some 0 := by
  unfold rowE
  rw [List.getElem?_append_right (by rw [earL_len]; omega), earL_len, Nat.sub_self, show n - k = (n - (k + 1)) + 1 by omega, List.replicate_succ]
  rfl
theorem rowE_len (V : Vz) (p : Pl) {n k : Nat} (hk : k ≤ n) : (rowE V p n k).length = n := by
  unfold rowE
  rw [List.length_append, earL_len, List.length_replicate]; omega
theorem set_getI (l : List Int) (k : Nat) (x : Int) (hk : k < l.length) : (l.set k x)[k]? = some x := by simp [hk]

theorem set_same {l : List Int} {k : Nat} {x : Int} (h : l[k]? = some x) : l = l.set k x := by
  refine List.ext_getElem? fun i => ?_
  rw [List.getElem?_set]
  split
  · rename_i e; subst e; rw [h]
    have := (List.getElem?_eq_some_iff.1 h).1
    simp [this]
  · rfl
theorem mem_bits {g i : Nat} (h : i ∈ bitsOf g) : g.testBit i = true ∧ i < 6 := by
  unfold bitsOf bitsTo at h
  rw [List.mem_filter] at h
  exact ⟨h.2, by simpa using h.1⟩

/-- The world while earnsByBox runs. -/
structure EbW (w : World) (s0 : Nat) (ab ast ae ak : Option Addr) (cb cs ce nk ck : Nat) (V : Vz) (p : Pl) (nb : Nat) (row : List Int) (wr : World) : Prop where
  x0 : Bx wr s0 #[.slice ab nb cb, .slice ast V.st.length cs, .slice ae V.er.length ce, .slice ak nk ck, .int .i64 V.ch, .int .u8 (V.now.a : Int), .int .u8 (V.now.b : Int), .int .u8 (V.now.c : Int), .int .u8 (V.stay.a : Int), .int .u8 (V.stay.b : Int), .int .u8 (V.stay.c : Int)] 72
  x1 : Bx wr (s0 + 1) #[.int .u8 (p.a : Int), .int .u8 (p.b : Int), .int .u8 (p.c : Int)] 70
  x2 : Bx wr (s0 + 1 + 1) (vrow row) 3
  x3 : Bx wr (s0 + 1 + 1 + 1) #[.slice (some ⟨s0 + 1 + 1, 0, none⟩) nb nb] 23
  hb : Below s0 w wr
theorem EbW.sta {w : World} {s0 : Nat} {ab ast ae ak : Option Addr} {cb cs ce nk ck : Nat} {V : Vz} {p : Pl} {nb : Nat} {row : List Int} {W W' : World} (h : EbW w s0 ab ast ae ak cb cs ce nk ck V p nb row W) {B : Nat} (hB : s0 + 4 ≤ B) (hW : B ≤ W.heap.size) (hs : Sta B W W') : EbW w s0 ab ast ae ak cb cs ce nk ck V p nb row W' := by
  have hb := hs.below hW
  have f : ∀ {b : Nat} {vs : Array Value} {T : TypeId}, Bx W b vs T → b < s0 + 4 → Bx W' b vs T := fun hx hlt => by
    unfold Bx at *; rw [hb.block _ (by omega)]; exact hx
  exact ⟨f h.x0 (by omega), f h.x1 (by omega), f h.x2 (by omega), f h.x3 (by omega), h.hb.trans (hb.mono (by omega))⟩

theorem Marks.ge {B : Nat} {W : World} : ∀ {ds : List Deferred}, Marks B W ds → ∀ d ∈ ds, ∀ D, d.target = .collected D → B ≤ D
  | [], _, d, hd, _, _ => by cases hd
  | d0 :: ds, ⟨D0, h1, h2, _, h4, _⟩, d, hd, D, e => by
    rcases List.mem_cons.1 hd with rfl | hd
    · rw [h1] at e; cases e; exact h2
    · exact Marks.ge h4 d hd D e
theorem Marks.set {B : Nat} {W : World} {ds : List Deferred} (h : Marks B W ds) {a : Addr} (ha : a.block < B) (v : Value) : Marks B (W.setCell a v) ds :=
  h.keep fun D ⟨d, h1, h2⟩ => Below.heap_setCell _ _ _ _ (by have := h.ge d h1 D h2; omega)
theorem EbW.put {w : World} {s0 : Nat} {ab ast ae ak : Option Addr} {cb cs ce nk ck : Nat} {V : Vz} {p : Pl} {nb : Nat} {row : List Int} {W : World} (h : EbW w s0 ab ast ae ak cb cs ce nk ck V p nb row W) (k : Nat) (y : Int) : EbW w s0 ab ast ae ak cb cs ce nk ck V p nb (row.set k y) (W.setCell ⟨s0 + 1 + 1, k, none⟩ (.int .i64 y)) := by
  refine ⟨h.x0.other (by show s0 ≠ s0 + 1 + 1; omega) _, h.x1.other (by show s0 + 1 ≠ s0 + 1 + 1; omega) _, ?_, h.x3.other (by show s0 + 1 + 1 + 1 ≠ s0 + 1 + 1; omega) _, h.hb.setCell (by show s0 ≤ s0 + 1 + 1; omega) _⟩
  have := h.x2.set k (.int .i64 y)
  rw [vrow_set] at this
  exact this

set_option maxRecDepth 100000 in
set_option maxHeartbeats 3000000 in
theorem earnsByBox_any (ab ast ae ak : Option Addr) (cb cs ce nk ck : Nat) (V : Vz) (hV : VOk V) (p : Pl) (hp : p.ok (2 ^ V.st.length)) (w : World) (hR : Vis w ast ae V) : Calls Try.prog 57 #[.agg #[.slice ab V.nb cb, .slice ast V.st.length cs, .slice ae V.er.length ce, .slice ak nk ck, .int .i64 V.ch, .int .u8 (V.now.a : Int), .int .u8 (V.now.b : Int), .int .u8 (V.now.c : Int), .int .u8 (V.stay.a : Int), .int .u8 (V.stay.b : Int), .int .u8 (V.stay.c : Int)], .agg #[.int .u8 (p.a : Int), .int .u8 (p.b : Int), .int .u8 (p.c : Int)]] w fun e w' => Below w.heap.size w w' ∧ ∃ a, e = .returned (.slice a (earL V p V.nb).length V.nb) ∧ Ints w' a (earL V p V.nb) := by
  refine calls_of_wp_marks Try.func57 rfl ?_
  simp only [Try.ntmps57, List.size_toArray, List.length_cons, List.length_nil, Nat.reduceAdd, Nat.reduceSub, Array.replicate_succ, Array.replicate_zero, List.push_toArray, List.append_toArray, List.nil_append, List.cons_append]
  have h3 := hV.nb3
  have hnI : (V.nb : Int) ≤ 3 := by omega
  obtain ⟨nb, hnb⟩ : ∃ nb, nb = V.nb := ⟨_, rfl⟩
  have HNB := hid hnb
  rw [← hnb] at h3 hnI ⊢
  clear hnb
  have hmk := make_ints nb (by omega)
  have hst : ∀ W, W = ((((w.alloc (.cells #[.slice ab nb cb, .slice ast V.st.length cs, .slice ae V.er.length ce, .slice ak nk ck, .int .i64 V.ch, .int .u8 (V.now.a : Int), .int .u8 (V.now.b : Int), .int .u8 (V.now.c : Int), .int .u8 (V.stay.a : Int), .int .u8 (V.stay.b : Int), .int .u8 (V.stay.c : Int)] 72)).alloc (.cells #[.int .u8 (p.a : Int), .int .u8 (p.b : Int), .int .u8 (p.c : Int)] 70)).alloc (.cells (vrow (List.replicate nb 0)) 3)).alloc (.cells #[.slice (some ⟨w.heap.size + 1 + 1, 0, none⟩) nb nb] 23)) → EbW w w.heap.size ab ast ae ak cb cs ce nk ck V p nb (rowE V p nb 0) W ∧ W.heap.size = w.heap.size + 4 := by
    rintro W rfl
    obtain ⟨W, hW, hb, hs, x0, x1, x2, x3⟩ := boxes4 w #[.slice ab nb cb, .slice ast V.st.length cs, .slice ae V.er.length ce, .slice ak nk ck, .int .i64 V.ch, .int .u8 (V.now.a : Int), .int .u8 (V.now.b : Int), .int .u8 (V.now.c : Int), .int .u8 (V.stay.a : Int), .int .u8 (V.stay.b : Int), .int .u8 (V.stay.c : Int)] 72 #[.int .u8 (p.a : Int), .int .u8 (p.b : Int), .int .u8 (p.c : Int)] 70 (vrow (List.replicate nb 0)) 3 #[.slice (some ⟨w.heap.size + 1 + 1, 0, none⟩) nb nb] 23
    rw [hW]
    exact ⟨⟨x0, x1, by simpa [rowE, earL] using x2, x3, hb⟩, by omega⟩
  go_wp2
  obtain ⟨W1, hW1⟩ : ∃ W, W = ((((w.alloc (.cells #[.slice ab nb cb, .slice ast V.st.length cs, .slice ae V.er.length ce, .slice ak nk ck, .int .i64 V.ch, .int .u8 (V.now.a : Int), .int .u8 (V.now.b : Int), .int .u8 (V.now.c : Int), .int .u8 (V.stay.a : Int), .int .u8 (V.stay.b : Int), .int .u8 (V.stay.c : Int)] 72)).alloc (.cells #[.int .u8 (p.a : Int), .int .u8 (p.b : Int), .int .u8 (p.c : Int)] 70)).alloc (.cells (vrow (List.replicate nb 0)) 3)).alloc (.cells #[.slice (some ⟨w.heap.size + 1 + 1, 0, none⟩) nb nb] 23)) := ⟨_, rfl⟩
  obtain ⟨hE0, hz0⟩ := hst W1 hW1
  rw [← hW1]
  clear hst hmk hW1
  obtain ⟨s0, hs0⟩ : ∃ s0, s0 = w.heap.size := ⟨_, rfl⟩
  rw [← hs0] at hE0 hz0 ⊢
  have HS0 := hid hs0
  clear hs0
  refine wp_loop (fun a' wr => ∃ (k : Nat) (u6 u16 u17 u18 u19 u20 u21 u38 : Value) (ds : List Deferred), a' = { tmps := #[.agg #[.slice ab nb cb, .slice ast V.st.length cs, .slice ae V.er.length ce, .slice ak nk ck, .int .i64 V.ch, .int .u8 (V.now.a : Int), .int .u8 (V.now.b : Int), .int .u8 (V.now.c : Int), .int .u8 (V.stay.a : Int), .int .u8 (V.stay.b : Int), .int .u8 (V.stay.c : Int)], .agg #[.int .u8 (p.a : Int), .int .u8 (p.b : Int), .int .u8 (p.c : Int)], .pointer (some ⟨s0, 0, none⟩), .pointer (some ⟨s0 + 1, 0, none⟩), .slice none 0 0, .pointer (some ⟨s0 + 1 + 1 + 1, 0, none⟩), u6, undef, .pointer (some ⟨s0, 0, none⟩), .pointer (some ⟨s0, 0, none⟩), .slice ab nb cb, .int .i64 (nb : Int), .slice (some ⟨s0 + 1 + 1, 0, none⟩) nb nb, .slice (some ⟨s0 + 1 + 1, 0, none⟩) nb nb, .int .i64 (nb : Int), .int .i64 (k : Int), u16, u17, u18, u19, u20, u21, undef, undef, undef, undef, undef, undef, undef, undef, undef, undef, undef, undef, undef, undef, undef, undef, u38, undef], defers := ds } ∧
      k ≤ nb ∧ Marks (s0 + 4) wr ds ∧ (∀ d ∈ ds, ∀ D, d.target = .collected D → D < wr.heap.size) ∧ s0 + 4 ≤ wr.heap.size ∧ EbW w s0 ab ast ae ak cb cs ce nk ck V p nb (rowE V p nb k) wr) (fun a' _ => 4 - (intOf (a'.tmps.getD 15 undef)).toNat) ?_ ?_
  · exact ⟨0, undef, undef, undef, undef, undef, undef, undef, undef, [], rfl, Nat.zero_le _, trivial, (fun d hd => by cases hd), by omega, hE0⟩
  rintro a' wr ⟨k, u6, u16, u17, u18, u19, u20, u21, u38, ds, rfl, hk, hM, hMD, hsz, hE⟩
  by_cases hlt : k < nb
  · have hkI : (k : Int) < nb := by omega
    have hk0 : (0 : Int) ≤ (k : Int) := by omega
    have hk3 : (k : Int) < 3 := by omega
    go_upto_region 5 with fail
    have hE2 := hE.sta (B := wr.heap.size) (by omega) (Nat.le_refl _) (Sta.of_below (below_one (.cells #[.int .i64 (k : Int)] 3)))
    have hM2 : Marks (s0 + 4) (wr.alloc (.cells #[.int .i64 (k : Int)] 3)) ds := hM.keep fun D hD => (below_one (w := wr) (.cells #[.int .i64 (k : Int)] 3)).block D (by obtain ⟨d, h1, h2⟩ := hD; exact hMD d h1 D h2)
    have y6 := Bx.new wr #[.int .i64 (k : Int)] 3
    obtain ⟨b6, hb6⟩ : ∃ b6, b6 = wr.heap.size := ⟨_, rfl⟩
    obtain ⟨W2, hW2⟩ : ∃ W2, W2 = wr.alloc (.cells #[.int .i64 (k : Int)] 3) := ⟨_, rfl⟩
    have hz2 : W2.heap.size = b6 + 1 := by rw [hW2, hb6]; simp
    rw [← hW2] at hE2 hM2 y6 ⊢
    rw [← hb6] at y6 hsz hMD ⊢
    clear hb6 hW2 hE hM
    have c6 := y6.cell 0 rfl
    have y1 := hE2.x1.cell k (pl_at p (by omega))
    obtain ⟨g, hg⟩ : ∃ g, g = p.get k := ⟨_, rfl⟩
    have hg64 : g < 64 := by rw [hg]; exact (hp.le hV.p64).get k
    have hgt : ∀ i, g.testBit i = true → i < V.st.length := fun i hi => by
      rcases Nat.lt_or_ge i V.st.length with h | h
      · exact h
      · have : g < 2 ^ i := Nat.lt_of_lt_of_le (by rw [hg]; exact hp.get k) (Nat.pow_le_pow_right (by omega) h)
        rw [Nat.testBit_lt_two_pow this] at hi; cases hi
    have HG := hid hg
    rw [← hg] at y1
    clear hg
    go_wp2_with fail
    have hrow0 : rowE V p nb k = (rowE V p nb k).set k (sumE V k []) := by
      exact set_same (rowE_get V p hlt)
    refine wp_rangeFuncB (α := Nat) s0 (by omega) (gf := 83) (bd := #[.int .u8 (g : Int)]) (lb := #[]) (encs := fun x : Nat => #[.int .i64 (x : Int)]) (xs := bitsOf g) (StI := fun W W' => Below W.heap.size W W') (St := fun W W' => w.heap.size ≤ W2.heap.size ∧ (W2.heap.size ≤ W.heap.size → Sta W2.heap.size W W'))
      rfl (enters_of Try.func83 (by kernel_rfl) rfl) (fun _ => rfl) (each_iter g hg64 _ _ _) (fun W W' h => ⟨by have := HS0.out; omega, fun _ => h⟩) (fun W W' h1 h2 => h2.mono h1) (fun W W' h => ⟨by have := HS0.out; omega, fun _ => Sta.of_below h⟩)
      (fun pre W => W2.heap.size ≤ W.heap.size ∧ EbW w s0 ab ast ae ak cb cs ce nk ck V p nb ((rowE V p nb k).set k (sumE V k pre)) W ∧ Bx W b6 #[.int .i64 (k : Int)] 3 ∧ Marks (s0 + 4) W ds)
      ?hI ?h0 (fun i a' W => a' = { tmps := #[.agg #[.slice ab nb cb, .slice ast V.st.length cs, .slice ae V.er.length ce, .slice ak nk ck, .int .i64 V.ch, .int .u8 (V.now.a : Int), .int .u8 (V.now.b : Int), .int .u8 (V.now.c : Int), .int .u8 (V.stay.a : Int), .int .u8 (V.stay.b : Int), .int .u8 (V.stay.c : Int)], .agg #[.int .u8 (p.a : Int), .int .u8 (p.b : Int), .int .u8 (p.c : Int)], .pointer (some ⟨s0, 0, none⟩), .pointer (some ⟨s0 + 1, 0, none⟩), .slice none 0 0, .pointer (some ⟨s0 + 1 + 1 + 1, 0, none⟩), .pointer (some ⟨b6, 0, none⟩), .int .i64 (i : Int), .pointer (some ⟨s0, 0, none⟩), .pointer (some ⟨s0, 0, none⟩), .slice ab nb cb, .int .i64 (nb : Int), .slice (some ⟨s0 + 1 + 1, 0, none⟩) nb nb, .slice (some ⟨s0 + 1 + 1, 0, none⟩) nb nb, .int .i64 (nb : Int), .int .i64 (k : Int), .bool true, .int .i64 (k : Int), .int .i64 (k : Int), .pointer (some ⟨s0 + 1, k, none⟩), .int .u8 (g : Int), .func (.func 83) #[.int .u8 (g : Int)] #[], .int .i64 (i : Int), undef, undef, undef, undef, undef, undef, undef, undef, undef, undef, undef, undef, undef, undef, undef, u38, undef], defers := [] }) (fun _ _ _ _ h _ => h) ?assign ?body ?done
    case hI =>
      rintro pre W W' ⟨i1, i2, i3, i4⟩ ⟨_, hs⟩
      have hs := hs i1
      refine ⟨Nat.le_trans i1 hs.size, i2.sta (by omega) i1 hs, ?_, i4.keep fun D hD => hs.block D ?_ ?_ ?_⟩
      · unfold Bx at *
        rw [hs.block b6 (by omega) (by omega) (by omega)]; exact i3
      all_goals
        obtain ⟨d, h1, h2⟩ := hD
        have := hMD d h1 D h2
        omega
    case h0 => exact ⟨Nat.le_refl _, by rw [← hrow0]; exact hE2, y6, hM2⟩
    case assign =>
      intro l pre i W K hx hi hsz3 hK
      refine wpIn_region_plain rfl ?_
      go_wp2_with fail
      exact hK _ _ (Kept.refl _ _ _) hi rfl
    case body =>
      rintro l pre i a' W hx ⟨i1, i2, i3, i4⟩ rfl hsz3
      have hmem : i ∈ bitsOf g := by obtain ⟨r, hr⟩ := hx; rw [hr]; simp
      obtain ⟨hbit, hi6⟩ := mem_bits hmem
      have hil : i < V.er.length := by rw [hV.er1]; exact hgt i hbit
      have her : V.er[i]? = some (V.er.getD i []) := by rw [List.getD_eq_getElem?_getD, List.getElem?_eq_getElem hil]; rfl
      have hrl : (V.er.getD i []).length = nb := by rw [HNB.out]; exact hV.er2 _ (List.mem_of_getElem? her)
      obtain ⟨be, oe, ai, ci, rfl, hbe, hce, hIi⟩ := hR.2.2 i _ her
      obtain ⟨bi, oi, x, rfl, hbi, hci, hx1, hx2, hgx, _⟩ := hIi.at (k := k) (by rw [hrl]; exact hlt)
      have hxe : x = earI V k i := by unfold earI; rw [List.getD_eq_getElem?_getD (l := V.er.getD i []), hgx.out]; rfl
      have hxb := earI_le hV k i
      rw [← hxe] at hxb
      rw [hrl] at hce
      have hpl : pre.length ≤ 6 := by
        obtain ⟨r, hr⟩ := hx
        have := cnt_le g
        unfold cnt at this
        rw [hr] at this
        simp at this; omega
      have hsb := sumE_le hV k pre
      have hsn := sumE_snoc V k pre i
      rw [← hxe] at hsn
      obtain ⟨s, hs⟩ : ∃ s, s = sumE V k pre := ⟨_, rfl⟩
      rw [← hs] at hsb hsn i2
      have HSN := hid hsn
      obtain ⟨row, hrow⟩ : ∃ row, row = rowE V p nb k := ⟨_, rfl⟩
      have hrln : row.length = nb := by rw [hrow]; exact rowE_len V p (by omega)
      rw [← hrow] at i2 ⊢
      have hsg := set_getI row k s (by omega)
      have hss : (row.set k s).set k (s + x) = row.set k (s + x) := by simp
      have HSS := hid hss
      have cE : W.cell? ⟨be, oe + i, none⟩ = some (.slice (some ⟨bi, oi, none⟩) nb ci) := (i2.hb.cell (p := ⟨be, oe + i, none⟩) (by rw [HS0.out]; exact hbe)).trans hce
      have cI : W.cell? ⟨bi, oi + k, none⟩ = some (.int .i64 x) := (i2.hb.cell (p := ⟨bi, oi + k, none⟩) (by rw [HS0.out]; exact hbi)).trans hci
      have hbi' : bi < s0 := by rw [HS0.out]; exact hbi
      have hiI : (i : Int) < (V.er.length : Int) := by omega
      have hi0 : (0 : Int) ≤ (i : Int) := by omega
      have ew : IntKind.i64.wrap (s + x) = s + x := IntWalk.i64_in _ (by omega)
      clear hmem hbit her hrl hce hIi hci hgx hxe hs hrow hsn hss hbe hbi hi6 hx
      obtain ⟨ne, hne⟩ : ∃ ne, ne = V.er.length := ⟨_, rfl⟩
      rw [← hne] at hiI hil
      have S0 : EbW w s0 ab ast (some ⟨be, oe, none⟩) ak cb cs ce nk ck V p nb (row.set k s) W.drew ∧ Bx W.drew b6 #[.int .i64 (k : Int)] 3 ∧ W.drew.cell? ⟨be, oe + i, none⟩ = some (.slice (some ⟨bi, oi, none⟩) nb ci) ∧ W.drew.cell? ⟨bi, oi + k, none⟩ = some (.int .i64 x) :=
        ⟨i2.sta (B := W.heap.size) (by omega) (Nat.le_refl _) (Sta.of_below (Below.refl _ _).drew), i3.drew, cE, cI⟩
      refine wpIn_block (wpIn_region_head 15 (fun w' => EbW w s0 ab ast (some ⟨be, oe, none⟩) ak cb cs ce nk ck V p nb (row.set k s) w' ∧ Bx w' b6 #[.int .i64 (k : Int)] 3 ∧ w'.cell? ⟨be, oe + i, none⟩ = some (.slice (some ⟨bi, oi, none⟩) nb ci) ∧ w'.cell? ⟨bi, oi + k, none⟩ = some (.int .i64 x)) (by kernel_rfl) (by kernel_rfl) ?_)
      obtain ⟨Y0, hY0⟩ : ∃ Y, Y = W.drew := ⟨_, rfl⟩
      rw [← hY0] at S0 ⊢
      rw [← hne]
      have HY := hid hY0
      clear hY0
      refine HeadAt.take (i := 0) (.slice (some ⟨s0 + 1 + 1, 0, none⟩) nb nb) rfl (by kernel_rfl) (.inl ⟨rfl, fun w' z => ?_⟩) S0 ?_
      · (have z0 := z.1.x3.cell 0 rfl; simp [go_sem, z0])
      refine HeadAt.take (i := 1) (.int .i64 (k : Int)) rfl (by kernel_rfl) (.inl ⟨rfl, fun w' z => ?_⟩) S0 ?_
      · (have z0 := z.2.1.cell 0 rfl; simp [go_sem, z0])
      (try simp only [Act.put, List.getElem_toArray, List.getElem_cons_succ, List.getElem_cons_zero, List.setIfInBounds_toArray, List.set_cons_succ, List.set_cons_zero])
      refine HeadAt.take (i := 2) (.pointer (some ⟨s0 + 1 + 1, k, none⟩)) rfl (by kernel_rfl) (.inl ⟨rfl, fun w' z => ?_⟩) S0 ?_
      · (simp [go_sem, hkI, hk0])
      (try simp only [Act.put, List.getElem_toArray, List.getElem_cons_succ, List.getElem_cons_zero, List.setIfInBounds_toArray, List.set_cons_succ, List.set_cons_zero])
      refine HeadAt.take (i := 3) (.int .i64 s) rfl (by kernel_rfl) (.inl ⟨rfl, fun w' z => ?_⟩) S0 ?_
      · (have z0 := z.1.x2.cell k (vrow_at hsg); simp [go_sem, z0])
      (try simp only [Act.put, List.getElem_toArray, List.getElem_cons_succ, List.getElem_cons_zero, List.setIfInBounds_toArray, List.set_cons_succ, List.set_cons_zero])
      refine HeadAt.take (i := 4) (.pointer (some ⟨s0, 0, none⟩)) rfl (by kernel_rfl) (.inl ⟨rfl, fun _ _ => by simp [go_sem]⟩) S0 ?_
      (try simp only [Act.put, List.getElem_toArray, List.getElem_cons_succ, List.getElem_cons_zero, List.setIfInBounds_toArray, List.set_cons_succ, List.set_cons_zero])
      refine HeadAt.take (i := 5) (.pointer (some ⟨s0, 2, none⟩)) rfl (by kernel_rfl) (.inl ⟨rfl, fun _ _ => by simp [go_sem]⟩) S0 ?_
      (try simp only [Act.put, List.getElem_toArray, List.getElem_cons_succ, List.getElem_cons_zero, List.setIfInBounds_toArray, List.set_cons_succ, List.set_cons_zero])
      refine HeadAt.take (i := 6) (.slice (some ⟨be, oe, none⟩) ne ce) rfl (by kernel_rfl) (.inl ⟨rfl, fun w' z => ?_⟩) S0 ?_
      · (have z0 := z.1.x0.cell 2 rfl; simp [go_sem, z0, hne])
      refine HeadAt.take (i := 7) (.int .i64 (i : Int)) rfl (by kernel_rfl) (.inl ⟨rfl, fun _ _ => by simp [go_sem]⟩) S0 ?_
      (try simp only [Act.put, List.getElem_toArray, List.getElem_cons_succ, List.getElem_cons_zero, List.setIfInBounds_toArray, List.set_cons_succ, List.set_cons_zero])
      refine HeadAt.take (i := 8) (.pointer (some ⟨be, oe + i, none⟩)) rfl (by kernel_rfl) (.inl ⟨rfl, fun w' z => ?_⟩) S0 ?_
      · (simp [go_sem, hiI, hi0])
      (try simp only [Act.put, List.getElem_toArray, List.getElem_cons_succ, List.getElem_cons_zero, List.setIfInBounds_toArray, List.set_cons_succ, List.set_cons_zero])
      refine HeadAt.take (i := 9) (.slice (some ⟨bi, oi, none⟩) nb ci) rfl (by kernel_rfl) (.inl ⟨rfl, fun w' z => ?_⟩) S0 ?_
      · (simp [go_sem, z.2.2.1])
      refine HeadAt.take (i := 10) (.int .i64 (k : Int)) rfl (by kernel_rfl) (.inl ⟨rfl, fun w' z => ?_⟩) S0 ?_
      · (have z0 := z.2.1.cell 0 rfl; simp [go_sem, z0])
      (try simp only [Act.put, List.getElem_toArray, List.getElem_cons_succ, List.getElem_cons_zero, List.setIfInBounds_toArray, List.set_cons_succ, List.set_cons_zero])
      refine HeadAt.take (i := 11) (.pointer (some ⟨bi, oi + k, none⟩)) rfl (by kernel_rfl) (.inl ⟨rfl, fun w' z => ?_⟩) S0 ?_
      · (simp [go_sem, hkI, hk0])
      (try simp only [Act.put, List.getElem_toArray, List.getElem_cons_succ, List.getElem_cons_zero, List.setIfInBounds_toArray, List.set_cons_succ, List.set_cons_zero])
      refine HeadAt.take (i := 12) (.int .i64 x) rfl (by kernel_rfl) (.inl ⟨rfl, fun w' z => ?_⟩) S0 ?_
      · (simp [go_sem, z.2.2.2])
      (try simp only [Act.put, List.getElem_toArray, List.getElem_cons_succ, List.getElem_cons_zero, List.setIfInBounds_toArray, List.set_cons_succ, List.set_cons_zero])
      refine HeadAt.take (i := 13) (.int .i64 (s + x)) rfl (by kernel_rfl) (.inl ⟨rfl, fun w' z => ?_⟩) S0 ?_
      · (simp [go_sem, ew])
      (try simp only [Act.put, List.getElem_toArray, List.getElem_cons_succ, List.getElem_cons_zero, List.setIfInBounds_toArray, List.set_cons_succ, List.set_cons_zero])
      refine HeadAt.take (i := 14) (.pointer (some ⟨s0 + 1 + 1, k, none⟩)) rfl (by kernel_rfl) (.inl ⟨rfl, fun w' z => ?_⟩) S0 ?_
      · (simp [go_sem, hkI, hk0])
      refine HeadAt.done (by kernel_rfl) ?_
      (try simp only [Act.put, List.drop_succ_cons, List.drop_zero, List.getElem_toArray, List.getElem_cons_succ, List.getElem_cons_zero])
      have z1 := S0.1.x2.cell k (vrow_at hsg)
      have z2 := S0.1.x2.free k
      go_wp2_with fail
      have hput := S0.1.put k (s + x)
      rw [HSS.out, ← HSN.out] at hput
      have hyb : Below W.heap.size W Y0 := by rw [HY.out]; exact (Below.refl _ _).drew
      have hK1 : Kept s0 W2.heap.size W Y0 := Kept.of_below hyb (by omega)
      refine ⟨hK1.trans (Kept.set (by show s0 ≤ s0 + 1 + 1; omega) (by show s0 + 1 + 1 < W2.heap.size; omega) _), ?_, ?_, S0.2.1.other (by show b6 ≠ s0 + 1 + 1; omega) _, ?_⟩
      · rw [HY.out]; simpa [World.setCell] using i1
      · rw [← HSN.out]; exact hput
      · refine Marks.set (i4.keep fun D hD => ?_) (by show s0 + 1 + 1 < s0 + 4; omega) _
        rw [HY.out]; rfl
    case done =>
      rintro W ⟨i1, i2, i3, i4⟩ hD hsz3
      go_wp2_with fail
      refine ⟨⟨k + 1, _, _, _, _, _, _, _, _, _, rfl, by omega, ⟨W2.heap.size, rfl, by omega, hD, i4, fun d' hd' e => by have := hMD d' hd' _ e; omega⟩, ?_, by omega, ?_⟩, by simp [intOf]; omega⟩
      · intro d hd D e
        rcases List.mem_cons.1 hd with rfl | hd
        · cases e; omega
        · have := hMD d hd D e; omega
      · have e := rowE_set V p hlt
        unfold earB at e
        rw [← HG.out] at e
        rw [← e]; exact i2
  · obtain rfl : k = nb := by omega
    have c3 := hE.x3.cell 0 rfl
    go_wp2_with fail
    refine leaves_marks ds wr hM fun w' hc => ?_
    refine ⟨_, results_tmp rfl _ _ _, ?_, some ⟨s0 + 1 + 1, 0, none⟩, by rw [earL_len]; rfl, ?_⟩
    · rw [← HS0.out]; exact hE.hb.trans (hc.1.mono (by omega))
    · have hrw : rowE V p k k = earL V p k := by simp [rowE]
      have hx := hc.bx hE.x2
      rw [hrw] at hx
      have hle : ∀ y ∈ earL V p k, 0 ≤ y ∧ y ≤ 6000 := fun y hy => by
        unfold earL at hy
        rw [List.mem_map] at hy
        obtain ⟨j, _, rfl⟩ := hy
        have h1 := sumE_le hV j (bitsOf (p.get j))
        have h2 := cnt_le (p.get j)
        unfold cnt at h2
        unfold earB
        omega
      exact Ints.of_bx hx (by rw [earL_len]; omega) (fun y hy => by have := hle y hy; omega)

theorem earL_le {V : Vz} (hV : VOk V) (p : Pl) (k : Nat) : ∀ y ∈ earL V p k, 0 ≤ y ∧ y ≤ 6000 := fun y hy => by
  unfold earL at hy
  rw [List.mem_map] at hy
  obtain ⟨j, _, rfl⟩ := hy
  have h1 := sumE_le hV j (bitsOf (p.get j))
  have h2 := cnt_le (p.get j)
  unfold cnt at h2
  unfold earB
  omega
theorem addup_snoc (l : List Int) (x : Int) : (l ++ [x]).foldl (· + ·) 0 = l.foldl (· + ·) 0 + x := by simp
theorem addup_le : ∀ (l : List Int), (∀ y ∈ l, 0 ≤ y ∧ y ≤ 6000) → 0 ≤ l.foldl (· + ·) 0 ∧ l.foldl (· + ·) 0 ≤ 6000 * (l.length : Int) := by
  have : ∀ (l : List Int) (s : Int), 0 ≤ s → (∀ y ∈ l, 0 ≤ y ∧ y ≤ 6000) → 0 ≤ l.foldl (· + ·) s ∧ l.foldl (· + ·) s ≤ s + 6000 * (l.length : Int) := by
    intro l
    induction l with
    | nil => intro s h _; simp; exact h
    | cons x l ih =>
      intro s h hl
      have hx := hl x (by simp)
      have := ih (s + x) (by omega) (fun y hy => hl y (by simp [hy]))
      simp only [List.foldl_cons, List.length_cons]
      omega
  intro l hl
  have := this l 0 (Int.le_refl _) hl
  omega
theorem earn_le {V : Vz} (hV : VOk V) (p : Pl) : 0 ≤ earn V p ∧ earn V p ≤ 18000 := by
  have h := addup_le _ (earL_le hV p V.nb)
  rw [earL_len] at h
  have := hV.nb3
  unfold earn
  omega

set_option maxRecDepth 100000 in
set_option maxHeartbeats 3000000 in
theorem earns_any (ab ast ae ak : Option Addr) (cb cs ce nk ck : Nat) (V : Vz) (hV : VOk V) (p : Pl) (hp : p.ok (2 ^ V.st.length)) (w : World) (hR : Vis w ast ae V) : Calls Try.prog 58 #[.agg #[.slice ab V.nb cb, .slice ast V.st.length cs, .slice ae V.er.length ce, .slice ak nk ck, .int .i64 V.ch, .int .u8 (V.now.a : Int), .int .u8 (V.now.b : Int), .int .u8 (V.now.c : Int), .int .u8 (V.stay.a : Int), .int .u8 (V.stay.b : Int), .int .u8 (V.stay.c : Int)], .agg #[.int .u8 (p.a : Int), .int .u8 (p.b : Int), .int .u8 (p.c : Int)]] w fun e w' => e = .returned (.int .i64 (earn V p)) ∧ Below w.heap.size w w' := by
  obtain ⟨W, hW, hb, hs, x0, x1⟩ := boxes2 w #[.slice ab V.nb cb, .slice ast V.st.length cs, .slice ae V.er.length ce, .slice ak nk ck, .int .i64 V.ch, .int .u8 (V.now.a : Int), .int .u8 (V.now.b : Int), .int .u8 (V.now.c : Int), .int .u8 (V.stay.a : Int), .int .u8 (V.stay.b : Int), .int .u8 (V.stay.c : Int)] 72 #[.int .u8 (p.a : Int), .int .u8 (p.b : Int), .int .u8 (p.c : Int)] 70
  clear hs
  have hce := fun v h => earnsByBox_any ab ast ae ak cb cs ce nk ck V hV p hp v h
  have hle := earL_le hV p V.nb
  have hln := earL_len V p V.nb
  have hn3 := hV.nb3
  have hea : earn V p = (earL V p V.nb).foldl (· + ·) 0 := rfl
  rw [hea]
  obtain ⟨L, hL⟩ : ∃ L, L = earL V p V.nb := ⟨_, rfl⟩
  rw [← hL] at hle hln hce ⊢
  rw [hln] at hce
  have HLN := hid hln
  have HLE := hid hle
  obtain ⟨n, hn⟩ : ∃ n, n = V.nb := ⟨_, rfl⟩
  rw [← hn] at HLN hn3 hce hW x0
  rw [← hn]
  have hnI : (n : Int) ≤ 3 := by omega
  clear hL hea hle hln hn hV hp
  have c0 := x0.cell 0 rfl; have c1 := x0.cell 1 rfl; have c2 := x0.cell 2 rfl; have c3 := x0.cell 3 rfl; have c4 := x0.cell 4 rfl; have c5 := x0.cell 5 rfl; have c6 := x0.cell 6 rfl; have c7 := x0.cell 7 rfl; have c8 := x0.cell 8 rfl; have c9 := x0.cell 9 rfl; have c10 := x0.cell 10 rfl; have d0 := x1.cell 0 rfl; have d1 := x1.cell 1 rfl; have d2 := x1.cell 2 rfl
  have hR1 := hR.below hb (Nat.le_refl _)
  go_enter Try.func58, Try.ntmps58
  go_wp2_with fail
  refine (hce _ hR1).mono ?_
  rintro e W1 ⟨hb1, a, rfl, hI⟩
  clear hW c0 c1 c2 c3 c4 c5 c6 c7 c8 c9 c10 d0 d1 d2 x0 x1
  replace hb := hb.trans (hb1.mono hb.size)
  clear hb1 hce hR1 hR
  go_wp2
  go_loopw [5, 7, 12] (fun v5 v7 v12 wr => ∃ k : Nat, k ≤ n ∧ v12 = .int .i64 (k : Int) ∧ v5 = .int .i64 ((L.take k).foldl (· + ·) 0) ∧ wr = W1) (fun _ _ v12 _ => n - (intOf v12).toNat)
  case atStart => exact ⟨0, Nat.zero_le _, rfl, rfl, rfl⟩
  case round =>
    obtain ⟨k, hk, rfl, rfl, rfl⟩ := hrel
    by_cases hlt : k < n
    · obtain ⟨b, off, x, rfl, hbl, hc, hx1, hx2, hg, _⟩ := hI.at (k := k) (by rw [HLN.out]; exact hlt)
      have hx := HLE.out x (List.mem_of_getElem? hg.out)
      have hsn : (L.take (k + 1)).foldl (· + ·) 0 = (L.take k).foldl (· + ·) 0 + x := by
        rw [List.take_add_one, hg.out]; simp
      have hsl := addup_le (L.take k) (fun y hy => HLE.out y (List.mem_of_mem_take hy))
      have hlk : (L.take k).length ≤ 3 := by rw [List.length_take]; omega
      have hkI : (k : Int) < n := by omega
      have hk0 : (0 : Int) ≤ (k : Int) := by omega
      have HSN := hid hsn
      obtain ⟨s, hs⟩ : ∃ s, s = (L.take k).foldl (· + ·) 0 := ⟨_, rfl⟩
      rw [← hs] at HSN hsl ⊢
      have ew : IntKind.i64.wrap (s + x) = s + x := IntWalk.i64_in _ (by omega)
      clear hsn hs hlk
      go_wp2
      go_roundw
      case rel => exact ⟨k + 1, by omega, by simp, by rw [HSN.out], trivial⟩
      case measure => simp [intOf]; omega
    · obtain rfl : k = n := by omega
      have e : L.take k = L := List.take_of_length_le (by rw [HLN.out]; omega)
      rw [e]
      clear e
      go_wp2
      go_ret
      exact ⟨rfl, hb⟩
end Go.Proofs.Ytipdohpbilabiaa
