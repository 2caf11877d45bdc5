import Derived.Test.YtmpihcencnkpbaaT9
/-! slices.Sorted of the keys of a map. -/
namespace Go.Proofs.Ytmpihcencnkpbaa
set_option linter.unusedSimpArgs false
set_option linter.unusedVariables false
open Go Go.RowKit Go.Shelf Go.Sort

theorem under43 : Try.prog.underlying 43 = some (.slice 3) := by kernel_rfl
theorem info3i : (Try.prog.info? 3).map (fun i => (i.zero, i.size, i.bytes)) = some (some (.int .i64 0), 1, 8) := by kernel_rfl
/-- All stays but for three blocks. -/
structure St3 (s : Nat) (W W' : World) : Prop where
  os : W'.os = W.os
  tape : W'.tape = W.tape
  output : W'.output = W.output
  size : W.heap.size ≤ W'.heap.size
  block : ∀ k, k < W.heap.size → k ≠ s → k ≠ s + 1 → k ≠ s + 2 → W'.heap[k]? = W.heap[k]?
theorem St3.of_sta {s : Nat} {W W' : World} (h : Sta s W W') : St3 s W W' := ⟨h.os, h.tape, h.output, h.size, fun k h1 h2 h3 _ => h.block k h1 h2 h3⟩
theorem St3.of_gr {s : Nat} {W W' : World} (h : W.grownBy W' (some (s + 2))) : St3 s W W' := ⟨h.os, h.tape, h.output, h.size, fun k h1 _ _ h4 => h.block k h1 (fun e => by simp at e; omega)⟩
/-- What the loop has made so far. -/
structure ApW (w : World) (s0 : Nat) (v : Value) (xs : List Int) (W : World) : Prop where
  sz : s0 + 1 ≤ W.heap.size
  x0 : Bx W s0 #[v] 43
  own : W.ownsRow (s0 + 1) 3 1 v xs.length (xs.map (Value.int .i64))
  hb : Below s0 w W
  ne : ∀ g, v.ownBlock = some g → g ≠ s0 + 1 ∧ g ≠ s0 + 1 + 1 ∧ g ≠ s0 + 1 + 2
theorem ApW.st {w : World} {s0 : Nat} {v : Value} {xs : List Int} {W W' : World} (h : ApW w s0 v xs W) (hs : St3 (s0 + 1) W W') : ApW w s0 v xs W' := by
  have hlt := h.x0.lt
  refine ⟨Nat.le_trans h.sz hs.size, ?_, own_heap h.own (fun g hg => ?_), h.hb.trans ⟨hs.os, hs.tape, hs.output, hs.size, fun k hk => hs.block k (by omega) (by omega) (by omega) (by omega)⟩, h.ne⟩
  · have := h.x0
    unfold Bx at *
    rw [hs.block s0 hlt (by omega) (by omega) (by omega)]; exact this
  · obtain ⟨n1, n2, n3⟩ := h.ne g hg
    exact hs.block g (h.own.lt g hg).2 n1 n2 n3
theorem gset (w : World) (a : Addr) (v : Value) : w.grownBy (w.setCell a v) (some a.block) :=
  ⟨rfl, rfl, rfl, by simp [World.setCell], fun k _ hk => Below.heap_setCell _ _ _ _ (fun e => hk (by rw [e]))⟩
theorem ApW.put {w W W3 : World} {s0 n : Nat} {a0 a3 : Option Addr} {c0 c3 : Nat} {xs : List Int} {x : Int} (h : ApW w s0 (.slice a0 n c0) xs W) (hn : n = xs.length) (h3 : s0 + 1 + 2 < W.heap.size)
    (hown3 : W3.ownsRow (s0 + 1) 3 1 (.slice a3 (n + 1) c3) (n + 1) (xs.map (Value.int .i64) ++ [.int .i64 x])) (hg3 : (W.alloc (.cells #[.int .i64 x] 3)).grownBy W3 (Value.slice a0 n c0).ownBlock)
    (hat : (Value.slice a3 (n + 1) c3).ownBlock = (Value.slice a0 n c0).ownBlock ∨ (Value.slice a3 (n + 1) c3).ownBlock = some (W.alloc (.cells #[.int .i64 x] 3)).heap.size) :
    Kep s0 (s0 + 1) W (W3.setCell ⟨s0, 0, none⟩ (.slice a3 (n + 1) c3)) ∧ ApW w s0 (.slice a3 (n + 1) c3) (xs ++ [x]) (W3.setCell ⟨s0, 0, none⟩ (.slice a3 (n + 1) c3)) := by
  have hbW := below_one (w := W) (.cells #[.int .i64 x] 3)
  have hsz := h.sz
  have hge := own_ge2 h.own
  have hlt := fun g hg => (h.own.lt g hg).2
  have hge3 := own_ge2 hown3
  have hs3 := hg3.size
  rw [World.size_alloc] at hs3
  have hk1 : Kep s0 (s0 + 1) W W3 := (Kep.of_below hbW (by omega)).trans (Kep.grown hg3 (by simp; omega) (fun k hk => by have := hge k hk; obtain ⟨n1, n2, n3⟩ := h.ne k hk; exact ⟨by omega, n1, n2, n3⟩))
  refine ⟨hk1.trans (Kep.set (p := ⟨s0, 0, none⟩) (Nat.le_refl _) (by show s0 ≠ s0 + 1; omega) (by show s0 ≠ s0 + 1 + 1; omega) (by show s0 ≠ s0 + 1 + 2; omega) _), by simp [World.setCell]; omega, ?_, ?_, ?_, ?_⟩
  · have h0 := (h.x0.below hbW).gro hg3 (fun e => by have := hge _ e; omega)
    have := h0.set 0 (.slice a3 (n + 1) c3)
    simpa using this
  · have e : (xs ++ [x]).length = n + 1 := by rw [List.length_append, ← hn]; rfl
    rw [e, List.map_append]
    exact own_keep hown3 (gset _ _ _) (fun q hq e => by have := hge3 q hq; have e' : s0 = q := (by simpa using e); omega)
  · exact (h.hb.trans hk1.below).setCell (Nat.le_refl _) _
  · intro g hg
    rcases hat with e | e
    · exact h.ne g (e ▸ hg)
    · rw [e, World.size_alloc] at hg; cases hg; omega

set_option maxRecDepth 100000 in
set_option maxHeartbeats 3000000 in
theorem AppendSeq_any (c mb nn : Nat) (Q : List Int) (D : DataW Unit) (w : World) (xc : Bx w c #[.map (some mb)] 78) (hown : w.ownsMap Try.prog 3 (plainElem Try.prog 3) mb nn D) (hD : CntI D Q) (hQ : Q.length ≤ 900000) :
    Calls Try.prog 102 #[.slice none 0 0, .func (.func 94) #[] #[.pointer (some ⟨c, 0, none⟩)]] w fun e w' => Below w.heap.size w w' ∧ ∃ (xs : List Int) (a : Option Addr) (cc : Nat), Fn Q xs ∧ e = .returned (.slice a xs.length cc) ∧ w'.ownsRow w.heap.size 3 1 (.slice a xs.length cc) xs.length (xs.map (Value.int .i64)) := by
  obtain ⟨i0, hi0, iz0, iz1, iz2⟩ := info_parts info3i
  refine calls_of_wp_marks Try.func102 rfl ?_
  simp only [Try.ntmps102, List.size_toArray, List.length_cons, List.length_nil, Nat.reduceAdd, Nat.reduceSub, Array.replicate_succ, Array.replicate_zero, List.push_toArray, List.append_toArray, List.nil_append, List.cons_append]
  obtain ⟨W1, hW1, hb1, hs1, x0⟩ := boxes1 w #[.slice none 0 0] 43
  have hmb := hown.lt
  have e0 := x0.cell 0 rfl
  go_wp2_with fail
  have hE0 : ApW w w.heap.size (.slice none 0 0) [] W1 := ⟨by omega, x0, World.ownsRow_nil _ _ _ _, hb1, fun g hg => by simp [Value.ownBlock] at hg⟩
  have xc1 := xc.below hb1
  have hown1 := hown.kept (Below.gr' hb1) (by simp)
  obtain ⟨s0, hs0⟩ : ∃ s0, s0 = w.heap.size := ⟨_, rfl⟩
  rw [← hs0] at hE0 hs1 hmb ⊢
  have HS0 := hid hs0
  clear hW1 e0 x0 hb1 xc hown hs0
  refine wp_rangeFuncE (α := Int) s0 (by omega) (gf := 94) (bd := #[]) (lb := #[.pointer (some ⟨c, 0, none⟩)]) (encs := fun x : Int => #[.int .i64 x]) (Nx := Nx Q) (Fn := Fn Q) (StI := fun W W' => W.grownBy W' (some (s0 + 1 + 2))) (St := St3 (s0 + 1))
    rfl (enters_of Try.func94 (by kernel_rfl) rfl) (fun _ => rfl) (by rw [hs1]; exact keys_itr c mb nn Q D s0 (s0 + 1 + 2) W1 (by omega) xc1 hown1 hD hmb (by omega)) (fun W W' h => by rw [hs1] at h; exact St3.of_sta h)
    (fun W W' h1 h2 => ⟨h2.os, h2.tape, h2.output, h2.size, fun k hk => h2.block k (by omega) (fun e => by simp at e; omega)⟩) (fun W W' h => St3.of_gr h)
    (fun pre W => ∃ v, ApW w s0 v pre W) ?hI ?h0
    (fun x a' W => a' = { tmps := #[.slice none 0 0, .func (.func 94) #[] #[.pointer (some ⟨c, 0, none⟩)], .pointer (some ⟨s0, 0, none⟩), undef, .slice none 0 0, .int .i64 x, .func (.func 94) #[] #[.pointer (some ⟨c, 0, none⟩)], .int .i64 x, undef, undef, undef, undef, undef], defers := [] }) (fun _ _ _ _ h _ => h) ?assign ?body ?done
  case hI =>
    rintro pre W W' ⟨v, h⟩ hs
    exact ⟨v, h.st hs⟩
  case h0 => exact ⟨_, hE0⟩
  case assign =>
    intro l pre x W K hx hi hsz3 hK
    refine wpIn_region_plain rfl ?_
    go_wp2_with fail
    exact hK _ _ (Kep.refl _ _ _) hi rfl
  case body =>
    rintro l pre x a' W hx ⟨v, hA⟩ rfl hsz3
    have hpl : pre.length ≤ 900000 := Nat.le_trans (nodup_le pre Q hx.2.2.1 hx.2.2.2) hQ
    obtain ⟨a0, c0, e⟩ := own_slice2 hA.own
    obtain ⟨n, hn⟩ : ∃ n, n = pre.length := ⟨_, rfl⟩
    rw [← hn] at e hpl
    subst e
    have hown := hA.own
    rw [← hn] at hown
    have HN := hid hn
    have q1 := hA.x0.cell 0 rfl
    have hbW := below_one (w := W) (.cells #[.int .i64 x] 3)
    have hcls := Cls.of_bx (Bx.new W #[.int .i64 x] 3)
    have q1' := Below.keep hbW q1
    have x1' := hA.x0.below hbW
    have hge := own_ge2 hown
    have hszW := hA.sz
    clear hn hx
    rw [hs1] at hsz3
    refine wpIn_block (wpIn_region_plain rfl ?_)
    go_wp2_with (at_builtin; refine wpList_appAt rfl (.tmp 8) (.tmp 10) 43 rfl (s0 + 1) 3 i0 (.int .i64 0) 1 8 under43 hi0 iz0 iz1 iz2 rfl (by decide) (.slice a0 n c0) n (pre.map (Value.int .i64)) rfl (own_below2 hown hbW) (some ⟨W.heap.size, 0, none⟩) 1 1 [.int .i64 x] rfl rfl hcls (by simp; rfl) (by unfold maxLen; omega) (by omega) (by simp; omega) ?_
                 intro v3 W3 hown3 hg3 hat
                 obtain ⟨a3, c3, rfl⟩ := own_slice2 hown3
                 have x13 := x1'.gro hg3 (fun e => by have := hge _ e; omega)
                 have q3 := x13.cell 0 rfl
                 have q3f := x13.free 0)
    have hp1 := ApW.put hA HN.out (by omega) hown3 hg3 hat
    (try rw [hs1])
    exact ⟨hp1.1, _, hp1.2⟩
  case done =>
    rintro xs W hFn ⟨v, hA⟩ hDf hsz3
    rw [hs1] at hDf
    obtain ⟨a, cc, e⟩ := own_slice2 hA.own
    subst e
    have c3 := hA.x0.cell 0 rfl
    rw [hs1]
    go_wp2_with fail
    refine leaves_marks (B := s0 + 1) [_] W ⟨s0 + 1, rfl, Nat.le_refl _, hDf, trivial, fun d' hd' => by cases hd'⟩ fun w' hc => ?_
    have how := own_heap (w' := w') hA.own (fun g hg => by
      obtain ⟨vs, z, hh⟩ := own_ty hA.own g hg
      rw [hh]; exact hc.2 _ _ _ _ hh)
    refine ⟨_, results_tmp rfl _ _ _, by rw [← HS0.out]; exact hA.hb.trans (hc.1.mono (by omega)), xs, a, cc, hFn, rfl, own_base how (by have := HS0.out; omega)⟩

set_option maxRecDepth 100000 in
set_option maxHeartbeats 2000000 in
theorem Collect_any (c mb nn : Nat) (Q : List Int) (D : DataW Unit) (w : World) (xc : Bx w c #[.map (some mb)] 78) (hown : w.ownsMap Try.prog 3 (plainElem Try.prog 3) mb nn D) (hD : CntI D Q) (hQ : Q.length ≤ 900000) :
    Calls Try.prog 92 #[.func (.func 94) #[] #[.pointer (some ⟨c, 0, none⟩)]] w fun e w' => Below w.heap.size w w' ∧ ∃ (xs : List Int) (a : Option Addr) (cc : Nat), Fn Q xs ∧ e = .returned (.slice a xs.length cc) ∧ w'.ownsRow w.heap.size 3 1 (.slice a xs.length cc) xs.length (xs.map (Value.int .i64)) := by
  have hs := AppendSeq_any c mb nn Q D w xc hown hD hQ
  go_enter Try.func92, Try.ntmps92
  go_wp2_with fail
  refine hs.mono ?_
  rintro e W1 ⟨hb1, xs, a, cc, hF, rfl, ho⟩
  clear hs hown hD xc
  go_wp2
  go_ret
  exact ⟨hb1, xs, a, cc, hF, rfl, ho⟩
set_option maxRecDepth 100000 in
set_option maxHeartbeats 1000000 in
theorem Keys_any (mb : Nat) (w : World) : Calls Try.prog 72 #[.map (some mb)] w fun e w' => e = .returned (.func (.func 94) #[] #[.pointer (some ⟨w.heap.size, 0, none⟩)]) ∧ Below w.heap.size w w' ∧ Bx w' w.heap.size #[.map (some mb)] 78 := by
  obtain ⟨W, hW, hb, hs, x0⟩ := boxes1 w #[.map (some mb)] 78
  go_enter Try.func72, Try.ntmps72
  go_wp2
  go_ret
  exact ⟨rfl, hb, x0⟩

def srt (xs : List Int) : List Int := xs.mergeSort fun x y => decide (x ≤ y)
theorem srt_len (xs : List Int) : (srt xs).length = xs.length := by simp [srt]
theorem srt_mem (xs : List Int) (x : Int) : x ∈ srt xs ↔ x ∈ xs := by simp [srt]
theorem sort_own {base : Nat} {v : Value} {xs : List Int} {w : World} (h : w.ownsRow base 3 1 v xs.length (xs.map (Value.int .i64))) (hl : xs.length < 4611686018427387904) :
    Calls Try.prog 93 #[v] w fun e w' => e = .returned (.tuple #[]) ∧ w'.ownsRow base 3 1 v (srt xs).length ((srt xs).map (Value.int .i64)) ∧ ∃ row, w.grownBy w' row ∧ ∀ k, row = some k → base ≤ k := by
  rw [srt_len]
  rcases h.2 with ⟨rfl, hz⟩ | ⟨g, cap, cur, rfl, hbase, hg, r1, r2, r3, r4⟩
  · have hx : xs = [] := List.eq_nil_of_length_eq_zero hz
    subst hx
    refine (Any.slices_Sort_int_none Try.laysSort none 0 w).mono ?_
    rintro e w' ⟨rfl, rfl⟩
    exact ⟨rfl, by simpa [srt] using h, none, ⟨rfl, rfl, rfl, Nat.le_refl _, fun _ _ _ => rfl⟩, fun k hk => by cases hk⟩
  · have hH : Holds (Value.int .i64) w g 0 xs.toArray := holds_of_blockI hg (by simpa using r4)
    have hgl : g < w.heap.size := (Array.getElem?_eq_some_iff.1 hg).1
    refine (Any.slices_Sort_int Try.laysSort g 0 cap xs w hH hgl hl).mono ?_
    rintro e w' ⟨rfl, n, os, rfl⟩
    exact ⟨rfl, ownsRow_sortedI (by simp) hbase hg r1 r2 r3, some g, grownBy_sortedI _, fun k hk => by cases hk; exact hbase⟩

/-- Two rising lists with the same members are one. -/
theorem eq_rising : ∀ {a b : List Int}, a.Pairwise (· < ·) → b.Pairwise (· < ·) → (∀ x, x ∈ a ↔ x ∈ b) → a = b
  | [], [], _, _, _ => rfl
  | [], y :: b, _, _, h => by have := (h y).2 List.mem_cons_self; simp at this
  | x :: a, [], _, _, h => by have := (h x).1 List.mem_cons_self; simp at this
  | x :: a, y :: b, ha, hb, h => by
    rw [List.pairwise_cons] at ha hb
    have hxy : x = y := by
      rcases List.mem_cons.1 ((h x).1 List.mem_cons_self) with e | h1
      · exact e
      · rcases List.mem_cons.1 ((h y).2 List.mem_cons_self) with e | h2
        · exact e.symm
        · have := ha.1 y h2; have := hb.1 x h1; omega
    subst hxy
    rw [eq_rising ha.2 hb.2 (fun z => ⟨fun hz => ?_, fun hz => ?_⟩)]
    · rcases List.mem_cons.1 ((h z).1 (List.mem_cons_of_mem _ hz)) with e | h1
      · have := ha.1 z hz; omega
      · exact h1
    · rcases List.mem_cons.1 ((h z).2 (List.mem_cons_of_mem _ hz)) with e | h1
      · have := hb.1 z hz; omega
      · exact h1
theorem srt_rising {xs : List Int} (h : xs.Nodup) : (srt xs).Pairwise (· < ·) := by
  have h1 : (srt xs).Pairwise (fun x y => decide (x ≤ y) = true) := List.pairwise_mergeSort (fun a b c h1 h2 => by simp at *; omega) (fun a b => by simp; omega) xs
  have h2 : (srt xs).Nodup := (List.mergeSort_perm xs _).nodup_iff.2 h
  refine (h1.and h2).imp ?_
  rintro a b ⟨h3, h4⟩
  have h5 : a ≤ b := by simpa using h3
  have h6 : a ≠ b := h4
  omega
/-- All numbers of a list, rising, once each (from -1 to 24). -/
def shV (Q : List Int) : List Int := ((List.range 26).map fun (i : Nat) => (i : Int) - 1).filter fun v => decide (v ∈ Q)
theorem shV_mem {Q : List Int} {x : Int} : x ∈ shV Q ↔ x ∈ Q ∧ -1 ≤ x ∧ x ≤ 24 := by
  simp only [shV, List.mem_filter, List.mem_map, List.mem_range, decide_eq_true_eq]
  constructor
  · rintro ⟨⟨i, hi, rfl⟩, h⟩; exact ⟨h, by omega, by omega⟩
  · rintro ⟨h1, h2, h3⟩; exact ⟨⟨(x + 1).toNat, by omega, by omega⟩, h1⟩
theorem shV_rising (Q : List Int) : (shV Q).Pairwise (· < ·) := by
  refine List.Pairwise.filter _ ?_
  rw [List.pairwise_map]
  exact List.pairwise_lt_range.imp (fun {a b} h => by omega)
theorem srt_shV {Q xs : List Int} (hF : Fn Q xs) (hr : ∀ x ∈ Q, -1 ≤ x ∧ x ≤ 24) : srt xs = shV Q :=
  eq_rising (srt_rising hF.1) (shV_rising Q) fun x => by
    rw [srt_mem, hF.2, shV_mem]
    exact ⟨fun h => ⟨h, hr x h⟩, fun h => h.1⟩

set_option maxRecDepth 100000 in
set_option maxHeartbeats 2000000 in
theorem Sorted_any (c mb nn : Nat) (Q : List Int) (D : DataW Unit) (w : World) (xc : Bx w c #[.map (some mb)] 78) (hown : w.ownsMap Try.prog 3 (plainElem Try.prog 3) mb nn D) (hD : CntI D Q) (hQ : Q.length ≤ 900000) (hr : ∀ x ∈ Q, -1 ≤ x ∧ x ≤ 24) :
    Calls Try.prog 71 #[.func (.func 94) #[] #[.pointer (some ⟨c, 0, none⟩)]] w fun e w' => Below w.heap.size w w' ∧ ∃ (a : Option Addr) (cc : Nat), e = .returned (.slice a (shV Q).length cc) ∧ Ints w' a (shV Q) := by
  have hs := Collect_any c mb nn Q D w xc hown hD hQ
  have HR := hid hr
  go_enter Try.func71, Try.ntmps71
  go_wp2_with fail
  refine hs.mono ?_
  rintro e W1 ⟨hb1, xs, a, cc, hF, rfl, ho⟩
  have hxl : xs.length ≤ 900000 := Nat.le_trans (nodup_le xs Q hF.1 (fun x hx => (hF.2 x).1 hx)) hQ
  have hso := sort_own ho (by omega)
  have hsv := srt_shV hF HR.out
  have hl : (shV Q).length = xs.length := by rw [← hsv, srt_len]
  rw [hsv] at hso
  (try rw [hl] at hso)
  obtain ⟨n, hn⟩ : ∃ n, n = xs.length := ⟨_, rfl⟩
  rw [← hn] at hso hl hxl ⊢
  have HL := hid hl
  clear hs hown hD xc hF ho hn hl hsv hr
  go_wp2_with fail
  refine hso.mono ?_
  rintro e W2 ⟨rfl, ho, row, hg, hk⟩
  have hb2 := hb1.grown hg hb1.size hk
  have hi : Ints W2 a (shV Q) := by
    obtain ⟨a', c', e, hi⟩ := Ints.of_own (xs := shV Q) (by rw [HL.out]; exact ho) (by rw [HL.out]; omega) (fun x hx => by have := (shV_mem.1 hx).2; omega)
    rw [HL.out] at e
    simp only [Value.slice.injEq] at e
    rw [e.1]; exact hi
  have HX := hid (And.intro hb2 hi)
  clear ho hg hk hb1 hb2 hi hso
  go_wp2
  go_ret
  exact ⟨HX.out.1, a, cc, by rw [HL.out]; rfl, HX.out.2⟩
end Go.Proofs.Ytmpihcencnkpbaa
