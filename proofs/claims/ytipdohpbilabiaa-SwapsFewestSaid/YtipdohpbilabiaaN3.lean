import Derived.Test.YtipdohpbilabiaaR2
import Derived.Test.YtipdohpbilabiaaN2
/-! All titles of a plan, with their boxes; Always. -/
namespace Go.Proofs.Ytipdohpbilabiaa
set_option linter.unusedSimpArgs false
set_option linter.unusedVariables false
open Go Go.RowKit

def keepR (p : Pl) (k : Nat) : List (Int × Int) := (bitsOf (p.get k)).map fun (i : Nat) => (((k : Nat) : Int), (i : Int))
def keepK (p : Pl) (k : Nat) : List (Int × Int) := (List.range k).flatMap (keepR p)
/-- All titles of a plan with their boxes. -/
def keepL (p : Pl) : List (Int × Int) := keepK p 3
theorem keepK_succ (p : Pl) (k : Nat) : keepK p (k + 1) = keepK p k ++ keepR p k := flat_succ _ _
theorem keepK_len (p : Pl) : ∀ k, (keepK p k).length ≤ 6 * k
  | 0 => by simp [keepK]
  | k + 1 => by
    rw [keepK_succ, List.length_append]
    have h1 := keepK_len p k
    have h2 : (keepR p k).length ≤ 6 := by unfold keepR; rw [List.length_map]; exact cnt_le _
    omega
theorem keepK_rng (p : Pl) (k : Nat) (hk : k ≤ 3) : ∀ x ∈ keepK p k, 0 ≤ x.1 ∧ x.1 < 3 ∧ 0 ≤ x.2 ∧ x.2 < 6 := fun x hx => by
  unfold keepK at hx
  rw [List.mem_flatMap] at hx
  obtain ⟨j, hj, hx⟩ := hx
  unfold keepR at hx
  rw [List.mem_map] at hx
  obtain ⟨i, hi, rfl⟩ := hx
  have h1 := (mem_bits hi).2
  have h2 : j < k := by simpa using hj
  exact ⟨by simp, by show (j : Int) < 3; omega, by simp, by show (i : Int) < 6; omega⟩
theorem under24 : Try.prog.underlying 24 = some (.slice 55) := by kernel_rfl
theorem info55 : (Try.prog.info? 55).map (fun i => (i.zero, i.size, i.bytes)) = some (some (.agg #[.int .i64 0, .int .i64 0]), 2, 16) := by kernel_rfl

/-- The world while keeps runs. -/
structure KeW (w : World) (s0 : Nat) (p : Pl) (v : Value) (xs : List (Int × Int)) (wr : World) : Prop where
  x0 : Bx wr s0 #[.int .u8 (p.a : Int), .int .u8 (p.b : Int), .int .u8 (p.c : Int)] 70
  x1 : Bx wr (s0 + 1) #[v] 24
  own : wr.ownsRow (s0 + 2) 55 2 v xs.length (pcells xs)
  hb : Below s0 w wr
theorem KeW.sta {w : World} {s0 : Nat} {p : Pl} {v : Value} {xs : List (Int × Int)} {W W' : World} (h : KeW w s0 p v xs W) {B : Nat} (hB : s0 + 2 ≤ B) (hW : B ≤ W.heap.size) (hne : ∀ g, v.ownBlock = some g → g ≠ B ∧ g ≠ B + 1) (hs : Sta B W W') : KeW w s0 p v xs W' := by
  have hb := hs.below hW
  have f : ∀ {b : Nat} {vs : Array Value} {T : TypeId}, Bx W b vs T → b < s0 + 2 → Bx W' b vs T := fun hx hlt => by
    unfold Bx at *; rw [hb.block _ (by omega)]; exact hx
  refine ⟨f h.x0 (by omega), f h.x1 (by omega), own_heap h.own (fun g hg => ?_), h.hb.trans (hb.mono (by omega))⟩
  obtain ⟨n1, n2⟩ := hne g hg
  exact hs.block g (h.own.lt g hg).2 n1 n2
theorem own_cells {w : World} {base size : Nat} {e : TypeId} {v : Value} {n : Nat} {xs : List Value} (h : w.ownsRow base e size v n xs) : ∀ g, v.ownBlock = some g → ∃ cur, w.heap[g]? = some (.cells cur e (0, 0)) := fun g hg => by
  rcases h.2 with ⟨rfl, _⟩ | ⟨g', cap, cur, rfl, h2, h3, h4⟩
  · cases hg
  · have : g' = g := by simpa [Value.ownBlock] using hg
    exact ⟨cur, by rw [← this]; exact h3⟩
theorem Marks.cells {B : Nat} {W : World} : ∀ {ds : List Deferred}, Marks B W ds → ∀ d ∈ ds, ∀ D, d.target = .collected D → W.heap[D]? = some (.deferred (some []))
  | [], _, d, hd, _, _ => by cases hd
  | d0 :: ds, ⟨D0, h1, h2, h3, h4, _⟩, d, hd, D, e => by
    rcases List.mem_cons.1 hd with rfl | hd
    · rw [h1] at e; cases e; exact h3
    · exact Marks.cells h4 d hd D e
theorem Marks.grown {B : Nat} {W W' : World} {r : Option Nat} {ds : List Deferred} (h : Marks B W ds) (hg : W.grownBy W' r) (hr : ∀ g, r = some g → ∃ cur e, W.heap[g]? = some (.cells cur e (0, 0))) : Marks B W' ds :=
  h.keep fun D ⟨d, h1, h2⟩ => by
    have hc := h.cells d h1 D h2
    refine hg.block D (Array.getElem?_eq_some_iff.1 hc).1 (fun e => ?_)
    obtain ⟨cur, e2, h3⟩ := hr D e.symm
    rw [hc] at h3
    cases h3

theorem Marks.below {B : Nat} {W W' : World} {ds : List Deferred} (h : Marks B W ds) (hb : Below W.heap.size W W') : Marks B W' ds :=
  h.keep fun D ⟨d, h1, h2⟩ => hb.block D (Array.getElem?_eq_some_iff.1 (h.cells d h1 D h2)).1
/-- One more pair in the row. -/
theorem KeW.put {w W W3 : World} {s0 B b4 n : Nat} {p : Pl} {a0 a3 : Option Addr} {c0 c3 : Nat} {XS : List (Int × Int)} {k i : Nat} {ds : List Deferred} (h : KeW w s0 p (.slice a0 n c0) XS W) (hn : n = XS.length) (i3 : Bx W b4 #[.int .i64 (k : Int)] 3) (i4 : Marks (s0 + 2) W ds)
    (i5 : ∀ g, (Value.slice a0 n c0).ownBlock = some g → g ≠ B ∧ g ≠ B + 1) (hB : s0 + 2 ≤ B) (hb4 : b4 ≠ s0 + 1) (hW : B + 2 ≤ W.heap.size)
    (hown3 : W3.ownsRow (s0 + 2) 55 2 (.slice a3 (n + 1) c3) (n + 1) (pcells XS ++ [.int .i64 (k : Int), .int .i64 (i : Int)])) (hg3 : (W.alloc (.cells #[.int .i64 (k : Int), .int .i64 (i : Int)] 55)).grownBy W3 (Value.slice a0 n c0).ownBlock)
    (hat : (Value.slice a3 (n + 1) c3).ownBlock = (Value.slice a0 n c0).ownBlock ∨ (Value.slice a3 (n + 1) c3).ownBlock = some (W.alloc (.cells #[.int .i64 (k : Int), .int .i64 (i : Int)] 55)).heap.size) :
    Kep s0 B W (W3.setCell ⟨s0 + 1, 0, none⟩ (.slice a3 (n + 1) c3)) ∧ B ≤ (W3.setCell ⟨s0 + 1, 0, none⟩ (.slice a3 (n + 1) c3)).heap.size ∧
      KeW w s0 p (.slice a3 (n + 1) c3) (XS ++ [((k : Int), (i : Int))]) (W3.setCell ⟨s0 + 1, 0, none⟩ (.slice a3 (n + 1) c3)) ∧ Bx (W3.setCell ⟨s0 + 1, 0, none⟩ (.slice a3 (n + 1) c3)) b4 #[.int .i64 (k : Int)] 3 ∧
      Marks (s0 + 2) (W3.setCell ⟨s0 + 1, 0, none⟩ (.slice a3 (n + 1) c3)) ds ∧ ∀ g, (Value.slice a3 (n + 1) c3).ownBlock = some g → g ≠ B ∧ g ≠ B + 1 := by
  have hown := h.own
  rw [← hn] at hown
  have hbW := below_one (w := W) (.cells #[.int .i64 (k : Int), .int .i64 (i : Int)] 55)
  have hge := own_ge2 hown
  have hge3 := own_ge2 hown3
  have hgc := own_cells hown
  have hlt := fun g (h : (Value.slice a0 n c0).ownBlock = some g) => (hown.lt g h).2
  have hsz3 := hg3.size
  have hsA : (W.alloc (.cells #[.int .i64 (k : Int), .int .i64 (i : Int)] 55)).heap.size = W.heap.size + 1 := by simp
  rw [hsA] at hsz3 hat
  have hne4 : ∀ g, (Value.slice a0 n c0).ownBlock = some g → b4 ≠ g := fun g hg e => by
    obtain ⟨cur, hc⟩ := hgc g hg
    rw [← e] at hc
    unfold Bx at i3
    rw [i3] at hc
    cases hc
  refine ⟨((Kep.of_below hbW (by omega)).trans (Kep.grown hg3 (by omega) (fun q hq => by have := hge q hq; have := i5 q hq; omega))).trans (Kep.set (by show s0 ≤ s0 + 1; omega) (by show s0 + 1 ≠ B; omega) (by show s0 + 1 ≠ B + 1; omega) _), by simp [World.setCell]; omega, ⟨?_, ?_, ?_, ?_⟩, ?_, ?_, ?_⟩
  · exact ((h.x0.below hbW).gb hg3 (fun q hq => by have := hge q hq; omega)).other (by show s0 ≠ s0 + 1; omega) _
  · have := ((h.x1.below hbW).gb hg3 (fun q hq => by have := hge q hq; omega)).set 0 (.slice a3 (n + 1) c3)
    simpa using this
  · have e : (XS ++ [((k : Int), (i : Int))]).length = n + 1 := by rw [List.length_append, ← hn]; rfl
    rw [e, pcells_app]
    exact own_keep hown3 (gset _ _ _) (fun q hq e => by have := hge3 q hq; have e' : s0 + 1 = q := (by simpa using e); omega)
  · exact (((h.hb.trans (hbW.mono (by omega))).trans ((Kep.grown (n0 := s0) (B := B) hg3 (by omega) (fun q hq => by have := hge q hq; have := i5 q hq; omega)).below)).setCell (by show s0 ≤ s0 + 1; omega) _)
  · exact ((i3.below hbW).gb hg3 (fun q hq => hne4 q hq)).other (by show b4 ≠ s0 + 1; exact hb4) _
  · refine Marks.set ((i4.below hbW).grown hg3 (fun q hq => ?_)) (by show s0 + 1 < s0 + 2; omega) _
    obtain ⟨cur, hc⟩ := hgc q hq
    exact ⟨cur, 55, (hbW.block q (hlt q hq)).trans hc⟩
  · intro g hg
    rcases hat with e | e
    · exact i5 g (e ▸ hg)
    · rw [e] at hg; cases hg; omega

set_option maxRecDepth 100000 in
set_option maxHeartbeats 3000000 in
theorem keeps_any (p : Pl) (hp : p.ok 64) (w : World) : Calls Try.prog 64 #[.agg #[.int .u8 (p.a : Int), .int .u8 (p.b : Int), .int .u8 (p.c : Int)]] w fun e w' => Below w.heap.size w w' ∧ ∃ a c, e = .returned (.slice a (keepL p).length c) ∧ Prs w' a (keepL p) := by
  obtain ⟨i0, hi0, iz0, iz1, iz2⟩ := info_parts info55
  refine calls_of_wp_marks Try.func64 rfl ?_
  simp only [Try.ntmps64, List.size_toArray, List.length_cons, List.length_nil, Nat.reduceAdd, Nat.reduceSub, Array.replicate_succ, Array.replicate_zero, List.push_toArray, List.append_toArray, List.nil_append, List.cons_append]
  obtain ⟨W1, hW1, hb1, hs1, x0, x1⟩ := boxes2 w #[.int .u8 (p.a : Int), .int .u8 (p.b : Int), .int .u8 (p.c : Int)] 70 #[.slice none 0 0] 24
  have e0 := x0.cell 0 rfl; have e1 := x0.cell 1 rfl; have e2 := x0.cell 2 rfl
  go_wp2
  have hE0 : KeW w w.heap.size p (.slice none 0 0) (keepK p 0) W1 := ⟨x0, x1, World.ownsRow_nil _ _ _ _, hb1⟩
  obtain ⟨s0, hs0⟩ : ∃ s0, s0 = w.heap.size := ⟨_, rfl⟩
  rw [← hs0] at hE0 hs1 ⊢
  have HS0 := hid hs0
  clear hs0 hW1 e0 e1 e2 x0 x1 hb1
  refine wp_loop (fun a' wr => ∃ (k : Nat) (v u4 u5 u9 u10 u11 u12 u13 u21 : Value) (ds : List Deferred), a' = { tmps := #[.agg #[.int .u8 (p.a : Int), .int .u8 (p.b : Int), .int .u8 (p.c : Int)], .pointer (some ⟨s0, 0, none⟩), .slice none 0 0, .pointer (some ⟨s0 + 1, 0, none⟩), u4, u5, undef, .agg #[.int .u8 (p.a : Int), .int .u8 (p.b : Int), .int .u8 (p.c : Int)], .int .i64 (k : Int), u9, u10, u11, u12, u13, undef, undef, undef, undef, undef, undef, undef, u21, undef], defers := ds } ∧
      k ≤ 3 ∧ Marks (s0 + 2) wr ds ∧ (∀ d ∈ ds, ∀ D, d.target = .collected D → D < wr.heap.size) ∧ s0 + 2 ≤ wr.heap.size ∧ KeW w s0 p v (keepK p k) wr) (fun a' _ => 4 - (intOf (a'.tmps.getD 8 undef)).toNat) ?_ ?_
  · exact ⟨0, .slice none 0 0, undef, undef, undef, undef, undef, undef, undef, undef, [], rfl, Nat.zero_le _, trivial, (fun d hd => by cases hd), by omega, hE0⟩
  rintro a' wr ⟨k, v0, u4, u5, u9, u10, u11, u12, u13, u21, ds, rfl, hk, hM, hMD, hsz, hE⟩
  by_cases hlt : k < 3
  · have hkI : (k : Int) < 3 := by omega
    have hk0 : (0 : Int) ≤ (k : Int) := by omega
    have hix := pl_index p hlt wr
    go_upto_region 5 with fail
    have hlt0 : ∀ g, v0.ownBlock = some g → g < wr.heap.size := fun g hg => (hE.own.lt g hg).2
    have hE2 := hE.sta (B := wr.heap.size) (by omega) (Nat.le_refl _) (fun g hg => by have := hlt0 g hg; omega) (Sta.of_below (below_one (.cells #[.int .i64 (k : Int)] 3)))
    have hM2 : Marks (s0 + 2) (wr.alloc (.cells #[.int .i64 (k : Int)] 3)) ds := hM.keep fun D hD => (below_one (w := wr) (.cells #[.int .i64 (k : Int)] 3)).block D (by obtain ⟨d, h1, h2⟩ := hD; exact hMD d h1 D h2)
    have y4 := Bx.new wr #[.int .i64 (k : Int)] 3
    obtain ⟨b4, hb4⟩ : ∃ b4, b4 = wr.heap.size := ⟨_, rfl⟩
    obtain ⟨W2, hW2⟩ : ∃ W2, W2 = wr.alloc (.cells #[.int .i64 (k : Int)] 3) := ⟨_, rfl⟩
    have hz2 : W2.heap.size = b4 + 1 := by rw [hW2, hb4]; simp
    rw [← hW2] at hE2 hM2 y4 ⊢
    rw [← hb4] at y4 hsz hMD hlt0 ⊢
    clear hb4 hW2 hE hM hix
    obtain ⟨g, hg⟩ : ∃ g, g = p.get k := ⟨_, rfl⟩
    have hg64 : g < 64 := by rw [hg]; exact hp.get k
    have HG := hid hg
    rw [← hg]
    clear hg
    go_wp2_with fail
    refine wp_rangeFuncC (α := Nat) s0 (by omega) (gf := 83) (bd := #[.int .u8 (g : Int)]) (lb := #[]) (encs := fun x : Nat => #[.int .i64 (x : Int)]) (xs := bitsOf g) (StI := fun W W' => Below W.heap.size W W') (St := fun W W' => W2.heap.size ≤ W.heap.size → Sta W2.heap.size W W')
      rfl (enters_of Try.func83 (by kernel_rfl) rfl) (fun _ => rfl) (each_itr g hg64 _ _ _) (fun W W' h _ => h) (fun W W' h1 h2 => h2.mono h1) (fun W W' h _ => Sta.of_below h)
      (fun pre W => W2.heap.size ≤ W.heap.size ∧ ∃ v, KeW w s0 p v (keepK p k ++ pre.map fun (i : Nat) => (((k : Nat) : Int), (i : Int))) W ∧ Bx W b4 #[.int .i64 (k : Int)] 3 ∧ Marks (s0 + 2) W ds ∧ ∀ g, v.ownBlock = some g → g ≠ W2.heap.size ∧ g ≠ W2.heap.size + 1)
      ?hI ?h0 (fun i a' W => a' = { tmps := #[.agg #[.int .u8 (p.a : Int), .int .u8 (p.b : Int), .int .u8 (p.c : Int)], .pointer (some ⟨s0, 0, none⟩), .slice none 0 0, .pointer (some ⟨s0 + 1, 0, none⟩), .pointer (some ⟨b4, 0, none⟩), .int .u8 (g : Int), .int .i64 (i : Int), .agg #[.int .u8 (p.a : Int), .int .u8 (p.b : Int), .int .u8 (p.c : Int)], .int .i64 (k : Int), .bool true, .int .i64 (k : Int), .int .u8 (g : Int), .int .u8 (g : Int), .func (.func 83) #[.int .u8 (g : Int)] #[], .int .i64 (i : Int), undef, undef, undef, undef, undef, undef, u21, undef], defers := [] }) (fun _ _ _ _ h _ => h) ?assign ?body ?done
    case hI =>
      rintro pre W W' ⟨i1, v, i2, i3, i4, i5⟩ hs
      have hs := hs i1
      refine ⟨Nat.le_trans i1 hs.size, v, i2.sta (by omega) i1 i5 hs, ?_, i4.keep fun D hD => hs.block D ?_ ?_ ?_, i5⟩
      · unfold Bx at *
        rw [hs.block b4 (by omega) (by omega) (by omega)]; exact i3
      all_goals
        obtain ⟨d, h1, h2⟩ := hD
        have := hMD d h1 D h2
        omega
    case h0 => exact ⟨Nat.le_refl _, v0, by simpa using hE2, y4, hM2, fun g hg => by have := hlt0 g hg; omega⟩
    case assign =>
      intro l pre i W K hx hi hsz3 hK
      refine wpIn_region_plain rfl ?_
      go_wp2_with fail
      exact hK _ _ (Kep.refl _ _ _) hi rfl
    case body =>
      rintro l pre i a' W hx ⟨i1, v, i2, i3, i4, i5⟩ rfl hsz3
      have hpl : pre.length ≤ 6 := by
        obtain ⟨r, hr⟩ := hx
        have := cnt_le g
        unfold cnt at this
        rw [hr] at this
        simp at this; omega
      have hkl := keepK_len p k
      obtain ⟨XS, hXS⟩ : ∃ XS, XS = keepK p k ++ pre.map fun (i : Nat) => (((k : Nat) : Int), (i : Int)) := ⟨_, rfl⟩
      have hxl : XS.length ≤ 24 := by rw [hXS, List.length_append, List.length_map]; omega
      have hxn : keepK p k ++ (pre ++ [i]).map (fun (i : Nat) => (((k : Nat) : Int), (i : Int))) = XS ++ [((k : Int), (i : Int))] := by rw [hXS, List.map_append, List.append_assoc]; rfl
      rw [← hXS] at i2
      have HXN := hid hxn
      clear hXS hxn hx
      obtain ⟨a0, c0, e⟩ := own_slice2 i2.own
      obtain ⟨n, hn⟩ : ∃ n, n = XS.length := ⟨_, rfl⟩
      have hown := i2.own
      rw [← hn] at hown hxl e
      subst e
      have HN := hid hn
      have q1 := i2.x1.cell 0 rfl
      have q2 := i2.x1.free 0
      have q4 := i3.cell 0 rfl
      have HZ := hid hz2
      have hs2W : s0 + 2 ≤ W.heap.size := by omega
      have hbW := below_one (w := W) (.cells #[.int .i64 (k : Int), .int .i64 (i : Int)] 55)
      have hcls := Cls.of_bx (Bx.new W #[.int .i64 (k : Int), .int .i64 (i : Int)] 55)
      have hszW := i2.hb.size
      have q1' := Below.keep hbW q1
      have x1' := i2.x1.below hbW
      have hlt5 := fun g (h : (Value.slice a0 n c0).ownBlock = some g) => (hown.lt g h).2
      have hge5 := own_ge2 hown
      clear hn hz2
      refine wpIn_block (wpIn_region_plain rfl ?_)
      go_wp2_with (at_builtin; go_loud (refine wpList_appAt rfl (.tmp 15) (.tmp 19) 24 rfl (s0 + 2) 55 i0 (.agg #[.int .i64 0, .int .i64 0]) 2 16 under24 hi0 iz0 iz1 iz2 rfl (by decide) (.slice a0 n c0) n (pcells XS) rfl (own_below2 hown hbW) (some ⟨W.heap.size, 0, none⟩) 1 1 [.int .i64 (k : Int), .int .i64 (i : Int)] rfl rfl hcls (by simp; exact ⟨rfl, rfl⟩) (by unfold maxLen; omega) (by omega) (by simp; omega) ?_)
                   intro v3 W3 hown3 hg3 hat
                   obtain ⟨a3, c3, rfl⟩ := own_slice2 hown3
                   have x13 := x1'.gb hg3 (fun q hq => by have := hge5 q hq; omega)
                   have q3 := x13.cell 0 rfl
                   have q3f := x13.free 0)
      have hp1 := KeW.put i2 HN.out i3 i4 i5 (by have := HZ.out; omega) (by omega) hsz3 hown3 hg3 hat
      obtain ⟨z1, z2, z3, z4, z5, z6⟩ := hp1
      exact ⟨z1, by simpa [World.setCell] using z2, _, by have := HXN.out; rw [List.map_append] at this; rw [← this] at z3; exact z3, z4, z5, z6⟩
    case done =>
      rintro W ⟨i1, v, i2, i3, i4, i5⟩ hD hsz3
      go_wp2_with fail
      refine ⟨⟨k + 1, v, _, _, _, _, _, _, _, _, _, rfl, by omega, ⟨W2.heap.size, rfl, by omega, hD, i4, fun d' hd' e => by have := hMD d' hd' _ e; omega⟩, ?_, by omega, ?_⟩, by simp [intOf]; omega⟩
      · intro d hd D e
        rcases List.mem_cons.1 hd with rfl | hd
        · cases e; omega
        · have := hMD d hd D e; omega
      · rw [keepK_succ]
        unfold keepR
        rw [← HG.out]; exact i2
  · obtain rfl : k = 3 := by omega
    have c3 := hE.x1.cell 0 rfl
    obtain ⟨a, c, e⟩ := own_slice2 hE.own
    subst e
    go_wp2_with fail
    refine leaves_marks ds wr hM fun w' hc => ?_
    have how := own_heap (w' := w') hE.own (fun g hg => by
      obtain ⟨cur, h⟩ := own_cells hE.own g hg
      rw [h]; exact hc.2 _ _ _ _ h)
    obtain ⟨a2, c2, e2, hP⟩ := Prs.of_own how (by have := keepK_len p 3; omega) (fun x hx => by have := keepK_rng p 3 (Nat.le_refl _) x hx; omega)
    cases e2
    refine ⟨_, results_tmp rfl _ _ _, ?_, a, c, rfl, hP⟩
    rw [← HS0.out]; exact hE.hb.trans (hc.1.mono (by omega))
end Go.Proofs.Ytipdohpbilabiaa
