import Derived.Test.YtakodllejndfeaaT17
import Derived.Test.YtakodllejndfeaaQ5
/-! An equal royal in new memory. -/
namespace Go.Proofs.Ytakodllejndfeaa
set_option linter.unusedSimpArgs false
set_option linter.unusedVariables false
open Go Go.RowKit

theorem own_base {w : World} {base base' size : Nat} {e : TypeId} {v : Value} {n : Nat} {xs : List Value} (h : w.ownsRow base e size v n xs) (hb : base' ≤ base) : w.ownsRow base' e size v n xs := by
  refine ⟨h.1, ?_⟩
  rcases h.2 with h' | ⟨g, cap, cur, h1, h2, h3⟩
  · exact .inl h'
  · exact .inr ⟨g, cap, cur, h1, by omega, h3⟩
theorem own_keep {w w' : World} {base size : Nat} {e : TypeId} {v : Value} {n : Nat} {xs : List Value} {r : Option Nat} (h : w.ownsRow base e size v n xs) (hg : w.grownBy w' r) (hne : ∀ k, v.ownBlock = some k → r ≠ some k) : w'.ownsRow base e size v n xs := by
  refine h.kept hg ?_
  cases hv : v.ownBlock with
  | none => exact .inl rfl
  | some k => exact .inr fun e => hne k hv e.symm
theorem own_set {w : World} {base : Nat} {e : TypeId} {size n c g j : Nat} {xs : List Value} {v : Value} (h : w.ownsRow base e size (.slice (some ⟨g, 0, none⟩) n c) n xs) (hj : j < n * size) : (w.setCell ⟨g, j, none⟩ v).ownsRow base e size (.slice (some ⟨g, 0, none⟩) n c) n (xs.set j v) := by
  refine ⟨by rw [List.length_set]; exact h.1, ?_⟩
  rcases h.2 with ⟨h', _⟩ | ⟨g', cap, cur, h1, h2, h3, h4, h5, h6, h7⟩
  · simp at h'
  · simp only [Value.slice.injEq, Option.some.injEq, Addr.mk.injEq, and_true, true_and] at h1
    obtain ⟨rfl, rfl⟩ := h1
    refine .inr ⟨g, c, cur.setIfInBounds j v, rfl, h2, ?_, h4, h5, by rw [Array.size_setIfInBounds]; exact h6, ?_⟩
    · have hb : Bx w g cur e := h3
      exact hb.set j v
    · rw [← h7, Array.toList_setIfInBounds, List.take_set]
theorem own_free {w : World} {base : Nat} {e : TypeId} {size n c g : Nat} {xs : List Value} (h : w.ownsRow base e size (.slice (some ⟨g, 0, none⟩) n c) n xs) (j : Nat) : w.frozen? ⟨g, j, none⟩ = false := by
  rcases h.2 with ⟨h', _⟩ | ⟨g', cap, cur, h1, h2, h3, h4⟩
  · simp at h'
  · simp only [Value.slice.injEq, Option.some.injEq, Addr.mk.injEq, and_true, true_and] at h1
    obtain ⟨rfl, rfl⟩ := h1
    have hb : Bx w g cur e := h3
    exact hb.free j
theorem own_cell {w : World} {base : Nat} {e : TypeId} {size n c g : Nat} {xs : List Value} (h : w.ownsRow base e size (.slice (some ⟨g, 0, none⟩) n c) n xs) (j : Nat) {v : Value} (hj : xs[j]? = some v) : w.cell? ⟨g, j, none⟩ = some v := by
  have hl : j < xs.length := (List.getElem?_eq_some_iff.1 hj).1
  have := h.cellAt j (by rw [← h.1]; exact hl)
  rw [this]; exact hj
theorem info39 : (Try.prog.info? 39).map (fun i => (i.zero, i.size, i.bytes)) = some (some (.agg #[.int .i64 0, .slice none 0 0]), 2, 32) := by kernel_rfl
theorem info53 : (Try.prog.info? 53).map (fun i => (i.zero, i.size, i.bytes)) = some (some (.agg #[.int .i64 0, .int .i64 0]), 2, 16) := by kernel_rfl
theorem under22 : Try.prog.underlying 22 = some (.slice 39) := by kernel_rfl
theorem under37 : Try.prog.underlying 37 = some (.slice 53) := by kernel_rfl
theorem Prs.rng {w : World} {a : Option Addr} {xs : List (Int × Int)} (h : Prs w a xs) : ∀ x ∈ xs, -9223372036854775808 ≤ x.1 ∧ x.1 ≤ 9223372036854775807 ∧ -9223372036854775808 ≤ x.2 ∧ x.2 ≤ 9223372036854775807 := h.2.1

/-- The cells of a side in a row of sides whose own block is another than that of its parts, which lie from lo on. -/
def SdC (V : World) (own : Option Nat) (lo : Nat) (c0 c1 : Option Value) (s : Sd) : Prop :=
  c0 = some (.int .i64 s.pl) ∧ ∃ (a' : Option Addr) (c' : Nat), c1 = some (.slice a' s.ps.length c') ∧ Prs V a' s.ps ∧ s.ps.length ≤ 1000 ∧ i64R s.pl ∧ (s.ps ≠ [] → ∀ ad, a' = some ad → own ≠ some ad.block ∧ ad.block < V.heap.size ∧ lo ≤ ad.block)
/-- The cells of a row of sides. -/
def SRow (V : World) (own : Option Nat) (lo : Nat) (cs : List Value) (S : List Sd) : Prop := ∀ i s, S[i]? = some s → SdC V own lo cs[i * 2]? cs[i * 2 + 1]? s
theorem SdC.gro {V V' : World} {own own' r : Option Nat} {lo : Nat} {c0 c1 : Option Value} {s : Sd} (h : SdC V own lo c0 c1 s) (hg : V.grownBy V' r) (hr : ∀ k, r = some k → own = some k ∨ k < lo) (ho : own' = own ∨ ∃ k, own' = some k ∧ V.heap.size ≤ k) : SdC V' own' lo c0 c1 s := by
  obtain ⟨h0, a', c', h1, h2, h3, h4, h5⟩ := h
  refine ⟨h0, a', c', h1, h2.gro hg (fun hn ad e hh => ?_), h3, h4, fun hn ad e => ?_⟩
  · obtain ⟨h6, h7, h8⟩ := h5 hn ad e
    rcases hr _ hh with h | h
    · exact h6 h
    · omega
  · obtain ⟨h6, h7, h8⟩ := h5 hn ad e
    refine ⟨fun e2 => ?_, Nat.lt_of_lt_of_le h7 hg.size, h8⟩
    rcases ho with rfl | ⟨k, rfl, hk⟩
    · exact h6 e2
    · cases e2; omega
theorem SRow.gro {V V' : World} {own own' r : Option Nat} {lo : Nat} {cs : List Value} {S : List Sd} (h : SRow V own lo cs S) (hg : V.grownBy V' r) (hr : ∀ k, r = some k → own = some k ∨ k < lo) (ho : own' = own ∨ ∃ k, own' = some k ∧ V.heap.size ≤ k) : SRow V' own' lo cs S := fun i s hi => (h i s hi).gro hg hr ho
theorem Below.grN {w w' : World} (h : Below w.heap.size w w') (r : Option Nat) : w.grownBy w' r := ⟨h.os, h.tape, h.output, h.size, fun k hk _ => h.block k hk⟩
theorem SRow.below {V V' : World} {own : Option Nat} {lo : Nat} {cs : List Value} {S : List Sd} (h : SRow V own lo cs S) (hb : Below V.heap.size V V') : SRow V' own lo cs S := h.gro (r := none) (Below.grN hb none) (fun k hk => by cases hk) (.inl rfl)
theorem SRow.snoc {V : World} {own : Option Nat} {lo : Nat} {cs : List Value} {S : List Sd} (h : SRow V own lo cs S) (hl : cs.length = S.length * 2) {v0 v1 : Value} {s : Sd} (hs : SdC V own lo (some v0) (some v1) s) : SRow V own lo (cs ++ [v0, v1]) (S ++ [s]) := fun i t hi => by
  rcases Nat.lt_or_ge i S.length with hlt | hge
  · rw [List.getElem?_append_left hlt] at hi
    rw [List.getElem?_append_left (by omega), List.getElem?_append_left (by omega)]
    exact h i t hi
  · rw [List.getElem?_append_right hge] at hi
    have h0 : i - S.length = 0 := by
      rcases Nat.eq_zero_or_pos (i - S.length) with h0 | h0
      · exact h0
      · rw [List.getElem?_eq_none (by simp; omega)] at hi; cases hi
    have hi2 : i = S.length := by omega
    subst hi2
    rw [Nat.sub_self] at hi
    cases hi
    rw [List.getElem?_append_right (by omega), List.getElem?_append_right (by omega), show S.length * 2 - cs.length = 0 by omega, show S.length * 2 + 1 - cs.length = 1 by omega]
    exact hs
/-- Sides of a row of the call's own. -/
theorem SRow.sds {V : World} {own : Option Nat} {lo : Nat} {cs : List Value} {S : List Sd} {base : Nat} {a : Option Addr} {c : Nat} (h : SRow V own lo cs S) (ho : V.ownsRow base 39 2 (.slice a S.length c) S.length cs) (hl : S.length ≤ 1000) : Sds V a S := by
  refine ⟨hl, fun i hi => ?_⟩
  obtain ⟨h0, a', c', h1, h2, h3, h4, _⟩ := h i _ (get_of_lt sd0 hi)
  obtain ⟨g, cap, e⟩ := Go.Joins.ownsRow_form ho (by omega)
  simp only [Value.slice.injEq] at e
  obtain ⟨rfl, _, rfl⟩ := e
  exact ⟨g, 0, rfl, (ho.lt g rfl).2, a', c', by rw [Nat.zero_add]; exact own_cell ho _ h0, by rw [Nat.zero_add]; exact own_cell ho _ h1, h2, h3, h4⟩
/-- A row of numbers apart from an own block. -/
def IRow (V : World) (own : Option Nat) (lo : Nat) (b : Option Addr) (O : List Int) : Prop := Ints V b O ∧ (O ≠ [] → ∀ ad, b = some ad → own ≠ some ad.block ∧ ad.block < V.heap.size ∧ lo ≤ ad.block)
theorem IRow.gro {V V' : World} {own own' r : Option Nat} {lo : Nat} {b : Option Addr} {O : List Int} (h : IRow V own lo b O) (hg : V.grownBy V' r) (hr : ∀ k, r = some k → own = some k ∨ k < lo) (ho : own' = own ∨ ∃ k, own' = some k ∧ V.heap.size ≤ k) : IRow V' own' lo b O := by
  by_cases hn : O = []
  · subst hn
    exact ⟨Ints.nil _ _, fun h => absurd rfl h⟩
  · refine ⟨h.1.gro hg (fun ad e hh => ?_), fun _ ad e => ?_⟩
    · obtain ⟨h6, h7, h8⟩ := h.2 hn ad e
      rcases hr _ hh with h | h
      · exact h6 h
      · omega
    · obtain ⟨h6, h7, h8⟩ := h.2 hn ad e
      refine ⟨fun e2 => ?_, Nat.lt_of_lt_of_le h7 hg.size, h8⟩
      rcases ho with rfl | ⟨k, rfl, hk⟩
      · exact h6 e2
      · cases e2; omega
/-- A copy of a royal, from a block on; its parts lie from lo on. -/
structure CpM (V : World) (B lo : Nat) (a b : Option Addr) (c d : Nat) (S : List Sd) (O : List Int) : Prop where
  ex : ∃ cs, V.ownsRow B 39 2 (.slice a S.length c) S.length cs ∧ SRow V (Value.slice a S.length c).ownBlock lo cs S ∧ IRow V (Value.slice a S.length c).ownBlock lo b O
theorem CpM.gro {V V' : World} {B lo : Nat} {a b : Option Addr} {c d : Nat} {S : List Sd} {O : List Int} {r : Option Nat} (h : CpM V B lo a b c d S O) (hg : V.grownBy V' r) (hB : ∀ k, r = some k → k < lo ∧ k < B) : CpM V' B lo a b c d S O := by
  obtain ⟨cs, h1, h2, h3⟩ := h.ex
  exact ⟨cs, own_keep h1 hg (fun k hk e => by have := own_ge2 h1 k hk; have := (hB k e).2; omega), h2.gro hg (fun k hk => .inr (hB k hk).1) (.inl rfl), h3.gro hg (fun k hk => .inr (hB k hk).1) (.inl rfl)⟩
theorem CpM.below {V V' : World} {B lo : Nat} {a b : Option Addr} {c d : Nat} {S : List Sd} {O : List Int} (h : CpM V B lo a b c d S O) (hb : Below V.heap.size V V') : CpM V' B lo a b c d S O := h.gro (r := none) (Below.grN hb none) (fun k hk => by cases hk)
theorem CpM.ry {V : World} {B lo : Nat} {a b : Option Addr} {c d : Nat} {S : List Sd} {O : List Int} (h : CpM V B lo a b c d S O) (hl : S.length ≤ 1000) (ho : O.length ≤ 1000) {p : Int} (hp : i64R p) : Ry V a b p S O := by
  obtain ⟨cs, h1, h2, h3⟩ := h.ex
  exact ⟨h2.sds h1 hl, h3.1, ho, hp⟩
/-- What a copy is: it lies behind all that was there, and two blocks more. -/
def CopyP (p : Int) (S : List Sd) (O : List Int) (w : World) (e : Ending) (w' : World) : Prop :=
  ∃ (a b : Option Addr) (c d : Nat), e = .returned (.agg #[.int .i64 p, .slice a S.length c, .slice b O.length d]) ∧ CpM w' (w.heap.size + 3) (w.heap.size + 3) a b c d S O ∧ Below w.heap.size w w' ∧ w.heap.size + 3 ≤ w'.heap.size

/-- The world while a royal is copied. -/
structure CyW (w : World) (p : Int) (aS aO : Option Addr) (cS cO m n : Nat) (v : Value) (b : Option Addr) (d k : Nat) (S : List Sd) (O : List Int) (wr : World) : Prop where
  x0 : Bx wr w.heap.size #[.int .i64 p, .slice aS m cS, .slice aO n cO] 25
  x1 : Bx wr (w.heap.size + 1) #[.int .i64 0, .slice none 0 0, .slice none 0 0] 25
  x3 : Bx wr (w.heap.size + 2) #[.int .i64 p, v, .slice b n d] 25
  own : ∃ cs, wr.ownsRow (w.heap.size + 3) 39 2 v k cs ∧ SRow wr v.ownBlock (w.heap.size + 3) cs S ∧ IRow wr v.ownBlock (w.heap.size + 3) b O
  bl : Below w.heap.size w wr
  sz : w.heap.size + 3 ≤ wr.heap.size

set_option maxRecDepth 100000 in
set_option maxHeartbeats 8000000 in
theorem Copy_any (p : Int) (aS aO : Option Addr) (cS cO : Nat) (S : List Sd) (O : List Int) (w : World) (hX : Ry w aS aO p S O) : Calls Try.prog 19 #[.agg #[.int .i64 p, .slice aS S.length cS, .slice aO O.length cO]] w (CopyP p S O w) := by
  obtain ⟨j0, hj, jz0, jz1, jz2⟩ := info_parts info3i
  obtain ⟨i0, hi0, iz0, iz1, iz2⟩ := info_parts info39
  obtain ⟨k0, hk0, kz0, kz1, kz2⟩ := info_parts info53
  have hol := hX.ol; have hsl := hX.sd.len
  have hS := hX.sd; have hO := hX.ow
  unfold CopyP
  obtain ⟨n, hn⟩ : ∃ n, n = O.length := ⟨_, rfl⟩
  obtain ⟨m, hm⟩ : ∃ m, m = S.length := ⟨_, rfl⟩
  rw [← hn] at hol ⊢
  rw [← hm] at hsl ⊢
  have HN := hid hn; have HM := hid hm
  have hmI : (m : Int) ≤ 1000 := by omega
  clear hn hm hX
  go_enter Try.func19, Try.ntmps19
  go_upto_region 2 with fail
  obtain ⟨W, hW, hb, hs, x0, x1, x3⟩ := boxes3 w #[.int .i64 p, .slice aS m cS, .slice aO n cO] 25 #[.int .i64 0, .slice none 0 0, .slice none 0 0] 25 #[.int .i64 p, .slice aS m cS, .slice aO n cO] 25
  rw [hW]
  clear hW
  have hA := own_litB W 3 1 (B := w.heap.size + 3) (by omega)
  have hb1 := below_one (w := W) (.cells #[] 3)
  have HXa := hid (And.intro (x0.below hb1) (And.intro (x1.below hb1) (And.intro (x3.below hb1) (And.intro (hb.trans (hb1.mono hb.size)) (And.intro hA (show w.heap.size + 3 ≤ W.heap.size by omega))))))
  have hcl := ((hO.below hb (Nat.le_refl _)).below hb1 (Nat.le_refl _)).cls
  have hrg := hO.2.1
  have c2 := (x0.below hb1).cell 2 rfl
  have HLN := hid (show (O.map (Value.int .i64)).length = n * 1 by rw [List.length_map, HN.out]; omega)
  clear x0 x1 x3 hb hA hb1 hs
  go_upto_region 3 with (at_builtin
                         obtain ⟨x0, x1, x3, hb, hA, hsz⟩ := HXa.out
                         refine wpList_appLit rfl (.tmp 6) (.tmp 8) 23 rfl (w.heap.size + 3) 3 j0 (.int .i64 0) 1 8 under23 hj jz0 jz1 jz2 rfl (by decide) W.heap.size rfl hA aO n cO (O.map (Value.int .i64)) rfl HLN.out hcl (ints_one O) (by unfold maxLen; omega) (by omega) (by simp; omega) ?_
                         intro vO W1 hownO hbO hplO
                         clear hA
                         obtain ⟨b, d, rfl⟩ := own_slice2 hownO
                         replace x0 := x0.below hbO
                         replace x1 := x1.below hbO
                         replace x3 := x3.below hbO
                         replace hb := hb.trans (hbO.mono hb.size)
                         have hsz1 : w.heap.size + 3 ≤ W1.heap.size := by have := hbO.size; simp at this; omega
                         have e1 := x3.cell 1 rfl; have e2 := x3.cell 2 rfl; have f1 := x3.free 1; have f2 := x3.free 2)
  have hownO' : W1.ownsRow (w.heap.size + 3) 3 1 (.slice b n d) O.length (O.map (Value.int .i64)) := by rw [← HN.out]; exact hownO
  obtain ⟨b', d', eb, hIO⟩ := Ints.of_own hownO' (by rw [← HN.out]; omega) hrg
  rw [← HN.out] at eb
  cases eb
  have hge := own_new2 hownO
  have hbl : ∀ ad, b = some ad → ad.block < W1.heap.size := fun ad e => (hownO.lt ad.block (by rw [e]; rfl)).2
  have y0 := (x0.other (a := ⟨w.heap.size + 2, 1, none⟩) (by show w.heap.size ≠ w.heap.size + 2; omega) (.slice none 0 0)).other (a := ⟨w.heap.size + 2, 2, none⟩) (by show w.heap.size ≠ w.heap.size + 2; omega) (.slice b n d)
  have y1 := (x1.other (a := ⟨w.heap.size + 2, 1, none⟩) (by show w.heap.size + 1 ≠ w.heap.size + 2; omega) (.slice none 0 0)).other (a := ⟨w.heap.size + 2, 2, none⟩) (by show w.heap.size + 1 ≠ w.heap.size + 2; omega) (.slice b n d)
  have y3 : Bx ((W1.setCell ⟨w.heap.size + 2, 1, none⟩ (.slice none 0 0)).setCell ⟨w.heap.size + 2, 2, none⟩ (.slice b n d)) (w.heap.size + 2) #[.int .i64 p, .slice none 0 0, .slice b n d] 25 := by simpa using (x3.set 1 (.slice none 0 0)).set 2 (.slice b n d)
  have yb := (hb.setCell (p := ⟨w.heap.size + 2, 1, none⟩) (by show w.heap.size ≤ w.heap.size + 2; omega) (.slice none 0 0)).setCell (p := ⟨w.heap.size + 2, 2, none⟩) (by show w.heap.size ≤ w.heap.size + 2; omega) (.slice b n d)
  have yO : Ints ((W1.setCell ⟨w.heap.size + 2, 1, none⟩ (.slice none 0 0)).setCell ⟨w.heap.size + 2, 2, none⟩ (.slice b n d)) b O := (hIO.set (b := w.heap.size + 2) (fun _ x hx => by have := hge x hx; omega) 1 _).set (b := w.heap.size + 2) (fun _ x hx => by have := hge x hx; omega) 2 _
  have E0 : CyW w p aS aO cS cO m n (.slice none 0 0) b d 0 (S.take 0) O ((W1.setCell ⟨w.heap.size + 2, 1, none⟩ (.slice none 0 0)).setCell ⟨w.heap.size + 2, 2, none⟩ (.slice b n d)) :=
    ⟨y0, y1, y3, ⟨[], World.ownsRow_nil _ _ _ _, fun i s hi => by simp at hi, yO, fun _ ad e => ⟨by simp [Value.ownBlock], by simpa [World.setCell] using hbl ad e, hge ad e⟩⟩, yb, by simpa [World.setCell] using hsz1⟩
  clear x0 x1 x3 hownO hownO' hIO hge hbl y0 y1 y3 yb yO e1 e2 f1 f2 hcl hb hbO HXa hplO hsz c2
  generalize World.setCell (World.setCell _ _ _) _ _ = V0 at *
  clear hsz1
  go_wp2
  go_loopw [4] (fun v4 wr => ∃ (k : Nat) (v : Value), k ≤ m ∧ v4 = .int .i64 (k : Int) ∧ CyW w p aS aO cS cO m n v b d k (S.take k) O wr) (fun v4 _ => m - (intOf v4).toNat)
  case atStart => exact ⟨0, _, Nat.zero_le _, rfl, E0⟩
  case round =>
    clear E0
    obtain ⟨k, v, hk, rfl, E⟩ := hrel
    have hX0 := E.x0
    have c0 := hX0.cell 0 rfl; have c1 := hX0.cell 1 rfl; have c2 := hX0.cell 2 rfl
    by_cases hlt : k < m
    · obtain ⟨bl, off, s, a', c', rfl, hbl, q0, q1, hP, hpl, hrg2, hmem, hg⟩ := (hS.below E.bl (Nat.le_refl _)).at (k := k) (by rw [← HM.out]; exact hlt)
      have hkI : (k : Int) < m := by omega
      have hk0' : (0 : Int) ≤ (k : Int) := by omega
      have hst := take_snoc hg.out
      obtain ⟨pl, ps⟩ := s
      simp only at q0 q1 hP hpl hrg2
      obtain ⟨q, hq⟩ : ∃ q, q = ps.length := ⟨_, rfl⟩
      rw [← hq] at q1 hpl
      have HQ := hid hq; have HST := hid hst
      have HMM := hid (show (S.take k).length = k by rw [List.length_take]; have := HM.out; omega)
      clear hmem hg hst hq hX0
      go_upto_region 6 with fail
      clear c0 c1 c2
      have hbd := (Below.refl wr.heap.size wr).drew
      obtain ⟨x0, x1, x3, ⟨cs, own, hrow, hI⟩, hbw, hsz⟩ := E
      replace x1 := x1.below hbd
      replace own := own_below2 own hbd
      replace hrow := hrow.below hbd
      replace hI := hI.gro (r := none) (Below.grN hbd none) (fun k hk => by cases hk) (.inl rfl)
      replace hbw := hbw.trans (hbd.mono hbw.size)
      replace hP := hP.below hbd (Nat.le_refl _)
      have S0 := And.intro (x0.below hbd) (And.intro (x3.below hbd) (And.intro (Below.keep hbd q0) (Below.keep hbd q1)))
      have hszd : w.heap.size + 3 ≤ wr.drew.heap.size := hsz
      have hblw : bl < w.heap.size := by
        obtain ⟨b', off', e', hl', _⟩ := hS.2 k (by rw [← HM.out]; exact hlt)
        cases e'; exact hl'
      clear x0 x3 q0 q1 hbd hbl hsz
      refine wp_region_head 19 (fun w' => Bx w' w.heap.size #[.int .i64 p, .slice (some ⟨bl, off, none⟩) m cS, .slice aO n cO] 25 ∧ Bx w' (w.heap.size + 2) #[.int .i64 p, v, .slice b n d] 25 ∧ w'.cell? ⟨bl, off + k * 2, none⟩ = some (.int .i64 pl) ∧ w'.cell? ⟨bl, off + k * 2 + 1, none⟩ = some (.slice a' q c')) (by kernel_rfl) rfl ?_
      generalize wr.drew = Y0 at *
      refine HeadAt.take (i := 0) (.pointer (some ⟨w.heap.size + 2, 1, none⟩)) rfl (by kernel_rfl) (.inl ⟨rfl, fun _ _ => by simp [go_sem]⟩) S0 ?_
      (try simp only [Act.put, List.getElem_toArray, List.getElem_cons_succ, List.getElem_cons_zero, List.setIfInBounds_toArray, List.set_cons_succ, List.set_cons_zero])
      refine HeadAt.take (i := 1) (v) rfl (by kernel_rfl) (.inl ⟨rfl, fun w' z => ?_⟩) S0 ?_
      · (have z0 := z.2.1.cell 1 rfl; simp [go_sem, z0])
      (try simp only [Act.put, List.getElem_toArray, List.getElem_cons_succ, List.getElem_cons_zero, List.setIfInBounds_toArray, List.set_cons_succ, List.set_cons_zero])
      refine HeadAt.take (i := 2) (.pointer (some ⟨w.heap.size, 1, none⟩)) rfl (by kernel_rfl) (.inl ⟨rfl, fun _ _ => by simp [go_sem]⟩) S0 ?_
      (try simp only [Act.put, List.getElem_toArray, List.getElem_cons_succ, List.getElem_cons_zero, List.setIfInBounds_toArray, List.set_cons_succ, List.set_cons_zero])
      refine HeadAt.take (i := 3) (.slice (some ⟨bl, off, none⟩) m cS) rfl (by kernel_rfl) (.inl ⟨rfl, fun w' z => ?_⟩) S0 ?_
      · (have z0 := z.1.cell 1 rfl; simp [go_sem, z0])
      (try simp only [Act.put, List.getElem_toArray, List.getElem_cons_succ, List.getElem_cons_zero, List.setIfInBounds_toArray, List.set_cons_succ, List.set_cons_zero])
      refine HeadAt.take (i := 4) (.int .i64 (k : Int)) rfl (by kernel_rfl) (.inl ⟨rfl, fun _ _ => by simp [go_sem]⟩) S0 ?_
      (try simp only [Act.put, List.getElem_toArray, List.getElem_cons_succ, List.getElem_cons_zero, List.setIfInBounds_toArray, List.set_cons_succ, List.set_cons_zero])
      refine HeadAt.take (i := 5) (.pointer (some ⟨bl, off + k * 2, none⟩)) rfl (by kernel_rfl) (.inl ⟨rfl, fun w' z => ?_⟩) S0 ?_
      · (simp [go_sem, hkI, hk0'])
      (try simp only [Act.put, List.getElem_toArray, List.getElem_cons_succ, List.getElem_cons_zero, List.setIfInBounds_toArray, List.set_cons_succ, List.set_cons_zero])
      refine HeadAt.take (i := 6) (.pointer (some ⟨bl, off + k * 2, none⟩)) rfl (by kernel_rfl) (.inl ⟨rfl, fun _ _ => by simp [go_sem]⟩) S0 ?_
      (try simp only [Act.put, List.getElem_toArray, List.getElem_cons_succ, List.getElem_cons_zero, List.setIfInBounds_toArray, List.set_cons_succ, List.set_cons_zero])
      refine HeadAt.take (i := 7) (.int .i64 pl) rfl (by kernel_rfl) (.inl ⟨rfl, fun w' z => ?_⟩) S0 ?_
      · (simp [go_sem, z.2.2.1])
      (try simp only [Act.put, List.getElem_toArray, List.getElem_cons_succ, List.getElem_cons_zero, List.setIfInBounds_toArray, List.set_cons_succ, List.set_cons_zero])
      refine HeadAt.take (i := 9) (.pointer (some ⟨w.heap.size, 1, none⟩)) rfl (by kernel_rfl) (.inl ⟨rfl, fun _ _ => by simp [go_sem]⟩) S0 ?_
      (try simp only [Act.put, List.getElem_toArray, List.getElem_cons_succ, List.getElem_cons_zero, List.setIfInBounds_toArray, List.set_cons_succ, List.set_cons_zero])
      refine HeadAt.take (i := 10) (.slice (some ⟨bl, off, none⟩) m cS) rfl (by kernel_rfl) (.inl ⟨rfl, fun w' z => ?_⟩) S0 ?_
      · (have z0 := z.1.cell 1 rfl; simp [go_sem, z0])
      (try simp only [Act.put, List.getElem_toArray, List.getElem_cons_succ, List.getElem_cons_zero, List.setIfInBounds_toArray, List.set_cons_succ, List.set_cons_zero])
      refine HeadAt.take (i := 11) (.int .i64 (k : Int)) rfl (by kernel_rfl) (.inl ⟨rfl, fun _ _ => by simp [go_sem]⟩) S0 ?_
      (try simp only [Act.put, List.getElem_toArray, List.getElem_cons_succ, List.getElem_cons_zero, List.setIfInBounds_toArray, List.set_cons_succ, List.set_cons_zero])
      refine HeadAt.take (i := 12) (.pointer (some ⟨bl, off + k * 2, none⟩)) rfl (by kernel_rfl) (.inl ⟨rfl, fun w' z => ?_⟩) S0 ?_
      · (simp [go_sem, hkI, hk0'])
      (try simp only [Act.put, List.getElem_toArray, List.getElem_cons_succ, List.getElem_cons_zero, List.setIfInBounds_toArray, List.set_cons_succ, List.set_cons_zero])
      refine HeadAt.take (i := 13) (.pointer (some ⟨bl, off + k * 2 + 1, none⟩)) rfl (by kernel_rfl) (.inl ⟨rfl, fun _ _ => by simp [go_sem]⟩) S0 ?_
      (try simp only [Act.put, List.getElem_toArray, List.getElem_cons_succ, List.getElem_cons_zero, List.setIfInBounds_toArray, List.set_cons_succ, List.set_cons_zero])
      refine HeadAt.take (i := 14) (.slice a' q c') rfl (by kernel_rfl) (.inl ⟨rfl, fun w' z => ?_⟩) S0 ?_
      · (simp [go_sem, z.2.2.2])
      (try simp only [Act.put, List.getElem_toArray, List.getElem_cons_succ, List.getElem_cons_zero, List.setIfInBounds_toArray, List.set_cons_succ, List.set_cons_zero])
      refine HeadAt.one (i := 8) rfl (by kernel_rfl) ?_
      generalize hK : Upto _ _ = K0
      (try simp only [Act.put, List.getElem_toArray, List.getElem_cons_succ, List.getElem_cons_zero, List.setIfInBounds_toArray, List.set_cons_succ, List.set_cons_zero])
      have hba := below_one (w := Y0) (.cells #[] 53)
      have hA := own_litB Y0 53 2 (B := w.heap.size + 3) hszd
      have HY := hid (And.intro (And.intro (S0.1.below hba) (And.intro (S0.2.1.below hba) (And.intro (Below.keep hba S0.2.2.1) (Below.keep hba S0.2.2.2)))) (And.intro (x1.below hba) (And.intro (own_below2 own hba) (And.intro (hrow.below hba) (And.intro (hI.gro (r := none) (Below.grN hba none) (fun k hk => by cases hk) (.inl rfl)) (And.intro (hbw.trans (hba.mono hbw.size)) (And.intro (hP.below hba (Nat.le_refl _)) hA)))))))
      have hlt0 : ∀ r, v.ownBlock = some r → r < Y0.heap.size := fun r hr => (own.lt r hr).2
      have hszY : w.heap.size + 3 ≤ Y0.heap.size := hszd
      clear hba hA S0 x1 own hrow hI hbw hP hszd
      go_wp2_with fail
      obtain ⟨S0, x1, own, hrow, hI, hbw, hP, hA⟩ := HY.out
      clear HY
      generalize hgL : Y0.heap.size = gL at *
      have hsz1 : gL < (Y0.alloc (.cells #[] 53)).heap.size := by simp; omega
      generalize Y0.alloc _ = Y1 at *
      subst hK
      refine ⟨S0, ?_⟩
      (try simp only [Act.put, List.getElem_toArray, List.getElem_cons_succ, List.getElem_cons_zero, List.setIfInBounds_toArray, List.set_cons_succ, List.set_cons_zero])
      refine HeadAt.one (i := 15) rfl (by kernel_rfl) ?_
      generalize hK : Upto _ _ = K0
      (try simp only [Act.put, List.getElem_toArray, List.getElem_cons_succ, List.getElem_cons_zero, List.setIfInBounds_toArray, List.set_cons_succ, List.set_cons_zero])
      have hcl := hP.cls
      have hrg3 := hP.rng
      have HLP := hid (show (pcells ps).length = q * 2 by rw [pcells_len, HQ.out])
      go_wp2_with (at_builtin; refine wpList_appLit rfl _ _ 37 rfl (w.heap.size + 3) 53 k0 _ 2 16 under37 hk0 kz0 kz1 kz2 rfl (by decide) gL rfl hA a' q c' (pcells ps) rfl HLP.out hcl (pcells_one ps) (by unfold maxLen; omega) (by omega) (by omega) ?_; intro v1 Y2 hown1 hb2 hpl2)
      obtain ⟨a1, c1, rfl⟩ := own_slice2 hown1
      have hown1' : Y2.ownsRow (w.heap.size + 3) 53 2 (.slice a1 q c1) ps.length (pcells ps) := by rw [← HQ.out]; exact hown1
      obtain ⟨a1', c1', e1, hP1⟩ := Prs.of_own hown1' (by rw [← HQ.out]; omega) hrg3
      rw [← HQ.out] at e1
      cases e1
      have hblk : ps ≠ [] → ∀ ad, a1 = some ad → gL ≤ ad.block ∧ ad.block < Y2.heap.size := fun hne ad e => by
        refine ⟨?_, (hown1.lt ad.block (by rw [e]; rfl)).2⟩
        rcases hpl2 ad.block (by rw [e]; rfl) with ⟨_, h⟩ | h
        · omega
        · omega
      have hsd : SdC Y2 v.ownBlock (w.heap.size + 3) (some (.int .i64 pl)) (some (.slice a1 q c1)) ⟨pl, ps⟩ :=
        ⟨rfl, a1, c1, by rw [← HQ.out], hP1, by rw [← HQ.out]; exact hpl, hrg2, fun hne ad e => ⟨fun e2 => by have h1 := (hblk hne ad e).1; have h2 := hlt0 _ e2; omega, (hblk hne ad e).2, by have h1 := (hblk hne ad e).1; omega⟩⟩
      replace S0 := And.intro (S0.1.below hb2) (And.intro (S0.2.1.below hb2) (And.intro (Below.keep hb2 S0.2.2.1) (Below.keep hb2 S0.2.2.2)))
      replace x1 := x1.below hb2
      replace own := own_below2 own hb2
      replace hrow := hrow.below hb2
      replace hI := hI.gro (r := none) (Below.grN hb2 none) (fun k hk => by cases hk) (.inl rfl)
      replace hbw := hbw.trans (hb2.mono hbw.size)
      have hsz2 := hb2.size
      clear hP hA hcl hrg3 hown1 hown1' hP1 hblk hpl2 hb2
      subst hK
      refine ⟨S0, ?_⟩
      (try simp only [Act.put, List.getElem_toArray, List.getElem_cons_succ, List.getElem_cons_zero, List.setIfInBounds_toArray, List.set_cons_succ, List.set_cons_zero])
      refine HeadAt.take (i := 16) (.agg #[.int .i64 pl, .slice a1 q c1]) rfl (by kernel_rfl) (.inl ⟨rfl, fun w' z => ?_⟩) S0 ?_
      · (simp [go_sem])
      (try simp only [Act.put, List.getElem_toArray, List.getElem_cons_succ, List.getElem_cons_zero, List.setIfInBounds_toArray, List.set_cons_succ, List.set_cons_zero])
      refine HeadAt.one (i := 17) rfl (by kernel_rfl) ?_
      generalize hK : Upto _ _ = K0
      (try simp only [Act.put, List.getElem_toArray, List.getElem_cons_succ, List.getElem_cons_zero, List.setIfInBounds_toArray, List.set_cons_succ, List.set_cons_zero])
      have hba := below_one (w := Y2) (.cells #[.int .i64 pl, .slice a1 q c1] 39)
      have HY := hid (And.intro (And.intro (S0.1.below hba) (And.intro (S0.2.1.below hba) (And.intro (Below.keep hba S0.2.2.1) (Below.keep hba S0.2.2.2)))) (And.intro (x1.below hba) (And.intro (own_below2 own hba) (And.intro (hrow.below hba) (And.intro (hI.gro (r := none) (Below.grN hba none) (fun k hk => by cases hk) (.inl rfl)) (And.intro (hbw.trans (hba.mono hbw.size)) (And.intro (hsd.gro (r := none) (Below.grN hba none) (fun k hk => by cases hk) (.inl rfl)) (Bx.new Y2 #[.int .i64 pl, .slice a1 q c1] 39))))))))
      clear hba S0 x1 own hrow hI hbw hsd
      go_wp2_with fail
      obtain ⟨S0, x1, own, hrow, hI, hbw, hsd, hnx⟩ := HY.out
      clear HY
      have hsz3 : Y2.heap.size < (Y2.alloc (.cells #[.int .i64 pl, .slice a1 q c1] 39)).heap.size := by simp
      generalize hgN : Y2.heap.size = gN at *
      generalize Y2.alloc _ = Y3 at *
      subst hK
      refine ⟨S0, ?_⟩
      (try simp only [Act.put, List.getElem_toArray, List.getElem_cons_succ, List.getElem_cons_zero, List.setIfInBounds_toArray, List.set_cons_succ, List.set_cons_zero])
      refine HeadAt.one (i := 18) rfl (by kernel_rfl) ?_
      generalize hK : Upto _ _ = K0
      (try simp only [Act.put, List.getElem_toArray, List.getElem_cons_succ, List.getElem_cons_zero, List.setIfInBounds_toArray, List.set_cons_succ, List.set_cons_zero])
      have hcl := Cls.of_bx hnx
      have hge := own_ge2 own
      go_wp2_with (at_builtin; refine wpList_appAt rfl _ _ 22 rfl (w.heap.size + 3) 39 i0 _ 2 32 under22 hi0 iz0 iz1 iz2 rfl (by decide) v k cs rfl own (some ⟨gN, 0, none⟩) 1 1 [.int .i64 pl, .slice a1 q c1] rfl rfl hcl (by simp; exact ⟨rfl, rfl⟩) (by unfold maxLen; omega) (by omega) (by omega) ?_; intro v2 Y4 own4 hg4 hat)
      have hat2 : v2.ownBlock = v.ownBlock ∨ ∃ r, v2.ownBlock = some r ∧ Y3.heap.size ≤ r := by
        rcases hat with h | h
        · exact .inl h
        · exact .inr ⟨_, h, Nat.le_refl _⟩
      have hcsl : cs.length = (S.take k).length * 2 := by rw [own.1, HMM.out]
      have hrow4 := (hrow.snoc hcsl hsd).gro hg4 (fun r hr => .inl hr) hat2
      have hI4 := hI.gro hg4 (fun r hr => .inl hr) hat2
      rw [← HST.out] at hrow4
      have x04 := S0.1.gb hg4 (fun r hr => by have := hge r hr; omega)
      have x34 := S0.2.1.gb hg4 (fun r hr => by have := hge r hr; omega)
      have x14 := x1.gb hg4 (fun r hr => by have := hge r hr; omega)
      have hbw4 := hbw.grown hg4 (by have := hbw.size; omega) (fun r hr => by have := hge r hr; omega)
      have hsz4 := hg4.size
      have q04 : Y4.cell? ⟨bl, off + k * 2, none⟩ = some (.int .i64 pl) := by
        rw [← S0.2.2.1]; exact World.cell?_of_block (w := Y3) (hg4.block bl (cell_lt S0.2.2.1) (fun e => by have := hge bl e.symm; omega))
      have q14 : Y4.cell? ⟨bl, off + k * 2 + 1, none⟩ = some (.slice a' q c') := by
        rw [← S0.2.2.2]; exact World.cell?_of_block (w := Y3) (hg4.block bl (cell_lt S0.2.2.2) (fun e => by have := hge bl e.symm; omega))
      have S4 := And.intro x04 (And.intro x34 (And.intro q04 q14))
      clear S0 x1 own hrow hI hbw hsd hnx hcl hge hg4 hat hcsl x04 x34 q04 q14
      subst hK
      refine ⟨S4, ?_⟩
      (try simp only [Act.put, List.getElem_toArray, List.getElem_cons_succ, List.getElem_cons_zero, List.setIfInBounds_toArray, List.set_cons_succ, List.set_cons_zero])
      refine HeadAt.done (by kernel_rfl) ?_
      (try simp only [Act.put, List.drop_succ_cons, List.drop_zero, List.getElem_toArray, List.getElem_cons_succ, List.getElem_cons_zero])
      have e1 := S4.2.1.cell 1 rfl
      have f1 := S4.2.1.free 1
      have hge4 := own_ge2 own4
      have hgs : Y4.grownBy (Y4.setCell ⟨w.heap.size + 2, 1, none⟩ v2) (some (w.heap.size + 2)) := gsetR Y4 _ _
      have hne4 : ∀ r, v2.ownBlock = some r → some (w.heap.size + 2) ≠ some r := fun r hr e => by have := hge4 r hr; injection e with e; omega
      obtain ⟨av, cv, rfl⟩ := own_slice2 own4
      have y0 := S4.1.gb hgs (fun r hr => by injection hr with hr; omega)
      have y1 := x14.gb hgs (fun r hr => by injection hr with hr; omega)
      have y3 : Bx (Y4.setCell ⟨w.heap.size + 2, 1, none⟩ (.slice av (k + 1) cv)) (w.heap.size + 2) #[.int .i64 p, .slice av (k + 1) cv, .slice b n d] 25 := by simpa using S4.2.1.set 1 (.slice av (k + 1) cv)
      have yb := hbw4.setCell (p := ⟨w.heap.size + 2, 1, none⟩) (by show w.heap.size ≤ w.heap.size + 2; omega) (.slice av (k + 1) cv)
      have yown := own_keep own4 hgs hne4
      have yrow := hrow4.gro hgs (fun r hr => .inr (by injection hr with hr; omega)) (.inl rfl)
      have yI := hI4.gro hgs (fun r hr => .inr (by injection hr with hr; omega)) (.inl rfl)
      have HE := hid (show CyW w p (some ⟨bl, off, none⟩) aO cS cO m n (.slice av (k + 1) cv) b d (k + 1) (S.take (k + 1)) O (Y4.setCell ⟨w.heap.size + 2, 1, none⟩ (.slice av (k + 1) cv)) from ⟨y0, y1, y3, ⟨_, yown, yrow, yI⟩, yb, by simpa [World.setCell] using (by omega : w.heap.size + 3 ≤ Y4.heap.size)⟩)
      clear y0 y1 y3 yb yown yrow yI own4 hrow4 hI4 x14 hbw4 hgs hne4 hge4
      go_wp2_with fail
      refine NoPanic.normal ?_
      clear e1 f1 S4
      generalize World.setCell _ _ _ = Y5 at *
      go_wp2
      go_roundw
      case rel => exact ⟨k + 1, _, by omega, by simp, HE.out⟩
      case measure => simp [intOf]; omega
    · have hkm : k = m := by omega
      have hkI : ¬ (k : Int) < m := by omega
      have ht : S.take k = S := by rw [hkm, HM.out, List.take_length]
      rw [ht] at E
      obtain ⟨x0, x1, x3, ⟨cs, own, hrow, hI⟩, hbw, hsz⟩ := E
      clear hX0 x0 ht
      obtain ⟨av, cv, rfl⟩ := own_slice2 own
      rw [hkm] at own hrow hI x3
      have hge := own_ge2 own
      have d0 := x3.cell 0 rfl; have d1 := x3.cell 1 rfl; have d2 := x3.cell 2 rfl
      have e0 := x1.cell 0 rfl; have e1 := x1.cell 1 rfl; have e2 := x1.cell 2 rfl
      have f0 := x1.free 0; have f1 := x1.free 1; have f2 := x1.free 2
      have hsz0 : w.heap.size + 3 ≤ wr.heap.size := hsz
      have hg3 := gput3 wr (w.heap.size + 1) (.int .i64 p) (.slice av m cv) (.slice b n d)
      have z1 := x1.set3 (.int .i64 p) (.slice av m cv) (.slice b n d)
      have z2 := below_put3 hbw (b := w.heap.size + 1) (by omega) (.int .i64 p) (.slice av m cv) (.slice b n d)
      have z3 : CpM wr (w.heap.size + 3) (w.heap.size + 3) av b cv d S O := ⟨cs, by rw [← HM.out]; exact own, by rw [← HM.out]; exact hrow, by rw [← HM.out]; exact hI⟩
      have z4 := z3.gro hg3 (fun r hr => by injection hr with hr; omega)
      have hszz : w.heap.size + 3 ≤ (((wr.setCell ⟨w.heap.size + 1, 0, none⟩ (.int .i64 p)).setCell ⟨w.heap.size + 1, 1, none⟩ (.slice av m cv)).setCell ⟨w.heap.size + 1, 2, none⟩ (.slice b n d)).heap.size := by simpa [World.setCell] using hsz0
      have HZ := hid (And.intro z1 (And.intro z2 (And.intro z4 hszz)))
      clear z1 z2 z3 z4 hg3 x1 x3 own hrow hI hbw hge hsz hkm hszz hsz0
      go_wp2_with fail
      obtain ⟨z1, z2, z4, z5⟩ := HZ.out
      clear HZ d0 d1 d2 e0 e1 e2 f0 f1 f2
      generalize World.setCell (World.setCell (World.setCell _ _ _) _ _) _ _ = V9 at *
      have k0 := z1.cell 0 rfl; have k1 := z1.cell 1 rfl; have k2 := z1.cell 2 rfl
      refine bodyPost_ret (v := .agg #[.int .i64 p, .slice av m cv, .slice b n d]) ?_ rfl ⟨av, b, cv, d, rfl, z4, z2, z5⟩
      simp [results, Try.results19, go_sem, k0, k1, k2]
end Go.Proofs.Ytakodllejndfeaa
