import Derived.Test.YtknaljghpfeikaaT30
import Derived.Laws.OwnMore
namespace Go.Proofs.Ytknaljghpfeikaa
open Go.RowKit

set_option maxRecDepth 100000 in
set_option maxHeartbeats 4000000 in
/-- slices.Clone of a row of presses: a row of the call's own. -/
theorem clone2_any (ap : Option Addr) (cp : Nat) (ps : List (Int × Int)) (w : World) (hP : Prs w ap ps) (hl : ps.length ≤ 100000) :
    Calls Try.prog 93 #[.slice ap ps.length cp] w fun e w' => ∃ v, e = .returned v ∧ w'.ownsRow w.heap.size 40 2 v ps.length (pcells ps) ∧ Below w.heap.size w w' := by
  obtain ⟨i0, hi0, iz0, iz1, iz2⟩ := info_parts info40
  rcases ap with _ | ad
  · have h0 := hP.empty
    subst h0
    have hE : ∀ w, (binOp .eql 23 (.slice none 0 cp) (.slice none 0 0)).run Try.prog w = .ok (.bool true) w := fun w => Lib.run_eql_slice_nil w 23 40 none 0 cp 0 0 under23
    go_enter Try.func93, Try.ntmps93
    go_wp2
    go_ret
    exact ⟨_, rfl, World.ownsRow_nil _ _ _ _, Below.refl _ _⟩
  · have hb1 := below_one (w := w) (.cells #[] 40)
    have hown : (w.alloc (.cells #[] 40)).ownsRow w.heap.size 40 2 (.slice (some ⟨w.heap.size, 0, none⟩) 0 0) 0 [] := World.ownsRow_made w #[] 0 (Nat.le_refl _) (by unfold maxLen; omega) (by simp)
    have hcl := (hP.below hb1 (Nat.le_refl _)).cls
    obtain ⟨n, hn⟩ : ∃ n, n = ps.length := ⟨_, rfl⟩
    have ln : (pcells ps).length = n * 2 := by rw [pcells_len, hn]
    rw [← hn] at hl ⊢
    have HN := hid hn; have LN := hid ln
    clear hn ln
    have hnI : (n : Int) ≤ 100000 := by omega
    have hn0 : (0 : Int) ≤ (n : Int) := by omega
    have hE : ∀ w, (binOp .eql 23 (.slice (some ad) n cp) (.slice none 0 0)).run Try.prog w = .ok (.bool false) w := fun w => Lib.run_eql_slice_nil w 23 40 (some ad) n cp 0 0 under23
    go_enter Try.func93, Try.ntmps93
    go_wp2_with (at_builtin; refine wpList_appAt rfl (.tmp 5) (.tmp 6) 23 rfl w.heap.size 40 i0 (.agg #[.int .i64 0, .int .i64 0]) 2 16 under23 hi0 iz0 iz1 iz2 rfl (by decide) (.slice (some ⟨w.heap.size, 0, none⟩) 0 0) 0 _ rfl hown (some ad) n cp (pcells ps) rfl LN.out hcl (pcells_one ps) (by unfold maxLen; omega) (by omega) hb1.size ?_; intro v5 W5 hown5 hg5 hat)
    have hb5 := hb1.grown hg5 hb1.size (own_ge2 hown)
    rw [Nat.zero_add, List.nil_append] at hown5
    have HE := hid (And.intro hown5 hb5)
    clear hown5 hown hcl hat hg5 hb5
    go_ret
    exact ⟨_, rfl, HE.out.1, HE.out.2⟩

/-- Where the record of each place stands now. -/
def plcs : Nat → List Int → List Int → List Int
  | _, [], L => L
  | k, x :: xs, L => plcs (k + 1) xs (L.set x.toNat (k : Int))
def plc (os : List Int) : List Int := plcs 0 os [0, 0, 0, 0, 0, 0]
def ordR (rs : List (Int × Int)) (os : List Int) : List (Int × Int) := os.map fun x => rs.getD x.toNat (0, 0)
def ordP1 (L : List Int) (p : Int × Int) : Int × Int := (2 * L.getD (p.1.toNat / 2) 0 + ((p.1.toNat % 2 : Nat) : Int), p.2)
def ordP (os : List Int) (ps : List (Int × Int)) : List (Int × Int) := ps.map (ordP1 (plc os))
theorem plcs_len : ∀ (os : List Int) (k : Nat) (L : List Int), (plcs k os L).length = L.length
  | [], _, _ => rfl
  | x :: xs, k, L => by rw [plcs, plcs_len xs]; simp
theorem plcs_snoc : ∀ (os : List Int) (x : Int) (k : Nat) (L : List Int), plcs k (os ++ [x]) L = (plcs k os L).set x.toNat ((k + os.length : Nat) : Int)
  | [], _, _, _ => rfl
  | y :: ys, x, k, L => by
    rw [List.cons_append, plcs, plcs_snoc ys x, plcs, List.length_cons]
    congr 2
    omega
theorem set_bound {b : Int} {L : List Int} (hL : ∀ z ∈ L, 0 ≤ z ∧ z ≤ b) (j : Nat) {v : Int} (hv : 0 ≤ v ∧ v ≤ b) : ∀ z ∈ L.set j v, 0 ≤ z ∧ z ≤ b := fun z hz => by
  rcases List.mem_or_eq_of_mem_set hz with h | h
  · exact hL z h
  · rw [h]; exact hv
theorem plcs_bound {b : Int} : ∀ (os : List Int) (k : Nat) (L : List Int), (∀ z ∈ L, 0 ≤ z ∧ z ≤ b) → ((k + os.length : Nat) : Int) ≤ b + 1 → ∀ z ∈ plcs k os L, 0 ≤ z ∧ z ≤ b
  | [], _, _, hL, _ => hL
  | x :: xs, k, L, hL, hk => by
    rw [plcs]
    rw [List.length_cons] at hk
    exact plcs_bound xs (k + 1) _ (set_bound hL _ ⟨by omega, by omega⟩) (by omega)
theorem getD_bound {b : Int} (h0 : 0 ≤ b) {L : List Int} (hL : ∀ z ∈ L, 0 ≤ z ∧ z ≤ b) (j : Nat) : 0 ≤ L.getD j 0 ∧ L.getD j 0 ≤ b := by
  rw [List.getD_eq_getElem?_getD]
  cases h : L[j]? with
  | none => simp; omega
  | some z => exact hL z (List.mem_of_getElem? h)
theorem pcells_put (A : List (Int × Int)) (x : Int × Int) (B : List (Int × Int)) (v : Int) {k : Nat} (hk : A.length = k) : (pcells (A ++ x :: B)).set (k * 2) (.int .i64 v) = pcells (A ++ (v, x.2) :: B) := by
  rw [pcells_app, pcells_app, List.set_append]
  have e := pcells_len A
  rw [hk] at e
  rw [if_neg (by omega), e, Nat.sub_self, pcells_cons, pcells_cons]
  rfl

/-- An array of six numbers. -/
def Pl (w : World) (b : Nat) (L : List Int) : Prop := L.length = 6 ∧ Bx w b (L.map (Value.int .i64)).toArray 111
theorem Pl.cell {w : World} {b : Nat} {L : List Int} (h : Pl w b L) {j : Nat} (hj : j < 6) : w.cell? ⟨b, j, none⟩ = some (.int .i64 (L.getD j 0)) := by
  refine h.2.cell j ?_
  have hl : j < L.length := by rw [h.1]; exact hj
  simp [List.getD, hl]
theorem Pl.free {w : World} {b : Nat} {L : List Int} (h : Pl w b L) (j : Nat) : w.frozen? ⟨b, j, none⟩ = false := h.2.free j
theorem Pl.set {w : World} {b : Nat} {L : List Int} (h : Pl w b L) (j : Nat) (v : Int) : Pl (w.setCell ⟨b, j, none⟩ (.int .i64 v)) b (L.set j v) := by
  refine ⟨by simp [h.1], ?_⟩
  have := h.2.set j (.int .i64 v)
  rw [List.map_set]
  simpa using this
end Go.Proofs.Ytknaljghpfeikaa
namespace Go.Proofs.Ytknaljghpfeikaa
open Go.RowKit

theorem ordR_len (rs : List (Int × Int)) (os : List Int) : (ordR rs os).length = os.length := by simp [ordR]
theorem ordP_len (os : List Int) (ps : List (Int × Int)) : (ordP os ps).length = ps.length := by simp [ordP]
/-- What ordered returns: a tray with its records in an order. -/
def OrdP (rs ps : List (Int × Int)) (os : List Int) (p0 way step : Int) (w : World) (e : Ending) (w' : World) : Prop := Below w.heap.size w w' ∧ ∃ (a1 a2 : Option Addr) (c1 c2 : Nat),
  e = .returned (.agg #[.slice a1 (ordR rs os).length c1, .int .i64 p0, .int .i64 way, .int .i64 step, .slice a2 (ordP os ps).length c2]) ∧ Prs w' a1 (ordR rs os) ∧ Prs w' a2 (ordP os ps)

theorem take_snocI {α : Type} {os : List α} {k : Nat} {x : α} (h : os[k]? = some x) : os.take (k + 1) = os.take k ++ [x] := by rw [List.take_add_one, h]; rfl
theorem ordR_at {rs : List (Int × Int)} {os : List Int} {k j : Nat} {x : Int × Int} (h : os[k]? = some (j : Int)) (hr : rs[j]? = some x) : (ordR rs os)[k]? = some x := by
  simp [ordR, h, List.getD_eq_getElem?_getD, hr]
/-- The two rounds' relations. -/
structure OrdR1 (B B4 b g6 : Nat) (rs ps : List (Int × Int)) (os : List Int) (ar ap a2 : Option Addr) (cr cp c2 n m : Nat) (p0 way step : Int) (w : World) (k : Nat) (wr : World) : Prop where
  ex : ∃ (a6 : Option Addr) (c6 : Nat), wr.ownsRow B 34 2 (.slice a6 k c6) k (pcells ((ordR rs os).take k)) ∧ Bx wr (b + 1 + 1) #[.slice a6 k c6, .int .i64 p0, .int .i64 way, .int .i64 step, .slice a2 m c2] 25
  x0 : Bx wr b #[.slice ar rs.length cr, .int .i64 p0, .int .i64 way, .int .i64 step, .slice ap m cp] 25
  x1 : Bx wr (b + 1) #[.slice none 0 0, .int .i64 0, .int .i64 0, .int .i64 0, .slice none 0 0] 25
  pl : Pl wr g6 (plcs 0 (os.take k) [0, 0, 0, 0, 0, 0])
  own : wr.ownsRow B4 40 2 (.slice a2 m c2) m (pcells ps)
  hb : Below w.heap.size w wr
structure OrdR2 (B B4 b g6 : Nat) (rs ps : List (Int × Int)) (os : List Int) (a6 a2 : Option Addr) (c6 c2 n m : Nat) (p0 way step : Int) (w : World) (i : Nat) (wr : World) : Prop where
  x1 : Bx wr (b + 1) #[.slice none 0 0, .int .i64 0, .int .i64 0, .int .i64 0, .slice none 0 0] 25
  x2 : Bx wr (b + 1 + 1) #[.slice a6 n c6, .int .i64 p0, .int .i64 way, .int .i64 step, .slice a2 m c2] 25
  pl : Pl wr g6 (plc os)
  own6 : wr.ownsRow B 34 2 (.slice a6 n c6) n (pcells (ordR rs os))
  own4 : wr.ownsRow B4 40 2 (.slice a2 m c2) m (pcells ((ordP os ps).take i ++ ps.drop i))
  hb : Below w.heap.size w wr
theorem pcells_get (A : List (Int × Int)) (x : Int × Int) (B : List (Int × Int)) {k : Nat} (hk : A.length = k) : (pcells (A ++ x :: B))[k * 2]? = some (.int .i64 x.1) := by
  have := (pcells_at (A ++ x :: B) k (by simp; omega)).1
  rw [this]
  simp [List.getD_eq_getElem?_getD, ← hk]
theorem Pl.below {w w' : World} {b : Nat} {L : List Int} (h : Pl w b L) (hb : Below w.heap.size w w') : Pl w' b L := ⟨h.1, h.2.below hb⟩

set_option maxRecDepth 100000 in
set_option maxHeartbeats 6000000 in
theorem ordered_any (ao : Option Addr) (co : Nat) (os : List Int) (ar ap : Option Addr) (cr cp : Nat) (rs ps : List (Int × Int)) (p0 way step : Int) (w : World) (hR : Prs w ar rs) (hP : Prs w ap ps) (hO : Ints w ao os) (h6 : rs.length ≤ 6) (hos : ∀ x ∈ os, 0 ≤ x ∧ x < (rs.length : Int)) (hol : os.length ≤ 6) (hps : ∀ p ∈ ps, 0 ≤ p.1 ∧ p.1 < 12) (hpl : ps.length ≤ 13) :
    Calls Try.prog 81 #[.agg #[.slice ar rs.length cr, .int .i64 p0, .int .i64 way, .int .i64 step, .slice ap ps.length cp], .slice ao os.length co] w (OrdP rs ps os p0 way step w) := by
  obtain ⟨i0, hi0, iz0, iz1, iz2⟩ := info_parts info40
  obtain ⟨j0, hj0, jz0, jz1, jz2⟩ := info_parts info34
  obtain ⟨n, hn⟩ : ∃ n, n = os.length := ⟨_, rfl⟩
  obtain ⟨m, hmm⟩ : ∃ m, m = ps.length := ⟨_, rfl⟩
  rw [← hn, ← hmm]
  rw [← hn] at hol; rw [← hmm] at hpl
  have HN := hid hn; have HM := hid hmm; have HOS := hid hos; have HPS := hid hps
  clear hn hmm hos hps
  have hnI : (n : Int) ≤ 6 := by omega
  have hmI : (m : Int) ≤ 13 := by omega
  have hn0 : (0 : Int) ≤ (n : Int) := by omega
  have hm0 : (0 : Int) ≤ (m : Int) := by omega
  have hrI : (rs.length : Int) ≤ 6 := by omega
  obtain ⟨W, hW, hb, hs, x0, x1⟩ := boxes2 w #[.slice ar rs.length cr, .int .i64 p0, .int .i64 way, .int .i64 step, .slice ap m cp] 25 #[.slice none 0 0, .int .i64 0, .int .i64 0, .int .i64 0, .slice none 0 0] 25
  obtain ⟨W1, hW1, hb1, hs1, x2⟩ := boxes1 W #[.slice none 0 0, .int .i64 0, .int .i64 0, .int .i64 0, .slice none 0 0] 25
  rw [hs] at hs1 x2
  have c0 := x0.cell 0 rfl; have c1 := x0.cell 1 rfl; have c2 := x0.cell 2 rfl; have c3 := x0.cell 3 rfl; have c4 := x0.cell 4 rfl
  replace x0 := x0.below hb1
  replace x1 := x1.below hb1
  replace hb := hb.trans (hb1.mono hb.size)
  have g1 := gset5 W1 (w.heap.size + 1 + 1) (.slice ar rs.length cr) (.int .i64 p0) (.int .i64 way) (.int .i64 step) (.slice ap m cp)
  have x2' := x2.set5 (.slice ar rs.length cr) (.int .i64 p0) (.int .i64 way) (.int .i64 step) (.slice ap m cp)
  have x0' := x0.gb g1 (fun k hk => by cases hk; omega)
  have x1' := x1.gb g1 (fun k hk => by cases hk; omega)
  have hb2 := hb.grown g1 (by omega) (fun k hk => by cases hk; omega)
  have g3 := gset (((((W1.setCell ⟨w.heap.size + 1 + 1, 0, none⟩ (.slice ar rs.length cr)).setCell ⟨w.heap.size + 1 + 1, 1, none⟩ (.int .i64 p0)).setCell ⟨w.heap.size + 1 + 1, 2, none⟩ (.int .i64 way)).setCell ⟨w.heap.size + 1 + 1, 3, none⟩ (.int .i64 step)).setCell ⟨w.heap.size + 1 + 1, 4, none⟩ (.slice ap m cp)) ⟨w.heap.size + 1 + 1, 0, none⟩ (.slice none 0 0)
  have x23 : Bx _ (w.heap.size + 1 + 1) #[.slice none 0 0, .int .i64 p0, .int .i64 way, .int .i64 step, .slice ap m cp] 25 := x2'.set 0 (.slice none 0 0)
  have x03 := x0'.gb g3 (fun k hk => by cases hk; show w.heap.size ≠ w.heap.size + 1 + 1; omega)
  have x13 := x1'.gb g3 (fun k hk => by cases hk; show w.heap.size + 1 ≠ w.heap.size + 1 + 1; omega)
  have hb3 := hb2.grown g3 (by simp; omega) (fun k hk => by cases hk; show w.heap.size ≤ w.heap.size + 1 + 1; omega)
  have f0 := x2.free 0; have f1 := x2.free 1; have f2 := x2.free 2; have f3 := x2.free 3; have f4 := x2.free 4
  have z0 := x2.cell 0 rfl; have z1 := x2.cell 1 rfl; have z2 := x2.cell 2 rfl; have z3 := x2.cell 3 rfl; have z4 := x2.cell 4 rfl
  have e4 := x03.cell 4 rfl
  have hsz : ((((((W1.setCell ⟨w.heap.size + 1 + 1, 0, none⟩ (.slice ar rs.length cr)).setCell ⟨w.heap.size + 1 + 1, 1, none⟩ (.int .i64 p0)).setCell ⟨w.heap.size + 1 + 1, 2, none⟩ (.int .i64 way)).setCell ⟨w.heap.size + 1 + 1, 3, none⟩ (.int .i64 step)).setCell ⟨w.heap.size + 1 + 1, 4, none⟩ (.slice ap m cp)).setCell ⟨w.heap.size + 1 + 1, 0, none⟩ (.slice none 0 0)).heap.size = w.heap.size + 1 + 1 + 1 := by simp [hs1]
  have HX := hid (And.intro x03 (And.intro x13 (And.intro x23 (And.intro hb3 hsz))))
  clear x0 x1 x2 x0' x1' x2' x03 x13 x23 g1 g3 hb hb1 hb2 hb3 hs1 hsz
  go_enter Try.func81, Try.ntmps81
  go_wp2_with fail
  clear f0 f1 f2 f3 f4 z0 z1 z2 z3 z4 c0 c1 c2 c3 c4 e4
  obtain ⟨x0, x1, x2, hb, hsz⟩ := HX.out
  clear HX
  generalize ((((((W1.setCell ⟨w.heap.size + 1 + 1, 0, none⟩ (.slice ar rs.length cr)).setCell ⟨w.heap.size + 1 + 1, 1, none⟩ (.int .i64 p0)).setCell ⟨w.heap.size + 1 + 1, 2, none⟩ (.int .i64 way)).setCell ⟨w.heap.size + 1 + 1, 3, none⟩ (.int .i64 step)).setCell ⟨w.heap.size + 1 + 1, 4, none⟩ (.slice ap m cp)).setCell ⟨w.heap.size + 1 + 1, 0, none⟩ (.slice none 0 0)) = W2 at *
  have hcl := clone2_any ap cp ps W2 (hP.below hb (Nat.le_refl _)) (by rw [← HM.out]; omega)
  rw [← HM.out] at hcl
  refine hcl.mono ?_
  rintro e W3 ⟨v, rfl, own, hb3⟩
  obtain ⟨a2, c2, rfl⟩ := own_slice2 own
  have own_lt2 := own_lt own
  have y0 := x0.below hb3; have y1 := x1.below hb3; have y2 := x2.below hb3
  have hbW3 := hb.trans (hb3.mono hb.size)
  have hs3 := hb3.size
  have g4 := gset W3 ⟨w.heap.size + 1 + 1, 4, none⟩ (.slice a2 m c2)
  have y2' : Bx (W3.setCell ⟨w.heap.size + 1 + 1, 4, none⟩ (.slice a2 m c2)) (w.heap.size + 1 + 1) #[.slice none 0 0, .int .i64 p0, .int .i64 way, .int .i64 step, .slice a2 m c2] 25 := y2.set 4 (.slice a2 m c2)
  have y0' := y0.gb g4 (fun k hk => by cases hk; show w.heap.size ≠ w.heap.size + 1 + 1; omega)
  have y1' := y1.gb g4 (fun k hk => by cases hk; show w.heap.size + 1 ≠ w.heap.size + 1 + 1; omega)
  have hb4 := hbW3.grown g4 (by omega) (fun k hk => by cases hk; show w.heap.size ≤ w.heap.size + 1 + 1; omega)
  have own4 := own_keep own g4 (fun k hk e => by have := own_ge2 own k hk; injection e with e; have e' : w.heap.size + 1 + 1 = k := e; omega)
  have hb5 := below_one (w := W3.setCell ⟨w.heap.size + 1 + 1, 4, none⟩ (.slice a2 m c2)) (.cells #[.int .i64 0, .int .i64 0, .int .i64 0, .int .i64 0, .int .i64 0, .int .i64 0] 111)
  have y5 : Bx ((W3.setCell ⟨w.heap.size + 1 + 1, 4, none⟩ (.slice a2 m c2)).alloc (.cells #[.int .i64 0, .int .i64 0, .int .i64 0, .int .i64 0, .int .i64 0, .int .i64 0] 111)) W3.heap.size #[.int .i64 0, .int .i64 0, .int .i64 0, .int .i64 0, .int .i64 0, .int .i64 0] 111 := Bx.new' (by simp) _ _
  obtain ⟨g6, hg6⟩ : ∃ g, W3.heap.size = g := ⟨_, rfl⟩
  rw [hg6] at own_lt2 y5 hs3
  have HR1 := hid (show OrdR1 (g6 + 1) (w.heap.size + 1 + 1 + 1) w.heap.size g6 rs ps os ar ap a2 cr cp c2 n m p0 way step w 0 _ from
    ⟨⟨none, 0, World.ownsRow_nil _ _ _ _, y2'.below hb5⟩, y0'.below hb5, y1'.below hb5, ⟨rfl, y5⟩, by rw [← hsz]; exact own_below2 own4 hb5, hb4.trans (hb5.mono hb4.size)⟩)
  have fr4 := y2.free 4
  have k4 := y2.cell 4 rfl
  clear own4 hb4 y0' y1' y2' g4 hbW3 y0 y1 own hb3 x0 x1 x2 hb hcl y2 y5 hb5 hW hW1 hs
  go_wp2_with fail
  clear fr4 k4
  go_loopw [19] (fun v19 wr => ∃ k : Nat, k ≤ n ∧ v19 = .int .i64 (k : Int) ∧ OrdR1 (g6 + 1) (w.heap.size + 1 + 1 + 1) w.heap.size g6 rs ps os ar ap a2 cr cp c2 n m p0 way step w k wr) (fun v19 _ => n - (intOf v19).toNat)
  case atStart => exact ⟨0, Nat.zero_le _, rfl, HR1.out⟩
  case round =>
    clear HR1
    obtain ⟨k, hk, rfl, HR⟩ := hrel
    obtain ⟨⟨a6, c6, own6, y2⟩, y0, y1, hp6, own4, hb⟩ := HR
    by_cases hlt : k < n
    · obtain ⟨bo, oo, x, rfl, _, hx, _, _, hxk, _⟩ := hO.at (show k < os.length by rw [← HN.out]; exact hlt)
      have hxm := HOS.out x (List.mem_of_getElem? hxk.out)
      obtain ⟨j, rfl⟩ : ∃ j : Nat, x = (j : Int) := ⟨x.toNat, by omega⟩
      have hjr : j < rs.length := by omega
      obtain ⟨br, or_, u, t, rfl, _, hr1, hr2, hub, htb, hru, _⟩ := hR.at hjr
      have hjI : (j : Int) < (rs.length : Int) := by omega
      have hjz : (0 : Int) ≤ (j : Int) := by omega
      have hj6 : (j : Int) < 6 := by omega
      have hkI : (k : Int) < (n : Int) := by omega
      have hk0 : (0 : Int) ≤ (k : Int) := by omega
      have hxw := Below.keep hb hx
      have h6lt := hp6.2.lt
      have HG := hid (And.intro (take_snocI hxk.out) (take_snocI (ordR_at hxk.out hru.out)))
      clear hx hxm hxk hru
      go_upto_region 8 with fail
      clear hxw
      have hbd := (Below.refl wr.heap.size wr).drew
      have y0d := y0.below hbd; have y1d := y1.below hbd; have y2d := y2.below hbd; have p6d := hp6.2.below hbd
      have own4d := own_below2 own4 hbd; have own6d := own_below2 own6 hbd
      have hbb := hb.trans (hbd.mono hb.size)
      have h6d : g6 < wr.drew.heap.size := Nat.lt_of_lt_of_le h6lt hbd.size
      have hp6l := hp6.1
      clear hbd y0 y1 y2 hp6 own4 own6 hb h6lt
      refine wp_region_head 9 (fun w' => Bx w' w.heap.size #[.slice (some ⟨br, or_, none⟩) rs.length cr, .int .i64 p0, .int .i64 way, .int .i64 step, .slice ap m cp] 25 ∧ Bx w' (w.heap.size + 1 + 1) #[.slice a6 k c6, .int .i64 p0, .int .i64 way, .int .i64 step, .slice a2 m c2] 25 ∧ w'.cell? ⟨br, or_ + j * 2, none⟩ = some (.int .i64 u) ∧ w'.cell? ⟨br, or_ + j * 2 + 1, none⟩ = some (.int .i64 t)) (by kernel_rfl) rfl ?_
      generalize wr.drew = Y0 at *
      have S0 := And.intro y0d (And.intro y2d (And.intro (Below.keep hbb hr1) (Below.keep hbb hr2)))
      refine HeadAt.take (i := 0) (.pointer (some ⟨w.heap.size + 1 + 1, 0, none⟩)) rfl (by kernel_rfl) (.inl ⟨rfl, fun _ _ => by simp [go_sem]⟩) S0 ?_
      refine HeadAt.take (i := 1) (.slice a6 k c6) rfl (by kernel_rfl) (.inl ⟨rfl, fun w' z => ?_⟩) S0 ?_
      · (have z0 := z.2.1.cell 0 rfl; simp [go_sem, z0])
      refine HeadAt.take (i := 2) (.pointer (some ⟨w.heap.size, 0, none⟩)) rfl (by kernel_rfl) (.inl ⟨rfl, fun _ _ => by simp [go_sem]⟩) S0 ?_
      refine HeadAt.take (i := 3) (.slice (some ⟨br, or_, none⟩) rs.length cr) rfl (by kernel_rfl) (.inl ⟨rfl, fun w' z => ?_⟩) S0 ?_
      · (have z0 := z.1.cell 0 rfl; simp [go_sem, z0])
      simp only [Act.put, List.getElem_toArray, List.getElem_cons_succ, List.getElem_cons_zero, List.setIfInBounds_toArray, List.set_cons_succ, List.set_cons_zero]
      refine HeadAt.take (i := 4) (.int .i64 (j : Int)) rfl (by kernel_rfl) (.inl ⟨rfl, fun _ _ => by simp [go_sem]⟩) S0 ?_
      refine HeadAt.take (i := 5) (.pointer (some ⟨br, or_ + j * 2, none⟩)) rfl (by kernel_rfl) (.inl ⟨rfl, fun w' z => ?_⟩) S0 ?_
      · (simp [go_sem, hjI, hjz])
      refine HeadAt.take (i := 6) (.agg #[.int .i64 u, .int .i64 t]) rfl (by kernel_rfl) (.inl ⟨rfl, fun w' z => ?_⟩) S0 ?_
      · (simp [go_sem, z.2.2.1, z.2.2.2])
      have hb4 := below_one (w := Y0) (.cells #[.int .i64 u, .int .i64 t] 34)
      have hcl := Cls.of_bx (Bx.new Y0 #[.int .i64 u, .int .i64 t] 34)
      have y0e := y0d.below hb4; have y1e := y1d.below hb4; have y2e := y2d.below hb4; have p6e := p6d.below hb4
      have own4e := own_below2 own4d hb4; have own6e := own_below2 own6d hb4
      have hbe := hbb.trans (hb4.mono hbb.size)
      have hse : Y0.heap.size ≤ (Y0.alloc (.cells #[.int .i64 u, .int .i64 t] 34)).heap.size := hb4.size
      have S1 := And.intro y0e (And.intro y2e (And.intro (Below.keep hbe hr1) (Below.keep hbe hr2)))
      have HS1 := hid (And.intro S1 (And.intro y1e (And.intro p6e (And.intro own4e (And.intro own6e (And.intro hbe (And.intro hcl hse)))))))
      clear y0e y1e y2e p6e own4e own6e hbe S1 S0 y0d y1d y2d p6d own4d own6d hbb hb4 hcl hse
      refine HeadAt.one (i := 7) rfl (by kernel_rfl) ?_
      generalize hK : Upto _ _ = K0
      (try simp only [Act.put, List.getElem_toArray, List.getElem_cons_succ, List.getElem_cons_zero, List.setIfInBounds_toArray, List.set_cons_succ, List.set_cons_zero])
      go_wp2_with fail
      subst hK
      obtain ⟨S1, y1, p6, own4, own6, hb, hcl, hse⟩ := HS1.out
      clear HS1
      refine ⟨S1, ?_⟩
      refine HeadAt.one (i := 8) rfl (by kernel_rfl) ?_
      generalize hK : Upto _ _ = K0
      (try simp only [List.getElem_toArray, List.getElem_cons_succ, List.getElem_cons_zero])
      go_wp2_with (at_builtin; refine wpList_appAt rfl (.tmp 25) (.tmp 31) 22 rfl (g6 + 1) 34 j0 (.agg #[.int .i64 0, .int .i64 0]) 2 16 under22 hj0 jz0 jz1 jz2 rfl (by decide) (.slice a6 k c6) k _ rfl own6 (some ⟨Y0.heap.size, 0, none⟩) 1 1 [.int .i64 u, .int .i64 t] rfl rfl hcl (by simp; exact ⟨rfl, rfl⟩) (by unfold maxLen; omega) (by omega) (by omega) ?_; intro v5 W5 hown5 hg5 hat)
      obtain ⟨a5, c5, rfl⟩ := own_slice2 hown5
      have hge6 := own_ge2 own6
      have y0f := S1.1.gb hg5 (fun k hk e => by have := hge6 k hk; omega)
      have y2f := S1.2.1.gb hg5 (fun k hk e => by have := hge6 k hk; omega)
      have y1f := y1.gb hg5 (fun k hk e => by have := hge6 k hk; omega)
      have p6f := p6.gb hg5 (fun k hk e => by have := hge6 k hk; omega)
      have own4f := own_keep own4 hg5 (fun k hk e => by have h1 := hge6 k e; have h2 := own_lt2 k hk; omega)
      have hbf := hb.grown hg5 (by have := hb.size; omega) (fun k hk => by have := hge6 k hk; omega)
      have S2 := And.intro y0f (And.intro y2f (And.intro (Below.keep hbf hr1) (Below.keep hbf hr2)))
      subst hK
      refine ⟨S2, ?_⟩
      have fr := y2f.free 0
      have kf : W5.cell? ⟨w.heap.size + 1 + 1, 0, none⟩ = some (.slice a6 k c6) := y2f.cell 0 rfl
      have gg := gset W5 ⟨w.heap.size + 1 + 1, 0, none⟩ (.slice a5 (k + 1) c5)
      have y2g : Bx (W5.setCell ⟨w.heap.size + 1 + 1, 0, none⟩ (.slice a5 (k + 1) c5)) (w.heap.size + 1 + 1) #[.slice a5 (k + 1) c5, .int .i64 p0, .int .i64 way, .int .i64 step, .slice a2 m c2] 25 := y2f.set 0 _
      have y0g := y0f.gb gg (fun k hk => by cases hk; show w.heap.size ≠ w.heap.size + 1 + 1; omega)
      have y1g := y1f.gb gg (fun k hk => by cases hk; show w.heap.size + 1 ≠ w.heap.size + 1 + 1; omega)
      have p6g := p6f.gb gg (fun k hk => by cases hk; show g6 ≠ w.heap.size + 1 + 1; omega)
      have own4g := own_keep own4f gg (fun k hk e => by have h1 := own_ge2 own4 k hk; injection e with e; have e' : w.heap.size + 1 + 1 = k := e; omega)
      have own5g := own_keep hown5 gg (fun k hk e => by have h1 := own_ge2 hown5 k hk; injection e with e; have e' : w.heap.size + 1 + 1 = k := e; omega)
      have hbg := hbf.grown gg (by have := hbf.size; omega) (fun k hk => by cases hk; show w.heap.size ≤ w.heap.size + 1 + 1; omega)
      have HP : Pl (W5.setCell ⟨w.heap.size + 1 + 1, 0, none⟩ (.slice a5 (k + 1) c5)) g6 (plcs 0 (os.take k) [0, 0, 0, 0, 0, 0]) := ⟨hp6l, p6g⟩
      have hh := gset (W5.setCell ⟨w.heap.size + 1 + 1, 0, none⟩ (.slice a5 (k + 1) c5)) ⟨g6, j, none⟩ (.int .i64 (k : Int))
      have fr6 := HP.free j
      have kf6 := HP.cell (j := j) (by omega)
      have HQ := HP.set j (k : Int)
      have hbh := hbg.grown hh (by have := hbg.size; omega) (fun k hk => by cases hk; show w.heap.size ≤ g6; omega)
      have HF := hid (show OrdR1 (g6 + 1) (w.heap.size + 1 + 1 + 1) w.heap.size g6 rs ps os (some ⟨br, or_, none⟩) ap a2 cr cp c2 n m p0 way step w (k + 1) _ from
        ⟨⟨a5, c5, by rw [HG.out.2, pcells_app]; exact own_keep own5g hh (fun k hk e => by have h1 := own_ge2 hown5 k hk; injection e with e; have e' : g6 = k := e; omega), y2g.gb hh (fun k hk => by cases hk; show w.heap.size + 1 + 1 ≠ g6; omega)⟩,
          y0g.gb hh (fun k hk => by cases hk; show w.heap.size ≠ g6; omega), y1g.gb hh (fun k hk => by cases hk; show w.heap.size + 1 ≠ g6; omega),
          by rw [HG.out.1, plcs_snoc, show (0 + (os.take k).length : Nat) = k by rw [Nat.zero_add, List.length_take]; have := HN.out; omega, Int.toNat_natCast]; exact HQ,
          own_keep own4g hh (fun k hk e => by have h2 := own_lt2 k hk; injection e with e; have e' : g6 = k := e; omega), hbh⟩)
      clear y0f y2f y1f p6f own4f hbf gg y2g y0g y1g p6g own4g own5g hbg HP hh HQ hbh hge6 hg5 hat hown5 S1 y1 p6 own4 own6 hb hcl hse
      refine HeadAt.done (by kernel_rfl) ?_
      (try simp only [List.drop_succ_cons, List.drop_zero])
      clear S2
      go_wp2_with fail
      refine NoPanic.normal ?_
      go_wp2
      go_roundw
      case rel => exact ⟨k + 1, by omega, by go_num, HF.out⟩
      case measure => simp [intOf]; omega
    · have hkn : k = n := by omega
      have hR2 : OrdR2 (g6 + 1) (w.heap.size + 1 + 1 + 1) w.heap.size g6 rs ps os a6 a2 c6 c2 n m p0 way step w 0 wr := by
        have e1 : os.take k = os := List.take_of_length_le (by have := HN.out; omega)
        have e2 : (ordR rs os).take k = ordR rs os := List.take_of_length_le (by rw [ordR_len]; have := HN.out; omega)
        rw [e1] at hp6
        rw [e2] at own6
        rw [hkn] at own6 y2
        exact ⟨y1, y2, hp6, own6, by simpa using own4, hb⟩
      have HR2 := hid hR2
      have hkI : (n : Int) ≤ (k : Int) := by omega
      have k4 := y0.cell 4 rfl
      clear hR2 y0 y1 y2 hp6 own6 own4 hb hkn
      go_wp2
      clear k4 hlt
      go_loopw [41] (fun v41 wr => ∃ i : Nat, i ≤ m ∧ v41 = .int .i64 (i : Int) ∧ OrdR2 (g6 + 1) (w.heap.size + 1 + 1 + 1) w.heap.size g6 rs ps os a6 a2 c6 c2 n m p0 way step w i wr) (fun v41 _ => m - (intOf v41).toNat)
      case atStart => exact ⟨0, Nat.zero_le _, rfl, HR2.out⟩
      case round =>
        clear HR2
        obtain ⟨i, hi, rfl, HR⟩ := hrel
        obtain ⟨y1, y2, hp6, own6, own4, hb⟩ := HR
        by_cases hlt2 : i < m
        · obtain ⟨bp, op, u, t, rfl, _, hp1, hp2, hub, htb, hpi, hpd⟩ := hP.at (show i < ps.length by rw [← HM.out]; exact hlt2)
          have hum := HPS.out (u, t) (List.mem_of_getElem? hpi.out)
          obtain ⟨q, rfl⟩ : ∃ q : Nat, u = (q : Int) := ⟨u.toNat, by have := hum.1; dsimp only at this; omega⟩
          have hq12 : q < 12 := by have := hum.2; dsimp only at this; omega
          obtain ⟨g2, cap, e2, hg2⟩ : ∃ g2 cap, Value.slice a2 m c2 = .slice (some ⟨g2, 0, none⟩) m cap ∧ w.heap.size + 1 + 1 + 1 ≤ g2 := by
            rcases own4.2 with ⟨_, h0⟩ | ⟨g2, cap, cur, e, hge, _⟩
            · omega
            · exact ⟨g2, cap, e, hge⟩
          simp only [Value.slice.injEq, true_and] at e2
          obtain ⟨rfl, rfl⟩ := e2
          have hg26 := own_lt2 g2 rfl
          have hiI : (i : Int) < (m : Int) := by omega
          have hi0' : (0 : Int) ≤ (i : Int) := by omega
          have hpw1 := Below.keep hb hp1
          have hpw2 := Below.keep hb hp2
          obtain ⟨qq, hqq⟩ : ∃ qq, qq = q / 2 := ⟨_, rfl⟩
          obtain ⟨rr, hrr⟩ : ∃ rr, rr = q % 2 := ⟨_, rfl⟩
          have hqq6 : qq < 6 := by omega
          have hrr2 : rr < 2 := by omega
          have hqqI : (qq : Int) < 6 := by omega
          have hqq0 : (0 : Int) ≤ (qq : Int) := by omega
          have hq2 : Int.tdiv (q : Int) 2 = (qq : Int) := by rw [hqq]; rfl
          have hq3 : Int.tmod (q : Int) 2 = (rr : Int) := by rw [hrr]; rfl
          have hlb := getD_bound (b := 5) (by omega) (plcs_bound (b := 5) os 0 [0, 0, 0, 0, 0, 0] (by simp) (by have := HN.out; omega)) qq
          obtain ⟨lv, hlv⟩ : ∃ lv, lv = (plc os).getD qq 0 := ⟨_, rfl⟩
          have hlb' : 0 ≤ lv ∧ lv ≤ 5 := by rw [hlv]; exact hlb
          have ew1 : IntKind.i64.wrap (qq : Int) = (qq : Int) := IntWalk.i64_in _ (by omega)
          have ew2 : IntKind.i64.wrap (2 * lv) = 2 * lv := IntWalk.i64_in _ (by omega)
          have ew3 : IntKind.i64.wrap (2 * lv + (rr : Int)) = 2 * lv + (rr : Int) := IntWalk.i64_in _ (by omega)
          have ew4 : IntKind.i64.wrap (rr : Int) = (rr : Int) := IntWalk.i64_in _ (by omega)
          have hoi : (ordP os ps)[i]? = some (2 * lv + (rr : Int), t) := by
            unfold ordP
            rw [List.getElem?_map, hpi.out]
            show some (ordP1 (plc os) ((q : Int), t)) = _
            unfold ordP1
            dsimp only
            rw [Int.toNat_natCast, ← hqq, ← hrr, ← hlv]
          have HOI := hid (And.intro hoi (And.intro hpd.out hlv))
          clear hoi hpi hpd hum hlb hlv hqq hrr
          have hb1 := below_one (w := wr) (.cells #[.int .i64 (q : Int), .int .i64 t] 40)
          have hbd := hb1.drew
          have y1d := y1.below hbd; have y2d := y2.below hbd; have p6d := hp6.below hbd
          have own6d := own_below2 own6 hbd; have own4d := own_below2 own4 hbd
          have hbb := hb.trans (hbd.mono hb.size)
          have z10 : Bx (wr.alloc (.cells #[.int .i64 (q : Int), .int .i64 t] 40)).drew wr.heap.size #[.int .i64 (q : Int), .int .i64 t] 40 := (Bx.new wr #[.int .i64 (q : Int), .int .i64 t] 40).drew
          have HX := hid (And.intro y1d (And.intro y2d (And.intro p6d (And.intro own6d (And.intro own4d (And.intro hbb z10))))))
          have hgw := hp6.2.lt
          clear hb1 hbd y1d y2d p6d own6d own4d hbb z10 y1 y2 hp6 own6 own4 hb
          go_upto_region 14 with fail
          clear hpw1 hpw2
          obtain ⟨y1, y2, hp6, own6, own4, hb, z10⟩ := HX.out
          clear HX
          obtain ⟨g10, hg10⟩ : ∃ g, g = wr.heap.size := ⟨_, rfl⟩
          rw [← hg10] at z10 hgw ⊢
          refine wp_region_head 13 (fun w' => Bx w' (w.heap.size + 1 + 1) #[.slice a6 n c6, .int .i64 p0, .int .i64 way, .int .i64 step, .slice (some ⟨g2, 0, none⟩) m c2] 25 ∧ Pl w' g6 (plc os) ∧ Bx w' g10 #[.int .i64 (q : Int), .int .i64 t] 40) (by kernel_rfl) rfl ?_
          generalize (wr.alloc (.cells #[.int .i64 (q : Int), .int .i64 t] 40)).drew = Y0 at *
          have S0 := And.intro y2 (And.intro hp6 z10)
          refine HeadAt.take (i := 0) (.pointer (some ⟨w.heap.size + 1 + 1, 4, none⟩)) rfl (by kernel_rfl) (.inl ⟨rfl, fun _ _ => by simp [go_sem]⟩) S0 ?_
          refine HeadAt.take (i := 1) (.slice (some ⟨g2, 0, none⟩) m c2) rfl (by kernel_rfl) (.inl ⟨rfl, fun w' z => ?_⟩) S0 ?_
          · (have z0 := z.1.cell 4 rfl; simp [go_sem, z0])
          refine HeadAt.take (i := 2) (.int .i64 (i : Int)) rfl (by kernel_rfl) (.inl ⟨rfl, fun _ _ => by simp [go_sem]⟩) S0 ?_
          refine HeadAt.take (i := 3) (.pointer (some ⟨g10, 0, none⟩)) rfl (by kernel_rfl) (.inl ⟨rfl, fun _ _ => by simp [go_sem]⟩) S0 ?_
          refine HeadAt.take (i := 4) (.int .i64 (q : Int)) rfl (by kernel_rfl) (.inl ⟨rfl, fun w' z => ?_⟩) S0 ?_
          · (have z0 := z.2.2.cell 0 rfl; simp [go_sem, z0])
          simp only [Act.put, List.getElem_toArray, List.getElem_cons_succ, List.getElem_cons_zero, List.setIfInBounds_toArray, List.set_cons_succ, List.set_cons_zero]
          refine HeadAt.take (i := 5) (.int .i64 (qq : Int)) rfl (by kernel_rfl) (.inl ⟨rfl, fun w' z => ?_⟩) S0 ?_
          · (simp [go_sem, hq2, ew1])
          refine HeadAt.take (i := 6) (.pointer (some ⟨g6, qq, none⟩)) rfl (by kernel_rfl) (.inl ⟨rfl, fun w' z => ?_⟩) S0 ?_
          · (simp [go_sem, hqqI, hqq0])
          refine HeadAt.take (i := 7) (.int .i64 lv) rfl (by kernel_rfl) (.inl ⟨rfl, fun w' z => ?_⟩) S0 ?_
          · (have z0 := z.2.1.cell (j := qq) hqq6; rw [← HOI.out.2.2] at z0; simp [go_sem, z0])
          simp only [Act.put, List.getElem_toArray, List.getElem_cons_succ, List.getElem_cons_zero, List.setIfInBounds_toArray, List.set_cons_succ, List.set_cons_zero]
          refine HeadAt.take (i := 8) (.int .i64 (2 * lv)) rfl (by kernel_rfl) (.inl ⟨rfl, fun w' z => ?_⟩) S0 ?_
          · (simp [go_sem, ew2])
          refine HeadAt.take (i := 9) (.pointer (some ⟨g10, 0, none⟩)) rfl (by kernel_rfl) (.inl ⟨rfl, fun _ _ => by simp [go_sem]⟩) S0 ?_
          refine HeadAt.take (i := 10) (.int .i64 (q : Int)) rfl (by kernel_rfl) (.inl ⟨rfl, fun w' z => ?_⟩) S0 ?_
          · (have z0 := z.2.2.cell 0 rfl; simp [go_sem, z0])
          simp only [Act.put, List.getElem_toArray, List.getElem_cons_succ, List.getElem_cons_zero, List.setIfInBounds_toArray, List.set_cons_succ, List.set_cons_zero]
          refine HeadAt.take (i := 11) (.int .i64 (rr : Int)) rfl (by kernel_rfl) (.inl ⟨rfl, fun w' z => ?_⟩) S0 ?_
          · (simp [go_sem, hq3])
          refine HeadAt.take (i := 12) (.int .i64 (2 * lv + (rr : Int))) rfl (by kernel_rfl) (.inl ⟨rfl, fun w' z => ?_⟩) S0 ?_
          · (simp [go_sem, ew3])
          refine HeadAt.done (by kernel_rfl) ?_
          (try simp only [Act.put, List.drop_succ_cons, List.drop_zero, List.getElem_toArray, List.getElem_cons_succ, List.getElem_cons_zero])
          clear S0 ew1 ew2 ew3 ew4 hq2 hq3
          have hA : ((ordP os ps).take i).length = i := by rw [List.length_take, ordP_len]; have := HM.out; omega
          have fr := own4.frozenAt (i * 2)
          have kc : Y0.cell? ⟨g2, i * 2, none⟩ = some (.int .i64 (q : Int)) := by
            have h := World.ownsRow.cellAt own4 (i * 2) (by omega)
            rw [h, HOI.out.2.1]
            exact pcells_get _ _ _ hA
          obtain ⟨own4s, gs⟩ := own4.stored (i * 2) (.int .i64 (2 * lv + (rr : Int)))
          have HF := hid (show OrdR2 (g6 + 1) (w.heap.size + 1 + 1 + 1) w.heap.size g6 rs ps os a6 (some ⟨g2, 0, none⟩) c6 c2 n m p0 way step w (i + 1) _ from
            ⟨y1.gb gs (fun k hk => by cases hk; omega), y2.gb gs (fun k hk => by cases hk; omega), ⟨hp6.1, hp6.2.gb gs (fun k hk => by cases hk; omega)⟩,
              own_keep own6 gs (fun k hk e => by have h1 := own_ge2 own6 k hk; injection e with e; omega),
              by rw [take_snocI HOI.out.1, List.append_assoc]; rw [HOI.out.2.1, pcells_put _ _ _ _ hA] at own4s; exact own4s,
              hb.grown gs (by have := hb.size; omega) (fun k hk => by cases hk; omega)⟩)
          clear own4s gs y1 y2 hp6 own6 own4 hb z10 hA
          go_wp2_with fail
          refine NoPanic.normal ?_
          go_wp2
          go_roundw
          case rel => exact ⟨i + 1, by omega, by go_num, HF.out⟩
          case measure => simp [intOf]; omega
        · have hin : i = m := by omega
          have hiI : (m : Int) ≤ (i : Int) := by omega
          have own4' : wr.ownsRow (w.heap.size + 1 + 1 + 1) 40 2 (.slice a2 m c2) m (pcells (ordP os ps)) := by
            have e1 : (ordP os ps).take i ++ ps.drop i = ordP os ps := by
              rw [List.take_of_length_le (by rw [ordP_len]; have := HM.out; omega), List.drop_eq_nil_iff.2 (by have := HM.out; omega), List.append_nil]
            rw [e1] at own4; exact own4
          have kk0 := y2.cell 0 rfl; have kk1 := y2.cell 1 rfl; have kk2 := y2.cell 2 rfl; have kk3 := y2.cell 3 rfl; have kk4 := y2.cell 4 rfl
          have d0 := y1.free 0; have d1 := y1.free 1; have d2 := y1.free 2; have d3 := y1.free 3; have d4 := y1.free 4
          have e0 := y1.cell 0 rfl; have e1 := y1.cell 1 rfl; have e2 := y1.cell 2 rfl; have e3 := y1.cell 3 rfl; have e4 := y1.cell 4 rfl
          have g5 := gset5 wr (w.heap.size + 1) (.slice a6 n c6) (.int .i64 p0) (.int .i64 way) (.int .i64 step) (.slice a2 m c2)
          have y1' := y1.set5 (.slice a6 n c6) (.int .i64 p0) (.int .i64 way) (.int .i64 step) (.slice a2 m c2)
          have r0 := y1'.cell 0 rfl; have r1 := y1'.cell 1 rfl; have r2 := y1'.cell 2 rfl; have r3 := y1'.cell 3 rfl; have r4 := y1'.cell 4 rfl
          have hbz := hb.grown g5 (by have := hb.size; omega) (fun k hk => by cases hk; omega)
          have o6 := own_keep own6 g5 (fun k hk e => by have h1 := own_ge2 own6 k hk; injection e with e; omega)
          have o4 := own_keep own4' g5 (fun k hk e => by have h1 := own_ge2 own4 k hk; injection e with e; omega)
          have hro : (ordR rs os).length = n := by rw [ordR_len]; exact HN.out.symm
          have hpo : (ordP os ps).length = m := by rw [ordP_len]; exact HM.out.symm
          have hfin : ∃ (a1 a2' : Option Addr) (c1 c2' : Nat), Value.slice a6 n c6 = .slice a1 (ordR rs os).length c1 ∧ Value.slice a2 m c2 = .slice a2' (ordP os ps).length c2' ∧ Prs (((((wr.setCell ⟨w.heap.size + 1, 0, none⟩ (.slice a6 n c6)).setCell ⟨w.heap.size + 1, 1, none⟩ (.int .i64 p0)).setCell ⟨w.heap.size + 1, 2, none⟩ (.int .i64 way)).setCell ⟨w.heap.size + 1, 3, none⟩ (.int .i64 step)).setCell ⟨w.heap.size + 1, 4, none⟩ (.slice a2 m c2)) a1 (ordR rs os) ∧ Prs (((((wr.setCell ⟨w.heap.size + 1, 0, none⟩ (.slice a6 n c6)).setCell ⟨w.heap.size + 1, 1, none⟩ (.int .i64 p0)).setCell ⟨w.heap.size + 1, 2, none⟩ (.int .i64 way)).setCell ⟨w.heap.size + 1, 3, none⟩ (.int .i64 step)).setCell ⟨w.heap.size + 1, 4, none⟩ (.slice a2 m c2)) a2' (ordP os ps) := by
            obtain ⟨a1, c1, h1, h2⟩ := Prs.of_own (by rw [hro]; exact o6) (by omega) (fun x hx => by
              obtain ⟨y, hy, rfl⟩ := List.mem_map.1 hx
              rw [List.getD_eq_getElem?_getD]
              cases h : rs[y.toNat]? with
              | none => simp
              | some z => exact hR.2.1 z (List.mem_of_getElem? h))
            obtain ⟨a3, c3, h3, h4⟩ := Prs.of_own (by rw [hpo]; exact o4) (by omega) (fun x hx => by
              obtain ⟨y, hy, rfl⟩ := List.mem_map.1 hx
              have hlb := getD_bound (b := 5) (by omega) (plcs_bound (b := 5) os 0 [0, 0, 0, 0, 0, 0] (by simp) (by have := HN.out; omega)) (y.1.toNat / 2)
              have hy2 := hP.2.1 y hy
              unfold ordP1 plc
              dsimp only
              omega)
            exact ⟨a1, a3, c1, c3, h1, h3, h2, h4⟩
          have HE := hid (And.intro hbz hfin)
          clear hbz hfin o6 o4 hro hpo own4' own6 own4 y1 y2 y1' g5 hp6 hb hin
          go_wp2
          obtain ⟨a1, a3, c1, c3, h1, h3, h2, h4⟩ := HE.out.2
          refine bodyPost_ret (v := .agg #[.slice a6 n c6, .int .i64 p0, .int .i64 way, .int .i64 step, .slice a2 m c2]) ?_ rfl ⟨HE.out.1, a1, a3, c1, c3, by rw [h1, h3], h2, h4⟩
          simp [results, Try.results81, go_sem, r0, r1, r2, r3, r4]
end Go.Proofs.Ytknaljghpfeikaa
