import Derived.Test.YtipdohpbilabiaaN4
/-! The lists of a plan; Plan. -/
namespace Go.Proofs.Ytipdohpbilabiaa
set_option linter.unusedSimpArgs false
set_option linter.unusedVariables false
open Go Go.RowKit

def bitL (t : Nat) : List Int := (bitsOf t).map fun (i : Nat) => (i : Int)
/-- The lists of a plan. -/
def listsL (p : Pl) (n : Nat) : List (List Int) := (List.range n).map fun k => bitL (p.get k)
/-- What the rows hold while the lists are made. -/
def lrow (p : Pl) (k : Nat) (pre : List Nat) (j : Nat) : List Int := if j < k then bitL (p.get j) else if j = k then pre.map (fun (i : Nat) => (i : Int)) else []
def nilS : Value := .slice none 0 0
theorem made_nils (n : Nat) : (madeCells (Value.slice none 0 0).cells (n * 1)).toList.toArray = (List.replicate n (Value.slice none 0 0)).toArray := by
  congr 1
  have e : ∀ x : Nat, (Value.slice none 0 0).cells[x % (Value.slice none 0 0).cells.size]! = .slice none 0 0 := fun x => by
    have : x % (Value.slice none 0 0).cells.size = 0 := Nat.mod_one x
    rw [this]; rfl
  simp only [madeCells, Nat.mul_one]
  refine List.ext_getElem (by simp) fun i h1 h2 => ?_
  simp [e]
theorem make_rows (n : Nat) (hn : n ≤ 1000) (w : World) : (Instr.makeSlice 22 (.int .i64 (n : Int)) (.int .i64 (n : Int))).run Try.prog w = .ok (.slice (some ⟨w.heap.size, 0, none⟩) n n) (w.alloc (.cells (List.replicate n (Value.slice none 0 0)).toArray 23)) := by
  obtain ⟨i0, hi, hz0, hz1, hz2⟩ := info_parts info23
  have h := run_makeSlice (P := Try.prog) (w := w) 22 23 i0 (.slice none 0 0) under22 hi hz0 .i64 .i64 (n : Int) (n : Int) (by omega) (Int.le_refl _) (by rw [hz1]; simp; omega) (by rw [hz2]; omega) (by omega)
  rw [hz1, Int.toNat_natCast] at h
  rw [h, ← made_nils n]

/-- The world while lists runs. -/
structure LiW (w : World) (s0 : Nat) (p : Pl) (n : Nat) (vs : List Value) (R : Nat → List Int) (wr : World) : Prop where
  x0 : Bx wr s0 #[.int .u8 (p.a : Int), .int .u8 (p.b : Int), .int .u8 (p.c : Int)] 70
  x1 : Bx wr (s0 + 1) vs.toArray 23
  x2 : Bx wr (s0 + 2) #[.slice (some ⟨s0 + 1, 0, none⟩) n n] 22
  hb : Below s0 w wr
  len : vs.length = n
  row : ∀ j, j < n → wr.ownsRow (s0 + 3) 3 1 (vs.getD j nilS) (R j).length ((R j).map (Value.int .i64))
  dis : ∀ i j g, i < n → j < n → i ≠ j → (vs.getD i nilS).ownBlock = some g → (vs.getD j nilS).ownBlock ≠ some g
theorem LiW.sta {w : World} {s0 : Nat} {p : Pl} {n : Nat} {vs : List Value} {R : Nat → List Int} {W W' : World} (h : LiW w s0 p n vs R W) {B : Nat} (hB : s0 + 3 ≤ B) (hW : B ≤ W.heap.size) (hne : ∀ j g, j < n → (vs.getD j nilS).ownBlock = some g → g ≠ B ∧ g ≠ B + 1) (hs : Sta B W W') : LiW w s0 p n vs R W' := by
  have hb := hs.below hW
  have f : ∀ {b : Nat} {vs : Array Value} {T : TypeId}, Bx W b vs T → b < s0 + 3 → Bx W' b vs T := fun hx hlt => by
    unfold Bx at *; rw [hb.block _ (by omega)]; exact hx
  refine ⟨f h.x0 (by omega), f h.x1 (by omega), f h.x2 (by omega), h.hb.trans (hb.mono (by omega)), h.len, fun j hj => own_heap (h.row j hj) (fun g hg => ?_), h.dis⟩
  obtain ⟨n1, n2⟩ := hne j g hj hg
  exact hs.block g ((h.row j hj).lt g hg).2 n1 n2
theorem getD_set_eq (vs : List Value) {k : Nat} (hk : k < vs.length) (v d : Value) : (vs.set k v).getD k d = v := by simp [List.getD, hk]
theorem getD_set_ne (vs : List Value) {j k : Nat} (h : j ≠ k) (v d : Value) : (vs.set k v).getD j d = vs.getD j d := by simp [List.getD, List.getElem?_set_ne (Ne.symm h)]
/-- One more number in a row. -/
theorem LiW.put {w W W3 : World} {s0 B b6 n m k : Nat} {p : Pl} {vs : List Value} {R R' : Nat → List Int} {x : Int} {a0 a3 : Option Addr} {c0 c3 : Nat} {ds : List Deferred} (h : LiW w s0 p n vs R W) (hk : k < n) (hv : vs.getD k nilS = .slice a0 m c0) (hm : m = (R k).length) (i3 : Bx W b6 #[.int .i64 (k : Int)] 3) (hb6 : s0 + 3 ≤ b6 ∧ ∀ j g, j < n → (vs.getD j nilS).ownBlock = some g → g ≠ b6) (i4 : Marks (s0 + 3) W ds)
    (i5 : ∀ j g, j < n → (vs.getD j nilS).ownBlock = some g → g ≠ B ∧ g ≠ B + 1) (hB : b6 < B) (hW : B + 2 ≤ W.heap.size)
    (hown3 : W3.ownsRow (s0 + 3) 3 1 (.slice a3 (m + 1) c3) (m + 1) ((R k).map (Value.int .i64) ++ [.int .i64 x])) (hg3 : (W.alloc (.cells #[.int .i64 x] 3)).grownBy W3 (Value.slice a0 m c0).ownBlock)
    (hat : (Value.slice a3 (m + 1) c3).ownBlock = (Value.slice a0 m c0).ownBlock ∨ (Value.slice a3 (m + 1) c3).ownBlock = some (W.alloc (.cells #[.int .i64 x] 3)).heap.size)
    (hR1 : R' k = R k ++ [x]) (hR2 : ∀ j, j ≠ k → R' j = R j) :
    Kep s0 B W (W3.setCell ⟨s0 + 1, k, none⟩ (.slice a3 (m + 1) c3)) ∧ B ≤ W3.heap.size ∧
      LiW w s0 p n (vs.set k (.slice a3 (m + 1) c3)) R' (W3.setCell ⟨s0 + 1, k, none⟩ (.slice a3 (m + 1) c3)) ∧ Bx (W3.setCell ⟨s0 + 1, k, none⟩ (.slice a3 (m + 1) c3)) b6 #[.int .i64 (k : Int)] 3 ∧
      Marks (s0 + 3) (W3.setCell ⟨s0 + 1, k, none⟩ (.slice a3 (m + 1) c3)) ds ∧ (∀ j g, j < n → ((vs.set k (.slice a3 (m + 1) c3)).getD j nilS).ownBlock = some g → g ≠ B ∧ g ≠ B + 1) ∧ ∀ j g, j < n → ((vs.set k (.slice a3 (m + 1) c3)).getD j nilS).ownBlock = some g → g ≠ b6 := by
  have hown := h.row k hk
  rw [hv, ← hm] at hown
  have hbW := below_one (w := W) (.cells #[.int .i64 x] 3)
  have hge := own_ge2 hown
  have hge3 := own_ge2 hown3
  have hgc := own_cells hown
  have hlt := fun g (h : (Value.slice a0 m c0).ownBlock = some g) => (hown.lt g h).2
  have hsz3 := hg3.size
  have hsA : (W.alloc (.cells #[.int .i64 x] 3)).heap.size = W.heap.size + 1 := by simp
  rw [hsA] at hsz3 hat
  have i5k : ∀ q, (Value.slice a0 m c0).ownBlock = some q → q ≠ B ∧ q ≠ B + 1 := fun q hq => i5 k q hk (by rw [hv]; exact hq)
  have b6k : ∀ q, (Value.slice a0 m c0).ownBlock = some q → q ≠ b6 := fun q hq => hb6.2 k q hk (by rw [hv]; exact hq)
  have hdk : ∀ j g, j < n → j ≠ k → (vs.getD j nilS).ownBlock = some g → (Value.slice a0 m c0).ownBlock ≠ some g := fun j g hj hne hg => by
    have := h.dis j k g hj hk hne hg
    rw [hv] at this
    exact this
  have hlj : ∀ j g, j < n → (vs.getD j nilS).ownBlock = some g → g < W.heap.size := fun j g hj hg => ((h.row j hj).lt g hg).2
  have hgj : ∀ j g, j < n → (vs.getD j nilS).ownBlock = some g → s0 + 3 ≤ g := fun j g hj hg => own_ge2 (h.row j hj) g hg
  have hlen := h.len
  refine ⟨((Kep.of_below hbW (by omega)).trans (Kep.grown hg3 (by omega) (fun q hq => by have := hge q hq; have := i5k q hq; omega))).trans (Kep.set (by show s0 ≤ s0 + 1; omega) (by show s0 + 1 ≠ B; omega) (by show s0 + 1 ≠ B + 1; omega) _), by omega, ⟨?_, ?_, ?_, ?_, ?_, ?_, ?_⟩, ?_, ?_, ?_, ?_⟩
  · exact ((h.x0.below hbW).gb hg3 (fun q hq => by have := hge q hq; omega)).other (by show s0 ≠ s0 + 1; omega) _
  · have := ((h.x1.below hbW).gb hg3 (fun q hq => by have := hge q hq; omega)).set k (.slice a3 (m + 1) c3)
    simpa using this
  · exact ((h.x2.below hbW).gb hg3 (fun q hq => by have := hge q hq; omega)).other (by show s0 + 2 ≠ s0 + 1; omega) _
  · exact (((h.hb.trans (hbW.mono (by omega))).trans ((Kep.grown (n0 := s0) (B := B) hg3 (by omega) (fun q hq => by have := hge q hq; have := i5k q hq; omega)).below)).setCell (by show s0 ≤ s0 + 1; omega) _)
  · rw [List.length_set]; exact hlen
  · intro j hj
    by_cases e : j = k
    · subst e
      rw [getD_set_eq vs (by omega), hR1]
      have e2 : (R j ++ [x]).length = m + 1 := by rw [List.length_append, ← hm]; rfl
      rw [e2, List.map_append]
      exact own_keep hown3 (gset _ _ _) (fun q hq e => by have := hge3 q hq; have e' : s0 + 1 = q := (by simpa using e); omega)
    · rw [getD_set_ne vs e, hR2 j e]
      have h1 := own_below2 (h.row j hj) hbW
      have h2 := own_keep h1 hg3 (fun q hq => hdk j q hj e hq)
      exact own_keep h2 (gset _ _ _) (fun q hq e => by have := hgj j q hj hq; have e' : s0 + 1 = q := (by simpa using e); omega)
  · intro i j g hi hj hne hgi hgj2
    by_cases ei : i = k
    · subst ei
      rw [getD_set_eq vs (by omega)] at hgi
      rw [getD_set_ne vs (fun e => hne e.symm)] at hgj2
      rcases hat with e | e
      · exact hdk j g hj (fun e => hne e.symm) hgj2 (by rw [← e]; exact hgi)
      · rw [e] at hgi; cases hgi; have := hlj j _ hj hgj2; omega
    · rw [getD_set_ne vs ei] at hgi
      by_cases ej : j = k
      · subst ej
        rw [getD_set_eq vs (by omega)] at hgj2
        rcases hat with e | e
        · exact hdk i g hi ei hgi (by rw [← e]; exact hgj2)
        · rw [e] at hgj2; cases hgj2; have := hlj i _ hi hgi; omega
      · rw [getD_set_ne vs ej] at hgj2
        exact h.dis i j g hi hj hne hgi hgj2
  · exact ((i3.below hbW).gb hg3 (fun q hq => Ne.symm (b6k q hq))).other (by show b6 ≠ s0 + 1; omega) _
  · refine Marks.set ((i4.below hbW).grown hg3 (fun q hq => ?_)) (by show s0 + 1 < s0 + 3; omega) _
    obtain ⟨cur, hc⟩ := hgc q hq
    exact ⟨cur, 3, (hbW.block q (hlt q hq)).trans hc⟩
  · intro j g hj hg
    by_cases e : j = k
    · subst e
      rw [getD_set_eq vs (by omega)] at hg
      rcases hat with e | e
      · exact i5k g (e ▸ hg)
      · rw [e] at hg; cases hg; omega
    · rw [getD_set_ne vs e] at hg
      exact i5 j g hj hg
  · intro j g hj hg
    by_cases e : j = k
    · subst e
      rw [getD_set_eq vs (by omega)] at hg
      rcases hat with e | e
      · exact b6k g (e ▸ hg)
      · rw [e] at hg; cases hg; omega
    · rw [getD_set_ne vs e] at hg
      exact hb6.2 j g hj hg
end Go.Proofs.Ytipdohpbilabiaa
