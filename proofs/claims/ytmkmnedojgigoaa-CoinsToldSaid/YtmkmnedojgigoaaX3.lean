import Derived.Test.YtmkmnedojgigoaaX2
import Derived.Lib.SliceRun
namespace Go.Proofs.Ytmkmnedojgigoaa
open Go.RowKit

def ClonePost (ks : List Int) (w : World) (e : Ending) (w' : World) : Prop := Below w.heap.size w w' ∧ ∃ v : Value, e = .returned v ∧ w'.ownsRow w.heap.size 3 1 v ks.length (ks.map (Value.int .i64))
theorem ints_none {w : World} {ks : List Int} (h : Ints w none ks) : ks = [] := by
  match ks, h with
  | [], _ => rfl
  | k :: ks, h =>
    obtain ⟨b, off, e, _⟩ := h.2.2 0 (by simp)
    cases e

set_option maxRecDepth 100000 in
set_option maxHeartbeats 1000000 in
theorem clone_any (a : Option Addr) (ca : Nat) (ks : List Int) (w : World) (hX : Ints w a ks) (hl : ks.length ≤ 1000) :
    Calls Try.prog 118 #[.slice a ks.length ca] w (ClonePost ks w) := by
  obtain ⟨j0, hj, jz0, jz1, jz2⟩ := info_parts info3
  rcases a with _ | ad
  · have hk := ints_none hX
    subst hk
    have hE : ∀ w, (binOp .eql 22 (.slice none 0 ca) (.slice none 0 0)).run Try.prog w = .ok (.bool true) w := fun w => Lib.run_eql_slice_nil w 22 3 none 0 ca 0 0 under22
    go_enter Try.func118, Try.ntmps118
    go_wp2
    go_ret
    exact ⟨Below.refl _ _, _, rfl, World.ownsRow_nil _ _ _ _⟩
  · have hown := own_lit0 w 3 1
    have hb1 := below_one (w := w) (.cells #[] 3)
    have hcl := (hX.below hb1 (Nat.le_refl _)).cls
    generalize hn : ks.length = n at *
    have hE : ∀ w, (binOp .eql 22 (.slice (some ad) n ca) (.slice none 0 0)).run Try.prog w = .ok (.bool false) w := fun w => Lib.run_eql_slice_nil w 22 3 (some ad) n ca 0 0 under22
    go_enter Try.func118, Try.ntmps118
    go_wp2_with (at_builtin; refine wpList_app rfl (.tmp 5) (.tmp 6) 22 rfl w.heap.size 3 j0 (.int .i64 0) 1 8 under22 hj jz0 jz1 jz2 rfl (by decide) _ 0 [] rfl hown (some ad) n ca (ks.map (Value.int .i64)) rfl (by simp [hn]) hcl (ints_one ks) (by unfold maxLen; omega) (by omega) (by simp) ?_; intro v1 W3 hown' hg)
    have hb2 := hb1.grown hg (by simp) (own_ge hown)
    clear hown hb1 hcl hg
    go_wp2
    go_ret
    exact ⟨hb2, _, rfl, by rw [hn]; simpa using hown'⟩

/-- A list of n kinds, whose memory is not that of a row. -/
def HdOk (w : World) (C : List Int) (n : Nat) (own : Option Nat) (x : Value) : Prop :=
  ∃ (a : Option Addr) (c : Nat) (ks : List Int), x = .slice a n c ∧ Ints w a ks ∧ ks.length = n ∧ ks.all (isKindB C) = true ∧ ∀ ad, a = some ad → own ≠ some ad.block
/-- m lists of n kinds each. -/
def LLs (w : World) (A : Option Addr) (m n : Nat) (C : List Int) : Prop :=
  ∀ i, i < m → ∃ b off, A = some ⟨b, off, none⟩ ∧ b < w.heap.size ∧ ∃ (a : Option Addr) (c : Nat) (ks : List Int), w.cell? ⟨b, off + i, none⟩ = some (.slice a n c) ∧ Ints w a ks ∧ ks.length = n ∧ ks.all (isKindB C) = true
theorem LLs.below {w w' : World} {A : Option Addr} {m n : Nat} {C : List Int} (h : LLs w A m n C) (hb : Below w.heap.size w w') : LLs w' A m n C := fun i hi => by
  obtain ⟨b, off, h1, h2, a, c, ks, h3, h4, h5, h6⟩ := h i hi
  exact ⟨b, off, h1, Nat.lt_of_lt_of_le h2 hb.size, a, c, ks, Below.keep hb h3, h4.below hb (Nat.le_refl _), h5, h6⟩
theorem LLs.below' {w w' : World} {A : Option Addr} {m n : Nat} {C : List Int} (h : LLs w A m n C) {B : Nat} (hb : Below B w w') (hB : w.heap.size ≤ B := by exact Nat.le_refl _) : LLs w' A m n C := by
  exact h.below (hb.mono hB)
theorem Below.gr' {w w' : World} (h : Below w.heap.size w w') : w.grownBy w' none := ⟨h.os, h.tape, h.output, h.size, fun k hk _ => h.block k hk⟩
theorem Ints.gro {w w' : World} {r : Option Nat} {a : Option Addr} {xs : List Int} (h : Ints w a xs) (hg : w.grownBy w' r) (hne : ∀ ad, a = some ad → r ≠ some ad.block) : Ints w' a xs := by
  refine ⟨h.1, h.2.1, fun i hi => ?_⟩
  obtain ⟨b, off, ha, hb, hc⟩ := h.2.2 i hi
  refine ⟨b, off, ha, Nat.lt_of_lt_of_le hb hg.size, ?_⟩
  have hk := hg.block b hb (fun e => hne _ ha (by first | exact e | exact e.symm))
  rw [← hc]
  unfold World.cell?
  simp only [hk]
theorem HdOk.gro {w w' : World} {C : List Int} {n : Nat} {own own' r : Option Nat} {x : Value} (h : HdOk w C n own x) (hn : 1 ≤ n) (hg : w.grownBy w' r) (hr : ∀ k, r = some k → own = some k) (ho : own' = own ∨ ∃ k, own' = some k ∧ w.heap.size ≤ k) : HdOk w' C n own' x := by
  obtain ⟨a, c, ks, h1, h2, h3, h4, h5⟩ := h
  refine ⟨a, c, ks, h1, h2.gro hg (fun ad e h => h5 ad e (hr _ h)), h3, h4, fun ad e h => ?_⟩
  rcases ho with rfl | ⟨k, rfl, hk⟩
  · exact h5 ad e h
  · cases h
    obtain ⟨b, off, e2, hb, _⟩ := h2.2.2 0 (by omega)
    rw [e] at e2
    cases e2
    simp at hk; omega
end Go.Proofs.Ytmkmnedojgigoaa
