import Derived.Test.YtipdohpbilabiaaV8
/-! Copies of the stock; a visit with one more copy. -/
namespace Go.Proofs.Ytipdohpbilabiaa
set_option linter.unusedSimpArgs false
set_option linter.unusedVariables false
open Go Go.RowKit

theorem own_base {w : World} {base base' size : Nat} {e : TypeId} {v : Value} {n : Nat} {xs : List Value} (h : w.ownsRow base e size v n xs) (hb : base' ≤ base) : w.ownsRow base' e size v n xs := by
  refine ⟨h.1, ?_⟩
  rcases h.2 with h' | ⟨g, cap, cur, h1, h2, h3⟩
  · exact .inl h'
  · exact .inr ⟨g, cap, cur, h1, by omega, h3⟩
theorem own_keep {w w' : World} {base size : Nat} {e : TypeId} {v : Value} {n : Nat} {xs : List Value} {r : Option Nat} (h : w.ownsRow base e size v n xs) (hg : w.grownBy w' r) (hne : ∀ k, v.ownBlock = some k → r ≠ some k) : w'.ownsRow base e size v n xs := by
  refine h.kept hg ?_
  cases hv : v.ownBlock with
  | none => exact .inl rfl
  | some k => exact .inr fun e => hne k hv e.symm
theorem gset (w : World) (a : Addr) (v : Value) : w.grownBy (w.setCell a v) (some a.block) :=
  ⟨rfl, rfl, rfl, by simp [World.setCell], fun k _ hk => Below.heap_setCell _ _ _ _ (fun e => hk (by rw [e]))⟩
theorem Bx.gb {w w' : World} {b : Nat} {vs : Array Value} {T : TypeId} {row : Option Nat} (h : Bx w b vs T) (hg : w.grownBy w' row) (hne : ∀ k, row = some k → b ≠ k) : Bx w' b vs T := by
  have := hg.block b h.lt (fun e => hne b e.symm rfl)
  unfold Bx at *; rw [this]; exact h
def ClonePost (ks : List Int) (w : World) (e : Ending) (w' : World) : Prop := Below w.heap.size w w' ∧ ∃ v : Value, e = .returned v ∧ w'.ownsRow w.heap.size 3 1 v ks.length (ks.map (Value.int .i64))
theorem ints_none {w : World} {ks : List Int} (h : Ints w none ks) : ks = [] := by
  match ks, h with
  | [], _ => rfl
  | k :: ks, h =>
    obtain ⟨b, off, e, _⟩ := h.2.2 0 (by simp)
    cases e

set_option maxRecDepth 100000 in
set_option maxHeartbeats 1000000 in
theorem cloneI_any (a : Option Addr) (ca : Nat) (ks : List Int) (w : World) (hX : Ints w a ks) (hl : ks.length ≤ 1000) :
    Calls Try.prog 88 #[.slice a ks.length ca] w (ClonePost ks w) := by
  obtain ⟨j0, hj, jz0, jz1, jz2⟩ := info_parts info3i
  rcases a with _ | ad
  · have hk := ints_none hX
    subst hk
    have hE : ∀ w, (binOp .eql 23 (.slice none 0 ca) (.slice none 0 0)).run Try.prog w = .ok (.bool true) w := fun w => Lib.run_eql_slice_nil w 23 3 none 0 ca 0 0 under23
    go_enter Try.func88, Try.ntmps88
    go_wp2
    go_ret
    exact ⟨Below.refl _ _, _, rfl, World.ownsRow_nil _ _ _ _⟩
  · have hown := own_lit0 w 3 1
    have hb1 := below_one (w := w) (.cells #[] 3)
    have hcl := (hX.below hb1 (Nat.le_refl _)).cls
    generalize hn : ks.length = n at *
    have hE : ∀ w, (binOp .eql 23 (.slice (some ad) n ca) (.slice none 0 0)).run Try.prog w = .ok (.bool false) w := fun w => Lib.run_eql_slice_nil w 23 3 (some ad) n ca 0 0 under23
    go_enter Try.func88, Try.ntmps88
    go_wp2_with (at_builtin; refine wpList_app rfl (.tmp 5) (.tmp 6) 23 rfl w.heap.size 3 j0 (.int .i64 0) 1 8 under23 hj jz0 jz1 jz2 rfl (by decide) _ 0 [] rfl hown (some ad) n ca (ks.map (Value.int .i64)) rfl (by simp [hn]) hcl (ints_one ks) (by unfold maxLen; omega) (by omega) (by simp) ?_; intro v1 W3 hown' hg)
    have hb2 := hb1.grown hg (by simp) (own_ge hown)
    clear hown hb1 hcl hg
    go_wp2
    go_ret
    exact ⟨hb2, _, rfl, by rw [hn]; simpa using hown'⟩
end Go.Proofs.Ytipdohpbilabiaa
