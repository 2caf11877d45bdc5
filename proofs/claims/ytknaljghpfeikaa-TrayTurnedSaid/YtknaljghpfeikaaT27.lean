import Derived.Test.YtknaljghpfeikaaT26
namespace Go.Proofs.Ytknaljghpfeikaa
open Go.RowKit
theorem under35 : Try.prog.underlying 35 = some (.slice 3) := by kernel_rfl
theorem info3i : (Try.prog.info? 3).map (fun i => (i.zero, i.size, i.bytes)) = some (some (.int .i64 0), 1, 8) := by kernel_rfl
def ClonePost (ks : List Int) (w : World) (e : Ending) (w' : World) : Prop := Below w.heap.size w w' ∧ ∃ v : Value, e = .returned v ∧ w'.ownsRow w.heap.size 3 1 v ks.length (ks.map (Value.int .i64))
theorem ints_none {w : World} {ks : List Int} (h : Ints w none ks) : ks = [] := by
  match ks, h with
  | [], _ => rfl
  | k :: ks, h =>
    obtain ⟨b, off, e, _⟩ := h.2.2 0 (by simp)
    cases e

set_option maxRecDepth 100000 in
set_option maxHeartbeats 1000000 in
theorem cloneI_any (a : Option Addr) (ca : Nat) (ks : List Int) (w : World) (hX : Ints w a ks) (hl : ks.length ≤ 1000) :
    Calls Try.prog 82 #[.slice a ks.length ca] w (ClonePost ks w) := by
  obtain ⟨j0, hj, jz0, jz1, jz2⟩ := info_parts info3i
  rcases a with _ | ad
  · have hk := ints_none hX
    subst hk
    have hE : ∀ w, (binOp .eql 35 (.slice none 0 ca) (.slice none 0 0)).run Try.prog w = .ok (.bool true) w := fun w => Lib.run_eql_slice_nil w 35 3 none 0 ca 0 0 under35
    go_enter Try.func82, Try.ntmps82
    go_wp2
    go_ret
    exact ⟨Below.refl _ _, _, rfl, World.ownsRow_nil _ _ _ _⟩
  · have hown := own_lit0 w 3 1
    have hb1 := below_one (w := w) (.cells #[] 3)
    have hcl := (hX.below hb1 (Nat.le_refl _)).cls
    generalize hn : ks.length = n at *
    have hE : ∀ w, (binOp .eql 35 (.slice (some ad) n ca) (.slice none 0 0)).run Try.prog w = .ok (.bool false) w := fun w => Lib.run_eql_slice_nil w 35 3 (some ad) n ca 0 0 under35
    go_enter Try.func82, Try.ntmps82
    go_wp2_with (at_builtin; refine wpList_app rfl (.tmp 5) (.tmp 6) 35 rfl w.heap.size 3 j0 (.int .i64 0) 1 8 under35 hj jz0 jz1 jz2 rfl (by decide) _ 0 [] rfl hown (some ad) n ca (ks.map (Value.int .i64)) rfl (by simp [hn]) hcl (ints_one ks) (by unfold maxLen; omega) (by omega) (by simp) ?_; intro v1 W3 hown' hg)
    have hb2 := hb1.grown hg (by simp) (own_ge hown)
    clear hown hb1 hcl hg
    go_wp2
    go_ret
    exact ⟨hb2, _, rfl, by rw [hn]; simpa using hown'⟩

end Go.Proofs.Ytknaljghpfeikaa
