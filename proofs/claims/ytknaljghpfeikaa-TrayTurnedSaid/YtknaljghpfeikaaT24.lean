import Derived.Test.YtknaljghpfeikaaT23
import Derived.Lib.SliceRun
namespace Go.Proofs.Ytknaljghpfeikaa
open Go.RowKit

theorem Prs.empty {w : World} {ps : List (Int × Int)} (h : Prs w none ps) : ps = [] := by
  cases ps with
  | nil => rfl
  | cons p l =>
    obtain ⟨_, _, h3⟩ := h
    obtain ⟨b, off, e, _⟩ := h3 0 (by simp)
    cases e

set_option maxRecDepth 100000 in
set_option maxHeartbeats 4000000 in
/-- slices.Clone of a row of presses. -/
theorem clone_any (ap : Option Addr) (cp : Nat) (ps : List (Int × Int)) (w : World) (hP : Prs w ap ps) (hl : ps.length ≤ 100000) :
    Calls Try.prog 93 #[.slice ap ps.length cp] w fun e w' => ∃ a cv, e = .returned (.slice a ps.length cv) ∧ Prs w' a ps ∧ Below w.heap.size w w' ∧ (∀ ad, a = some ad → w.heap.size ≤ ad.block) := by
  obtain ⟨i0, hi0, iz0, iz1, iz2⟩ := info_parts info40
  rcases ap with _ | ad
  · have h0 := hP.empty
    subst h0
    have hE : ∀ w, (binOp .eql 23 (.slice none 0 cp) (.slice none 0 0)).run Try.prog w = .ok (.bool true) w := fun w => Lib.run_eql_slice_nil w 23 40 none 0 cp 0 0 under23
    go_enter Try.func93, Try.ntmps93
    go_wp2
    go_ret
    exact ⟨none, 0, rfl, hP, Below.refl _ _, fun _ h => by cases h⟩
  · have hb1 := below_one (w := w) (.cells #[] 40)
    have hown : (w.alloc (.cells #[] 40)).ownsRow w.heap.size 40 2 (.slice (some ⟨w.heap.size, 0, none⟩) 0 0) 0 [] := World.ownsRow_made w #[] 0 (Nat.le_refl _) (by unfold maxLen; omega) (by simp)
    have hcl := (hP.below hb1 (Nat.le_refl _)).cls
    obtain ⟨n, hn⟩ : ∃ n, n = ps.length := ⟨_, rfl⟩
    have ln : (pcells ps).length = n * 2 := by rw [pcells_len, hn]
    have hbd := hP.2.1
    rw [← hn] at hl ⊢
    have HN := hid hn; have LN := hid ln; have HBD := hid hbd
    clear hn ln hbd
    have hnI : (n : Int) ≤ 100000 := by omega
    have hn0 : (0 : Int) ≤ (n : Int) := by omega
    have hE : ∀ w, (binOp .eql 23 (.slice (some ad) n cp) (.slice none 0 0)).run Try.prog w = .ok (.bool false) w := fun w => Lib.run_eql_slice_nil w 23 40 (some ad) n cp 0 0 under23
    go_enter Try.func93, Try.ntmps93
    go_wp2_with (at_builtin; refine wpList_appAt rfl (.tmp 5) (.tmp 6) 23 rfl w.heap.size 40 i0 (.agg #[.int .i64 0, .int .i64 0]) 2 16 under23 hi0 iz0 iz1 iz2 rfl (by decide) (.slice (some ⟨w.heap.size, 0, none⟩) 0 0) 0 _ rfl hown (some ad) n cp (pcells ps) rfl LN.out hcl (pcells_one ps) (by unfold maxLen; omega) (by omega) hb1.size ?_; intro v5 W5 hown5 hg5 hat)
    obtain ⟨a6, c6, rfl⟩ := own_slice2 hown5
    have hb5 := hb1.grown hg5 hb1.size (own_ge2 hown)
    have hown6 : W5.ownsRow w.heap.size 40 2 (.slice a6 (0 + n) c6) ps.length (pcells ps) := by rw [← HN.out]; rw [Nat.zero_add] at hown5 ⊢; exact hown5
    have hnew := own_new2 hown6
    obtain ⟨a7, c7, he, hprs⟩ := Prs.of_own hown6 (by rw [← HN.out]; omega) HBD.out
    rw [← HN.out] at he
    have he2 : a6 = a7 := by injection he
    subst he2
    have HE := hid (And.intro he (And.intro hprs hnew))
    clear he hprs hnew hown5 hown6 hown hcl hat hg5
    go_ret
    exact ⟨a6, c7, by rw [← HE.out.1]; rfl, HE.out.2.1, hb5, HE.out.2.2⟩
end Go.Proofs.Ytknaljghpfeikaa
