import Derived.Test.YtknaljghpfeikaaT25
namespace Go.Proofs.Ytknaljghpfeikaa
open Go.RowKit

/-- The reference's side at a place, on a way. -/
theorem SideAt_any (p : Nat) (up : Bool) (w : World) (hp : p ≤ 100) : Calls Try.prog 31 #[.int .i64 (p : Int), .int .i64 (if up then 1 else -1)] w fun e w' => e = .returned (.int .i64 (sideAt up p : Nat)) ∧ w = w' := by
  have hpI : (p : Int) ≤ 100 := by omega
  have hp0 : (0 : Int) ≤ (p : Int) := by omega
  have e1 : ((sideAt true p : Nat) : Int) = 2 * (p : Int) := by unfold sideAt; simp
  have e2 : ((sideAt false p : Nat) : Int) = 2 * (p : Int) + 1 := by unfold sideAt; simp
  cases up
  · rw [e2]
    clear e1 e2
    go_enter Try.func31, Try.ntmps31
    go_wp2
    go_ret
    exact ⟨rfl, rfl⟩
  · rw [e1]
    clear e1 e2
    go_enter Try.func31, Try.ntmps31
    go_wp2
    go_ret
    exact ⟨rfl, rfl⟩

set_option maxRecDepth 100000 in
set_option maxHeartbeats 2000000 in
/-- The reference's seconds of a side. -/
theorem Seconds_any (ar ap : Option Addr) (cr cp : Nat) (rs ps : List (Int × Int)) (p0 way step : Int) (k : Nat) (w : World) (hR : Prs w ar rs) (_hP : Prs w ap ps) (T : Tr) (hT : T.rcs = rs) (hk : k < 2 * rs.length) (hl : rs.length ≤ 6) :
    Calls Try.prog 23 #[.agg #[.slice ar rs.length cr, .int .i64 p0, .int .i64 way, .int .i64 step, .slice ap ps.length cp], .int .i64 (k : Int)] w fun e w' => e = .returned (.int .i64 (secs T k)) ∧ Below w.heap.size w w' := by
  obtain ⟨W, hW, hb, hs, x0⟩ := boxes1 w #[.slice ar rs.length cr, .int .i64 p0, .int .i64 way, .int .i64 step, .slice ap ps.length cp] 25
  clear hs
  obtain ⟨j, hj⟩ : ∃ j, j = k / 2 := ⟨_, rfl⟩
  have hjl : j < rs.length := by omega
  obtain ⟨b, off, u, t, rfl, hbs, hc1, hc2, _, _, hx, _⟩ := (hR.below hb (Nat.le_refl _)).at hjl
  have hget : rs.getD j (0, 0) = (u, t) := by rw [List.getD_eq_getElem?_getD, hx.out]; rfl
  have hse : secs T k = if k % 2 = 0 then u else t := by unfold secs; rw [hT, ← hj, hget]
  have hjI : (j : Int) < (rs.length : Int) := by omega
  have hj0 : (0 : Int) ≤ (j : Int) := by omega
  have hkI : (k : Int) ≤ 12 := by omega
  have hk0 : (0 : Int) ≤ (k : Int) := by omega
  have hkq : Int.tdiv (k : Int) 2 = (j : Int) := by rw [hj]; rfl
  have ewk : IntKind.i64.wrap (j : Int) = (j : Int) := IntWalk.i64_in _ (by omega)
  have c0 := x0.cell 0 rfl; have c1 := x0.cell 1 rfl; have c2 := x0.cell 2 rfl; have c3 := x0.cell 3 rfl; have c4 := x0.cell 4 rfl
  by_cases hm : k % 2 = 0
  · rw [hse, if_pos hm]
    have hkr : Int.tmod (k : Int) 2 = 0 := by rw [show Int.tmod (k : Int) 2 = ((k % 2 : Nat) : Int) from rfl, hm]; rfl
    clear hse hget hx hj hm
    go_enter Try.func23, Try.ntmps23
    go_wp2
    go_ret
    exact ⟨rfl, hb⟩
  · rw [hse, if_neg hm]
    have hkr : Int.tmod (k : Int) 2 = 1 := by rw [show Int.tmod (k : Int) 2 = ((k % 2 : Nat) : Int) from rfl, show k % 2 = 1 by omega]; rfl
    clear hse hget hx hj hm
    go_enter Try.func23, Try.ntmps23
    go_wp2
    go_ret
    exact ⟨rfl, hb⟩
end Go.Proofs.Ytknaljghpfeikaa
namespace Go.Proofs.Ytknaljghpfeikaa
open Go.RowKit
theorem under35 : Try.prog.underlying 35 = some (.slice 3) := by kernel_rfl
theorem info3i : (Try.prog.info? 3).map (fun i => (i.zero, i.size, i.bytes)) = some (some (.int .i64 0), 1, 8) := by kernel_rfl
def ClonePost (ks : List Int) (w : World) (e : Ending) (w' : World) : Prop := Below w.heap.size w w' ∧ ∃ v : Value, e = .returned v ∧ w'.ownsRow w.heap.size 3 1 v ks.length (ks.map (Value.int .i64))
theorem ints_none {w : World} {ks : List Int} (h : Ints w none ks) : ks = [] := by
  match ks, h with
  | [], _ => rfl
  | k :: ks, h =>
    obtain ⟨b, off, e, _⟩ := h.2.2 0 (by simp)
    cases e

set_option maxRecDepth 100000 in
set_option maxHeartbeats 1000000 in
theorem cloneI_any (a : Option Addr) (ca : Nat) (ks : List Int) (w : World) (hX : Ints w a ks) (hl : ks.length ≤ 1000) :
    Calls Try.prog 82 #[.slice a ks.length ca] w (ClonePost ks w) := by
  obtain ⟨j0, hj, jz0, jz1, jz2⟩ := info_parts info3i
  rcases a with _ | ad
  · have hk := ints_none hX
    subst hk
    have hE : ∀ w, (binOp .eql 35 (.slice none 0 ca) (.slice none 0 0)).run Try.prog w = .ok (.bool true) w := fun w => Lib.run_eql_slice_nil w 35 3 none 0 ca 0 0 under35
    go_enter Try.func82, Try.ntmps82
    go_wp2
    go_ret
    exact ⟨Below.refl _ _, _, rfl, World.ownsRow_nil _ _ _ _⟩
  · have hown := own_lit0 w 3 1
    have hb1 := below_one (w := w) (.cells #[] 3)
    have hcl := (hX.below hb1 (Nat.le_refl _)).cls
    generalize hn : ks.length = n at *
    have hE : ∀ w, (binOp .eql 35 (.slice (some ad) n ca) (.slice none 0 0)).run Try.prog w = .ok (.bool false) w := fun w => Lib.run_eql_slice_nil w 35 3 (some ad) n ca 0 0 under35
    go_enter Try.func82, Try.ntmps82
    go_wp2_with (at_builtin; refine wpList_app rfl (.tmp 5) (.tmp 6) 35 rfl w.heap.size 3 j0 (.int .i64 0) 1 8 under35 hj jz0 jz1 jz2 rfl (by decide) _ 0 [] rfl hown (some ad) n ca (ks.map (Value.int .i64)) rfl (by simp [hn]) hcl (ints_one ks) (by unfold maxLen; omega) (by omega) (by simp) ?_; intro v1 W3 hown' hg)
    have hb2 := hb1.grown hg (by simp) (own_ge hown)
    clear hown hb1 hcl hg
    go_wp2
    go_ret
    exact ⟨hb2, _, rfl, by rw [hn]; simpa using hown'⟩

end Go.Proofs.Ytknaljghpfeikaa
