import Derived.Test.YtknaljghpfeikaaT43
import Derived.Test.YtknaljghpfeikaaM4
namespace Go.Proofs.Ytknaljghpfeikaa
open Go.RowKit

theorem servF_is {x y : Int} {q : Int × Int} {B : List (Int × Int)} (hq : servB x y q = true) : ∀ (A : List (Int × Int)) (k : Nat), (∀ r ∈ A, servB x y r = false) → servF x y (A ++ q :: B) k = ((k + A.length : Nat) : Int)
  | [], k, _ => by rw [List.nil_append, servF, if_pos hq]; rfl
  | a :: A, k, h => by
    rw [List.cons_append, servF, if_neg (by rw [h a (by simp)]; simp), servF_is hq A (k + 1) (fun r hr => h r (by simp [hr])), List.length_cons]
    congr 1
    omega
theorem servF_first {x y : Int} : ∀ (L : List (Int × Int)), (∃ p ∈ L, servB x y p = true) → ∃ A q B, L = A ++ q :: B ∧ servB x y q = true ∧ ∀ r ∈ A, servB x y r = false
  | [], h => by obtain ⟨p, hp, _⟩ := h; cases hp
  | a :: L, h => by
    by_cases ha : servB x y a = true
    · exact ⟨[], a, L, rfl, ha, fun r hr => by cases hr⟩
    · obtain ⟨p, hp, h1⟩ := h
      rcases List.mem_cons.1 hp with rfl | hp
      · exact absurd h1 ha
      · obtain ⟨A, q, B, e, h2, h3⟩ := servF_first L ⟨p, hp, h1⟩
        refine ⟨a :: A, q, B, by rw [e]; rfl, h2, fun r hr => ?_⟩
        rcases List.mem_cons.1 hr with rfl | hr
        · simpa using ha
        · exact h3 r hr
theorem servB_iff {x y : Int} {r : Int × Int} : servB x y r = true ↔ r.1 = x ∧ y ≤ r.2 := by unfold servB; simp
/-- What is served, and when. -/
theorem serve_of {T : Tr} (hv : VT T) {x y : Int} (hm : (x, y) ∈ T.prs) : ∃ A q B, (runM T maxI).plays = A ++ q :: B ∧ q.1 = x ∧ y ≤ q.2 ∧ FirstP (runM T maxI).plays x y q ∧ (∀ r ∈ A, ¬ (r.1 = x ∧ y ≤ r.2)) ∧ servF x y (runM T maxI).plays 0 = (A.length : Int) ∧ ((runM T maxI).plays.getD A.length (0, 0)) = q := by
  obtain ⟨q0, h1, h2, h3⟩ := all_served hv (x, y) hm
  obtain ⟨A, q, B, e, h4, h5⟩ := servF_first (x := x) (y := y) (runM T maxI).plays ⟨q0, h1, servB_iff.2 ⟨h2, h3⟩⟩
  have h6 := servB_iff.1 h4
  have h7 : ∀ r ∈ A, ¬ (r.1 = x ∧ y ≤ r.2) := fun r hr hc => by
    have := h5 r hr
    rw [servB_iff.2 hc] at this
    cases this
  refine ⟨A, q, B, e, h6.1, h6.2, ⟨A, B, e, h6.1, h6.2, h7⟩, h7, ?_, ?_⟩
  · rw [e, servF_is h4 A 0 h5, Nat.zero_add]
  · rw [e]; simp [List.getD_eq_getElem?_getD]
/-- One more press in the other tray's list. -/
theorem app_step {w Wc W5 : World} {B0 b0 b11 b12 n m c1 c2 : Nat} {a1 a2 : Option Addr} {P1 P2 P3 : Value} {vs0 vs11 : Array Value} {T0 T11 : TypeId} {rs ps : List (Int × Int)} {x y : Int} {v5 : Value}
    (x0 : Bx Wc b0 vs0 T0) (x11 : Bx Wc b11 vs11 T11) (x12 : Bx Wc b12 #[.slice a1 n c1, P1, P2, P3, .slice a2 m c2] 25) (own1 : Wc.ownsRow B0 34 2 (.slice a1 n c1) n (pcells rs)) (own2 : Wc.ownsRow B0 40 2 (.slice a2 m c2) m (pcells ps))
    (hd : ∀ k, (Value.slice a1 n c1).ownBlock = some k → (Value.slice a2 m c2).ownBlock ≠ some k) (hb : Below w.heap.size w Wc) (h1 : w.heap.size ≤ B0) (h2 : b0 < B0) (h3 : b11 < B0) (h4 : B0 ≤ b12) (hl1 : ∀ k, (Value.slice a1 n c1).ownBlock = some k → k < b12) (hl2 : ∀ k, (Value.slice a2 m c2).ownBlock = some k → k < b12)
    (hn : n = rs.length) (hm : m = ps.length) (hn6 : n ≤ 1000) (hm6 : m ≤ 1000) (hbr : ∀ x ∈ rs, -9223372036854775808 ≤ x.1 ∧ x.1 ≤ 9223372036854775807 ∧ -9223372036854775808 ≤ x.2 ∧ x.2 ≤ 9223372036854775807) (hbp : ∀ x ∈ ps, -9223372036854775808 ≤ x.1 ∧ x.1 ≤ 9223372036854775807 ∧ -9223372036854775808 ≤ x.2 ∧ x.2 ≤ 9223372036854775807)
    (hx : -9223372036854775808 ≤ x ∧ x ≤ 9223372036854775807) (hy : -9223372036854775808 ≤ y ∧ y ≤ 9223372036854775807)
    (hown5 : W5.ownsRow B0 40 2 v5 (m + 1) (pcells ps ++ [.int .i64 x, .int .i64 y])) (hg5 : (Wc.alloc (.cells #[.int .i64 x, .int .i64 y] 40)).grownBy W5 (Value.slice a2 m c2).ownBlock)
    (hat : v5.ownBlock = (Value.slice a2 m c2).ownBlock ∨ v5.ownBlock = some (Wc.alloc (.cells #[.int .i64 x, .int .i64 y] 40)).heap.size) :
    ∃ (a5 : Option Addr) (c5 : Nat), v5 = .slice a5 (m + 1) c5 ∧ W5.frozen? ⟨b12, 4, none⟩ = false ∧ W5.cell? ⟨b12, 4, none⟩ = some (.slice a2 m c2) ∧
      Hid (Bx (W5.setCell ⟨b12, 4, none⟩ (.slice a5 (m + 1) c5)) b0 vs0 T0 ∧ Bx (W5.setCell ⟨b12, 4, none⟩ (.slice a5 (m + 1) c5)) b11 vs11 T11 ∧ Bx (W5.setCell ⟨b12, 4, none⟩ (.slice a5 (m + 1) c5)) b12 #[.slice a1 n c1, P1, P2, P3, .slice a5 (m + 1) c5] 25 ∧
        Prs (W5.setCell ⟨b12, 4, none⟩ (.slice a5 (m + 1) c5)) a1 rs ∧ Prs (W5.setCell ⟨b12, 4, none⟩ (.slice a5 (m + 1) c5)) a5 (ps ++ [(x, y)]) ∧ Below w.heap.size w (W5.setCell ⟨b12, 4, none⟩ (.slice a5 (m + 1) c5))) := by
  have hb1 := below_one (w := Wc) (.cells #[.int .i64 x, .int .i64 y] 40)
  have own24 := own_below2 own2 hb1
  have own14 := own_below2 own1 hb1
  obtain ⟨a5, c5, rfl⟩ := own_slice2 hown5
  have hge := own_ge2 own24
  have y0 := (x0.below hb1).gb hg5 (fun k hk e => by have := hge k hk; omega)
  have y11 := (x11.below hb1).gb hg5 (fun k hk e => by have := hge k hk; omega)
  have y12 := (x12.below hb1).gb hg5 (fun k hk e => by have := hl2 k hk; omega)
  have o1 := own_keep own14 hg5 (fun k hk e => hd k hk e)
  have hb5 := (hb.trans (hb1.mono hb.size)).grown hg5 (hb.trans (hb1.mono hb.size)).size (fun k hk => by have := hge k hk; omega)
  have gs := gset W5 ⟨b12, 4, none⟩ (.slice a5 (m + 1) c5)
  have h12 := x12.lt
  have hs1 := hb1.size
  have h12' : b12 < (Wc.alloc (.cells #[.int .i64 x, .int .i64 y] 40)).heap.size := by omega
  have hne5 : ∀ k, (Value.slice a5 (m + 1) c5).ownBlock = some k → k ≠ b12 := fun k hk e => by
    rcases hat with h | h
    · rw [hk] at h
      have := hl2 k h.symm
      omega
    · rw [hk] at h
      injection h with h
      omega
  have o1' := own_keep o1 gs (fun k hk e => by have := hl1 k hk; injection e with e; have e' : b12 = k := e; omega)
  have o2' := own_keep hown5 gs (fun k hk e => by have := hne5 k hk; injection e with e; have e' : b12 = k := e; omega)
  refine ⟨a5, c5, rfl, y12.free 4, y12.cell 4 rfl, hid ⟨y0.gb gs (fun k hk => by cases hk; show b0 ≠ b12; omega), y11.gb gs (fun k hk => by cases hk; show b11 ≠ b12; omega), y12.set 4 _, own_prs o1' hn.symm (by omega) hbr, own_prs (by rw [pcells_app]; exact o2') (by simp [hm]) (by omega) (fun z hz => ?_), hb5.grown gs hb5.size (fun k hk => by cases hk; show w.heap.size ≤ b12; omega)⟩⟩
  rcases List.mem_append.1 hz with h | h
  · exact hbp z h
  · rw [List.mem_singleton.1 h]
    exact ⟨hx.1, hx.2, hy.1, hy.2⟩
end Go.Proofs.Ytknaljghpfeikaa
