import Derived.Test.YtknaljghpfeikaaT30
import Derived.Laws.OwnMore
namespace Go.Proofs.Ytknaljghpfeikaa
open Go.RowKit

set_option maxRecDepth 100000 in
set_option maxHeartbeats 4000000 in
/-- slices.Clone of a row of presses: a row of the call's own. -/
theorem clone2_any (ap : Option Addr) (cp : Nat) (ps : List (Int × Int)) (w : World) (hP : Prs w ap ps) (hl : ps.length ≤ 100000) :
    Calls Try.prog 93 #[.slice ap ps.length cp] w fun e w' => ∃ v, e = .returned v ∧ w'.ownsRow w.heap.size 40 2 v ps.length (pcells ps) ∧ Below w.heap.size w w' := by
  obtain ⟨i0, hi0, iz0, iz1, iz2⟩ := info_parts info40
  rcases ap with _ | ad
  · have h0 := hP.empty
    subst h0
    have hE : ∀ w, (binOp .eql 23 (.slice none 0 cp) (.slice none 0 0)).run Try.prog w = .ok (.bool true) w := fun w => Lib.run_eql_slice_nil w 23 40 none 0 cp 0 0 under23
    go_enter Try.func93, Try.ntmps93
    go_wp2
    go_ret
    exact ⟨_, rfl, World.ownsRow_nil _ _ _ _, Below.refl _ _⟩
  · have hb1 := below_one (w := w) (.cells #[] 40)
    have hown : (w.alloc (.cells #[] 40)).ownsRow w.heap.size 40 2 (.slice (some ⟨w.heap.size, 0, none⟩) 0 0) 0 [] := World.ownsRow_made w #[] 0 (Nat.le_refl _) (by unfold maxLen; omega) (by simp)
    have hcl := (hP.below hb1 (Nat.le_refl _)).cls
    obtain ⟨n, hn⟩ : ∃ n, n = ps.length := ⟨_, rfl⟩
    have ln : (pcells ps).length = n * 2 := by rw [pcells_len, hn]
    rw [← hn] at hl ⊢
    have HN := hid hn; have LN := hid ln
    clear hn ln
    have hnI : (n : Int) ≤ 100000 := by omega
    have hn0 : (0 : Int) ≤ (n : Int) := by omega
    have hE : ∀ w, (binOp .eql 23 (.slice (some ad) n cp) (.slice none 0 0)).run Try.prog w = .ok (.bool false) w := fun w => Lib.run_eql_slice_nil w 23 40 (some ad) n cp 0 0 under23
    go_enter Try.func93, Try.ntmps93
    go_wp2_with (at_builtin; refine wpList_appAt rfl (.tmp 5) (.tmp 6) 23 rfl w.heap.size 40 i0 (.agg #[.int .i64 0, .int .i64 0]) 2 16 under23 hi0 iz0 iz1 iz2 rfl (by decide) (.slice (some ⟨w.heap.size, 0, none⟩) 0 0) 0 _ rfl hown (some ad) n cp (pcells ps) rfl LN.out hcl (pcells_one ps) (by unfold maxLen; omega) (by omega) hb1.size ?_; intro v5 W5 hown5 hg5 hat)
    have hb5 := hb1.grown hg5 hb1.size (own_ge2 hown)
    rw [Nat.zero_add, List.nil_append] at hown5
    have HE := hid (And.intro hown5 hb5)
    clear hown5 hown hcl hat hg5 hb5
    go_ret
    exact ⟨_, rfl, HE.out.1, HE.out.2⟩

/-- Where the record of each place stands now. -/
def plcs : Nat → List Int → List Int → List Int
  | _, [], L => L
  | k, x :: xs, L => plcs (k + 1) xs (L.set x.toNat (k : Int))
def plc (os : List Int) : List Int := plcs 0 os [0, 0, 0, 0, 0, 0]
def ordR (rs : List (Int × Int)) (os : List Int) : List (Int × Int) := os.map fun x => rs.getD x.toNat (0, 0)
def ordP1 (L : List Int) (p : Int × Int) : Int × Int := (2 * L.getD (p.1.toNat / 2) 0 + ((p.1.toNat % 2 : Nat) : Int), p.2)
def ordP (os : List Int) (ps : List (Int × Int)) : List (Int × Int) := ps.map (ordP1 (plc os))
theorem plcs_len : ∀ (os : List Int) (k : Nat) (L : List Int), (plcs k os L).length = L.length
  | [], _, _ => rfl
  | x :: xs, k, L => by rw [plcs, plcs_len xs]; simp
theorem plcs_snoc : ∀ (os : List Int) (x : Int) (k : Nat) (L : List Int), plcs k (os ++ [x]) L = (plcs k os L).set x.toNat ((k + os.length : Nat) : Int)
  | [], _, _, _ => rfl
  | y :: ys, x, k, L => by
    rw [List.cons_append, plcs, plcs_snoc ys x, plcs, List.length_cons]
    congr 2
    omega
theorem set_bound {b : Int} {L : List Int} (hL : ∀ z ∈ L, 0 ≤ z ∧ z ≤ b) (j : Nat) {v : Int} (hv : 0 ≤ v ∧ v ≤ b) : ∀ z ∈ L.set j v, 0 ≤ z ∧ z ≤ b := fun z hz => by
  rcases List.mem_or_eq_of_mem_set hz with h | h
  · exact hL z h
  · rw [h]; exact hv
theorem plcs_bound {b : Int} : ∀ (os : List Int) (k : Nat) (L : List Int), (∀ z ∈ L, 0 ≤ z ∧ z ≤ b) → ((k + os.length : Nat) : Int) ≤ b + 1 → ∀ z ∈ plcs k os L, 0 ≤ z ∧ z ≤ b
  | [], _, _, hL, _ => hL
  | x :: xs, k, L, hL, hk => by
    rw [plcs]
    rw [List.length_cons] at hk
    exact plcs_bound xs (k + 1) _ (set_bound hL _ ⟨by omega, by omega⟩) (by omega)
theorem getD_bound {b : Int} (h0 : 0 ≤ b) {L : List Int} (hL : ∀ z ∈ L, 0 ≤ z ∧ z ≤ b) (j : Nat) : 0 ≤ L.getD j 0 ∧ L.getD j 0 ≤ b := by
  rw [List.getD_eq_getElem?_getD]
  cases h : L[j]? with
  | none => simp; omega
  | some z => exact hL z (List.mem_of_getElem? h)
theorem pcells_put (A : List (Int × Int)) (x : Int × Int) (B : List (Int × Int)) (v : Int) {k : Nat} (hk : A.length = k) : (pcells (A ++ x :: B)).set (k * 2) (.int .i64 v) = pcells (A ++ (v, x.2) :: B) := by
  rw [pcells_app, pcells_app, List.set_append]
  have e := pcells_len A
  rw [hk] at e
  rw [if_neg (by omega), e, Nat.sub_self, pcells_cons, pcells_cons]
  rfl

/-- An array of six numbers. -/
def Pl (w : World) (b : Nat) (L : List Int) : Prop := L.length = 6 ∧ Bx w b (L.map (Value.int .i64)).toArray 111
theorem Pl.cell {w : World} {b : Nat} {L : List Int} (h : Pl w b L) {j : Nat} (hj : j < 6) : w.cell? ⟨b, j, none⟩ = some (.int .i64 (L.getD j 0)) := by
  refine h.2.cell j ?_
  have hl : j < L.length := by rw [h.1]; exact hj
  simp [List.getD, hl]
theorem Pl.free {w : World} {b : Nat} {L : List Int} (h : Pl w b L) (j : Nat) : w.frozen? ⟨b, j, none⟩ = false := h.2.free j
theorem Pl.set {w : World} {b : Nat} {L : List Int} (h : Pl w b L) (j : Nat) (v : Int) : Pl (w.setCell ⟨b, j, none⟩ (.int .i64 v)) b (L.set j v) := by
  refine ⟨by simp [h.1], ?_⟩
  have := h.2.set j (.int .i64 v)
  rw [List.map_set]
  simpa using this
end Go.Proofs.Ytknaljghpfeikaa
