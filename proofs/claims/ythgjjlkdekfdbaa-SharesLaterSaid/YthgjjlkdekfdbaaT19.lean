import Derived.Test.YthgjjlkdekfdbaaT18
import Derived.Test.YthgjjlkdekfdbaaT13
import Derived.Test.YthgjjlkdekfdbaaS1
/-! slices.Concat of two rows of clauses. -/
namespace Go.Proofs.Ythgjjlkdekfdbaa
set_option linter.unusedSimpArgs false
set_option linter.unusedVariables false
open Go.RowKit Go.Shelf

/-- slices.Grow of the nil slice: a row of the call's own, with no element. -/
theorem grow_any (n : Nat) (B : Nat) (w : World) (hn : 0 < n ∧ n ≤ 100000) (hB : B ≤ w.heap.size) :
    Calls Try.prog 71 #[.slice none 0 0, .int .i64 (n : Int)] w fun e w' => ∃ v, e = .returned v ∧ w'.ownsRow B 56 4 v 0 [] ∧ Below w.heap.size w w' := by
  obtain ⟨i0, hi0, iz0, iz1, iz2⟩ := info_parts info56
  have h := Any8.slices_Grow_grow Try.growP i0 (.agg #[.int .i64 0, .int .i64 0, .int .i64 0, .int .i64 0]) hi0 iz0 (by omega) none 0 0 n [] w (Nat.le_refl _) (by omega) (by rw [iz2]; omega) (by omega) (by simp) (fun _ => rfl) (fun a h => by cases h)
  refine Calls.mono h ?_
  rintro e w' ⟨rfl, rfl⟩
  have hG := grownCap_le_maxLen w (0 + n) 0 56 (by unfold maxLen; omega)
  have hG2 := grownCap_ge w (0 + n) 0 56
  refine ⟨_, rfl, ?_, ?_⟩
  · refine World.ownsRow_made w.drew _ _ hB hG ?_
    show (_ : Array Value).size = grownCap w (0 + n) 0 56 * 4
    have hz : (Value.agg #[.int .i64 0, .int .i64 0, .int .i64 0, .int .i64 0]).cells.size = 4 := by decide
    simp only [Array.size_append, Go.size_zeroCells, List.size_toArray, List.length_nil, hz]
    have e : Try.growP_ren.t 25 = 56 := rfl
    rw [e]
    omega
  · exact (Below.refl _ _).drew.trans (below_one (w := w.drew) _)

set_option maxRecDepth 100000 in
theorem grow_zero (B : Nat) (w : World) : Calls Try.prog 71 #[.slice none 0 0, .int .i64 0] w fun e w' => ∃ v, e = .returned v ∧ w'.ownsRow B 56 4 v 0 [] ∧ Below w.heap.size w w' := by
  go_enter Try.func71, Try.ntmps71
  go_wp2
  go_ret
  exact ⟨_, rfl, World.ownsRow_nil _ _ _ _, Below.refl _ _⟩
theorem grow_all (n : Nat) (B : Nat) (w : World) (hn : n ≤ 100000) (hB : B ≤ w.heap.size) :
    Calls Try.prog 71 #[.slice none 0 0, .int .i64 (n : Int)] w fun e w' => ∃ v, e = .returned v ∧ w'.ownsRow B 56 4 v 0 [] ∧ Below w.heap.size w w' := by
  rcases Nat.eq_zero_or_pos n with rfl | h
  · exact grow_zero B w
  · exact grow_any n B w ⟨h, hn⟩ hB

def szF (m n : Nat) : Nat → Nat
  | 0 => 0
  | 1 => m
  | _ => m + n
def catF (ps qs : List Cl) : Nat → List Cl
  | 0 => []
  | 1 => ps
  | _ => ps ++ qs

set_option maxRecDepth 100000 in
set_option maxHeartbeats 4000000 in
/-- slices.Concat of two rows of presses. -/
theorem concat_any (b cb : Nat) (ap aq : Option Addr) (cp cq : Nat) (ps qs : List Cl) (w : World) (hP : Clz w ap ps) (hQ : Clz w aq qs) (hc0 : w.cell? ⟨b, 0, none⟩ = some (.slice ap ps.length cp)) (hc1 : w.cell? ⟨b, 1, none⟩ = some (.slice aq qs.length cq)) (hlen : ps.length + qs.length ≤ 1000) :
    Calls Try.prog 61 #[.slice (some ⟨b, 0, none⟩) 2 cb] w fun e w' => ∃ a cv, e = .returned (.slice a (ps.length + qs.length) cv) ∧ Clz w' a (ps ++ qs) ∧ Below w.heap.size w w' ∧ (∀ ad, a = some ad → w.heap.size ≤ ad.block) := by
  obtain ⟨i0, hi0, iz0, iz1, iz2⟩ := info_parts info56
  obtain ⟨m, hm⟩ : ∃ m, m = ps.length := ⟨_, rfl⟩
  obtain ⟨n, hn⟩ : ∃ n, n = qs.length := ⟨_, rfl⟩
  have lm : (ccells ps).length = m * 4 := by rw [ccells_len, hm]
  have ln : (ccells qs).length = n * 4 := by rw [ccells_len, hn]
  rw [← hm] at hc0 hlen ⊢
  rw [← hn] at hc1 hlen ⊢
  have hbd : ∀ x ∈ ps ++ qs, x.i64 := fun x hx => by
    rcases List.mem_append.1 hx with h | h
    · exact hP.2.1 x h
    · exact hQ.2.1 x h
  have hll : (ps ++ qs).length = m + n := by rw [List.length_append, ← hm, ← hn]
  have LM := hid lm; have LN := hid ln; have HLL := hid hll; have HBD := hid hbd
  clear lm ln hm hn hbd hll
  have hmI : (m : Int) ≤ 1000 := by omega
  have hnI : (n : Int) ≤ 1000 := by omega
  have hm0 : (0 : Int) ≤ (m : Int) := by omega
  have hn0 : (0 : Int) ≤ (n : Int) := by omega
  go_enter Try.func61, Try.ntmps61
  go_wp2
  go_loopw [3, 11] (fun v3 v11 wr => ∃ j : Nat, j ≤ 2 ∧ v11 = .int .i64 (j : Int) ∧ v3 = .int .i64 (szF m n j : Nat) ∧ Below w.heap.size w wr) (fun _ v11 _ => 2 - (intOf v11).toNat)
  case atStart => exact ⟨0, by omega, rfl, rfl, Below.refl _ _⟩
  case round =>
    obtain ⟨j, hj, rfl, rfl, hb⟩ := hrel
    have d0 := hb.cell (p := ⟨b, 0, none⟩) (cell_lt hc0)
    have d1 := hb.cell (p := ⟨b, 1, none⟩) (cell_lt hc1)
    rw [hc0] at d0; rw [hc1] at d1
    rcases (by omega : j = 0 ∨ j = 1 ∨ j = 2) with rfl | rfl | rfl
    · simp only [szF] at *
      go_wp2
      go_roundw
      case rel => exact ⟨1, by omega, rfl, by simp, hb⟩
      case measure => simp [intOf]
    · simp only [szF] at *
      go_wp2
      go_roundw
      case rel => exact ⟨2, by omega, rfl, by simp, hb⟩
      case measure => simp [intOf]
    · simp only [szF] at *
      have hgr := grow_all (m + n) w.heap.size wr (by omega) hb.size
      go_wp2_with fail
      refine Calls.mono hgr ?_
      rintro e W1 ⟨v, rfl, hown, hb1⟩
      replace hb := hb.trans (hb1.mono hb.size)
      clear hb1 hgr d0 d1
      go_wp2
      go_loopw [6, 27] (fun v6 v27 wr => ∃ j : Nat, j ≤ 2 ∧ v27 = .int .i64 (j : Int) ∧ wr.ownsRow w.heap.size 56 4 v6 (szF m n j) (ccells (catF ps qs j)) ∧ Below w.heap.size w wr) (fun _ v27 _ => 2 - (intOf v27).toNat)
      case atStart => exact ⟨0, by omega, rfl, hown, hb⟩
      case round =>
        obtain ⟨j, hj, rfl, hown, hb⟩ := hrel
        obtain ⟨a6, c6, rfl⟩ := own_slice2 hown
        have d0 := hb.cell (p := ⟨b, 0, none⟩) (cell_lt hc0)
        have d1 := hb.cell (p := ⟨b, 1, none⟩) (cell_lt hc1)
        rw [hc0] at d0; rw [hc1] at d1
        have hPr := (hP.below hb (Nat.le_refl _)).cls
        have hQr := (hQ.below hb (Nat.le_refl _)).cls
        have hge := own_ge2 hown
        rcases (by omega : j = 0 ∨ j = 1 ∨ j = 2) with rfl | rfl | rfl
        · simp only [szF] at *
          go_wp2_with (at_builtin; refine wpList_appAt rfl (.tmp 31) (.tmp 32) 22 rfl w.heap.size 56 i0 (.agg #[.int .i64 0, .int .i64 0, .int .i64 0, .int .i64 0]) 4 32 under22 hi0 iz0 iz1 iz2 rfl (by decide) (.slice a6 0 c6) 0 _ rfl hown ap m cp (ccells ps) rfl LM.out hPr (ccells_one ps) (by unfold maxLen; omega) (by omega) hb.size ?_; intro v5 W5 hown5 hg5 hat)
          rw [Nat.zero_add] at hown5
          go_roundw
          case rel => exact ⟨1, by omega, rfl, hown5, hb.grown hg5 hb.size hge⟩
          case measure => simp [intOf]
        · simp only [szF] at *
          go_wp2_with (at_builtin; refine wpList_appAt rfl (.tmp 31) (.tmp 32) 22 rfl w.heap.size 56 i0 (.agg #[.int .i64 0, .int .i64 0, .int .i64 0, .int .i64 0]) 4 32 under22 hi0 iz0 iz1 iz2 rfl (by decide) (.slice a6 m c6) m _ rfl hown aq n cq (ccells qs) rfl LN.out hQr (ccells_one qs) (by unfold maxLen; omega) (by omega) hb.size ?_; intro v5 W5 hown5 hg5 hat)
          go_roundw
          case rel => exact ⟨2, by omega, rfl, by rw [show catF ps qs 2 = ps ++ qs from rfl, ccells_app]; exact hown5, hb.grown hg5 hb.size hge⟩
          case measure => simp [intOf]
        · have hown2 : wr.ownsRow w.heap.size 56 4 (.slice a6 (szF m n 2) c6) (ps ++ qs).length (ccells (ps ++ qs)) := by rw [HLL.out]; exact hown
          obtain ⟨a7, c7, he, hprs, _⟩ := Clz.of_own hown2 (by rw [HLL.out]; omega) HBD.out
          rw [HLL.out] at he
          have hnew := own_new2 hown
          have HE := hid (And.intro he (And.intro hprs hnew))
          clear he hprs hnew hown2 hown hPr hQr hge
          simp only [szF] at *
          go_wp2
          go_ret
          obtain ⟨he, hprs, hnew⟩ := HE.out
          have he2 : a6 = a7 := by injection he
          exact ⟨a7, c7, by rw [← he]; rfl, hprs, hb, by rw [← he2]; exact hnew⟩
end Go.Proofs.Ythgjjlkdekfdbaa
