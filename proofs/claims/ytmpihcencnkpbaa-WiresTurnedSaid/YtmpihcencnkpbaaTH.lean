import Derived.Test.YtmpihcencnkpbaaTG
import Derived.Test.YtmpihcencnkpbaaWA
/-! WiresFine. -/
namespace Go.Proofs.Ytmpihcencnkpbaa
set_option linter.unusedSimpArgs false
set_option linter.unusedVariables false
open Go Go.RowKit

theorem own_set {w : World} {base : Nat} {e : TypeId} {size n c g j : Nat} {xs : List Value} {v : Value} (h : w.ownsRow base e size (.slice (some ⟨g, 0, none⟩) n c) n xs) (hj : j < n * size) : (w.setCell ⟨g, j, none⟩ v).ownsRow base e size (.slice (some ⟨g, 0, none⟩) n c) n (xs.set j v) := by
  refine ⟨by rw [List.length_set]; exact h.1, ?_⟩
  rcases h.2 with ⟨h', _⟩ | ⟨g', cap, cur, h1, h2, h3, h4, h5, h6, h7⟩
  · simp at h'
  · simp only [Value.slice.injEq, Option.some.injEq, Addr.mk.injEq, and_true, true_and] at h1
    obtain ⟨rfl, rfl⟩ := h1
    refine .inr ⟨g, c, cur.setIfInBounds j v, rfl, h2, ?_, h4, h5, by rw [Array.size_setIfInBounds]; exact h6, ?_⟩
    · have hb : Bx w g cur e := h3
      exact hb.set j v
    · rw [← h7, Array.toList_setIfInBounds, List.take_set]
theorem own_free {w : World} {base : Nat} {e : TypeId} {size n c g : Nat} {xs : List Value} (h : w.ownsRow base e size (.slice (some ⟨g, 0, none⟩) n c) n xs) (j : Nat) : w.frozen? ⟨g, j, none⟩ = false := by
  rcases h.2 with ⟨h', _⟩ | ⟨g', cap, cur, h1, h2, h3, h4⟩
  · simp at h'
  · simp only [Value.slice.injEq, Option.some.injEq, Addr.mk.injEq, and_true, true_and] at h1
    obtain ⟨rfl, rfl⟩ := h1
    have hb : Bx w g cur e := h3
    exact hb.free j
theorem own_cell {w : World} {base : Nat} {e : TypeId} {size n c g : Nat} {xs : List Value} (h : w.ownsRow base e size (.slice (some ⟨g, 0, none⟩) n c) n xs) (j : Nat) {v : Value} (hj : xs[j]? = some v) : w.cell? ⟨g, j, none⟩ = some v := by
  have hl : j < xs.length := (List.getElem?_eq_some_iff.1 hj).1
  have := h.cellAt j (by rw [← h.1]; exact hl)
  rw [this]; exact hj
/-- What a press of a box that is fine plays. -/
def finP (N : Int) (p : F3) : F3 := ⟨p.k, p.a, p.k * N + p.a⟩
theorem offB_ne {g f : F3} (h : offB g f = true) : g ≠ f := fun e => by
  subst e
  have : cmpF g g = 0 := by simp [cmpF, cmpI, orI]
  unfold offB at h
  rw [this] at h
  simp at h
theorem setB_cnt {L N : Int} {s : List F3} (h : setB L N s = true) (f : F3) : s.count f ≤ 1 := by
  have hn : s.Nodup := (setB_iff.1 h).2.imp offB_ne
  exact List.nodup_iff_count.1 hn f
theorem flat_cnt {f : F3} : ∀ (T : List (List F3)), (∀ s ∈ T, s.count f ≤ 1) → T.flatten.count f ≤ T.length ∧ ([] ∈ T → T.flatten.count f < T.length)
  | [], _ => ⟨by simp, fun h => by simp at h⟩
  | s :: T, h => by
    obtain ⟨h1, h2⟩ := flat_cnt T (fun t ht => h t (List.mem_cons_of_mem _ ht))
    have h3 := h s List.mem_cons_self
    rw [List.flatten_cons, List.count_append, List.length_cons]
    refine ⟨by omega, fun hm => ?_⟩
    rcases List.mem_cons.1 hm with e | hm
    · subst e
      rw [List.count_nil]; omega
    · have := h2 hm
      omega
theorem setsI_head (F : List F3) : ∀ (m : Nat) (A V : List (List F3)), ∃ R, setsI F m ([] :: A) V = [] :: R
  | 0, A, _ => ⟨A, rfl⟩
  | m + 1, A, V => setsI_head F m (A ++ groL F V) (groL F V)
theorem fin_ex (N : Int) (P : List F3) : exB N [] (P.map (finP N)) = true := by
  unfold exB
  rw [List.all_eq_true]
  intro p hp
  obtain ⟨q, _, rfl⟩ := List.mem_map.1 hp
  exact decide_eq_true rfl
theorem mul_rng {L N k a : Int} (hL : 1 ≤ L ∧ L ≤ 5) (hN : 1 ≤ N ∧ N ≤ 5) (hk : 0 ≤ k ∧ k < L) (ha : 0 ≤ a ∧ a < N) : (0 ≤ k * N ∧ k * N ≤ 25) ∧ (0 ≤ k * N + a ∧ k * N + a ≤ L * N - 1) ∧ (0 ≤ L * N ∧ L * N ≤ 25) := by
  have h1 := Int.mul_le_mul_of_nonneg_right (show k ≤ L - 1 by omega) (show 0 ≤ N by omega)
  have h2 := Int.mul_le_mul_of_nonneg_right (show L ≤ 5 by omega) (show 0 ≤ N by omega)
  have h3 := Int.mul_nonneg hk.1 (show 0 ≤ N by omega)
  have h4 := Int.mul_nonneg (show 0 ≤ L by omega) (show 0 ≤ N by omega)
  rw [Int.sub_mul] at h1
  omega
theorem fin_v {L N F : Int} {P : List F3} (h : vB L N P F = true) : vB L N (P.map (finP N)) F = true := by
  obtain ⟨hL, hN, _, hF, hp⟩ := vB_siz h
  have hr := vB_pr h
  have hp2 : presB L N (P.map (finP N)) = true := by
    unfold presB at hp ⊢
    rw [List.all_eq_true] at hp ⊢
    intro p hq
    obtain ⟨q, hq', rfl⟩ := List.mem_map.1 hq
    have h1 := hp q hq'
    rw [Bool.and_eq_true] at h1 ⊢
    obtain ⟨a1, a2⟩ := hr q hq'
    obtain ⟨b1, b2, b3⟩ := mul_rng hL hN a1 a2
    refine ⟨h1.1, ?_⟩
    show fromI (-1) (q.k * N + q.a) (w64 (w64 (L * N) - 1)) = true
    rw [w64_in (x := L * N) (by omega), w64_in (x := L * N - 1) (by omega)]
    unfold fromI
    simp only [Bool.and_eq_true, decide_eq_true_eq]; omega
  unfold vB at h ⊢
  rw [hp] at h
  rw [hp2, List.length_map]; exact h
/-- What is true of a box that is fine. -/
theorem fine_law {L N F : Int} {P : List F3} (h : vB L N P F = true) : fwE L N (P.map (finP N)) F = 0 ∧ fwR L N (P.map (finP N)) F = 0 ∧ akE L N (P.map (finP N)) F true = 0 ∧ ctR sureS L N (P.map (finP N)) F = [] := by
  obtain ⟨hL, hN, _, hF, _⟩ := vB_siz h
  have hv := fin_v h
  have hx := fin_ex N P
  generalize P.map (finP N) = Q at *
  have hc : chE L N Q F true = 0 := by unfold chE; rw [hv]; rfl
  have hs : fwS L N Q = some [] := by
    unfold fwS setsL
    obtain ⟨R, e⟩ := setsI_head (allF L N) 3 [] [[]]
    rw [e]
    exact List.find?_cons_of_pos hx
  have hm : [] ∈ truL L N Q F := (truL_mem hL hN).2 ⟨⟨rfl, Nat.zero_le _⟩, hx⟩
  have hk : akE L N Q F true = 0 := by
    unfold akE
    rw [if_pos hc, if_neg (fun e => by rw [e] at hm; simp at hm)]
  refine ⟨(fw_some hc hs).1, (fw_some hc hs).2, hk, ?_⟩
  unfold ctR ctL
  rw [if_pos hk, List.filter_eq_nil_iff]
  intro f _
  have := (flat_cnt (f := f) (truL L N Q F) (fun s hs => setB_cnt ((truL_mem hL hN).1 hs).1.1 f)).2 hm
  simp [sureS]; omega
/-- A row of presses of one's own. -/
def FnR (B T c : Nat) (a : Option Addr) (n : Nat) (X : List F3) (w : World) : Prop := w.ownsRow B 58 3 (.slice a n c) n (fcells X) ∧ ∀ g, (Value.slice a n c).ownBlock = some g → g < T
theorem FnR.below {B T c : Nat} {a : Option Addr} {n : Nat} {X : List F3} {w w' : World} (h : FnR B T c a n X w) (hb : Below w.heap.size w w') : FnR B T c a n X w' :=
  ⟨own_heap h.1 (fun g hg => hb.block g (h.1.lt g hg).2), h.2⟩
/-- A press lies at a place. -/
def AtB (w : World) (b o : Nat) (x : F3) : Prop := At3 w b o x ∧ b < w.heap.size
theorem AtB.below {w w' : World} {b o : Nat} {x : F3} (h : AtB w b o x) (hb : Below w.heap.size w w') : AtB w' b o x := ⟨h.1.eq (hb.block b h.2), by have := hb.size; have := h.2; omega⟩
theorem fcells_set : ∀ (X : List F3) (i : Nat) (x : F3) (v : Int), X[i]? = some x → (fcells X).set (i * 3 + 2) (.int .i64 v) = fcells (X.set i ⟨x.k, x.a, v⟩)
  | [], i, x, v, h => by simp at h
  | y :: X, 0, x, v, h => by
    simp at h
    subst h
    rfl
  | y :: X, i + 1, x, v, h => by
    have := fcells_set X i x v (by simpa using h)
    rw [show (i + 1) * 3 + 2 = (i * 3 + 2) + 1 + 1 + 1 by omega, fcells_cons, List.set_cons_succ, List.set_cons_succ, List.set_cons_succ, this]
    rfl
theorem FnR.at {B T c : Nat} {a : Option Addr} {n : Nat} {X : List F3} {w : World} (h : FnR B T c a n X w) (hn : n = X.length) {i : Nat} (hi : i < n) :
    ∃ (g off : Nat) (x : F3), a = some ⟨g, off, none⟩ ∧ (B ≤ g ∧ g < T) ∧ AtB w g (off + i * 3) x ∧ Hid (X[i]? = some x) ∧ Hid (∀ w', FnR B T c (some ⟨g, off, none⟩) n X w' → w'.frozen? ⟨g, off + i * 3 + 2, none⟩ = false ∧ ∀ v, FnR B T c (some ⟨g, off, none⟩) n (X.set i ⟨x.k, x.a, v⟩) (w'.setCell ⟨g, off + i * 3 + 2, none⟩ (.int .i64 v))) := by
  obtain ⟨h1, h2⟩ := h
  obtain ⟨g, cap, e⟩ := Go.Joins.ownsRow_form h1 (by omega)
  simp only [Value.slice.injEq] at e
  obtain ⟨rfl, _, rfl⟩ := e
  have hx : i < X.length := by omega
  have hxi : X[i]? = some X[i] := List.getElem?_eq_getElem hx
  have hgd : X.getD i f30 = X[i] := by simp [List.getD, hx]
  obtain ⟨p1, p2, p3⟩ := fcells_at X i hx
  rw [hgd] at p1 p2 p3
  refine ⟨g, 0, X[i], rfl, ⟨(h1.lt g rfl).1, h2 g rfl⟩, ⟨⟨?_, ?_, ?_⟩, (h1.lt g rfl).2⟩, hid hxi, hid fun w' hw => ⟨own_free hw.1 _, fun v => ⟨?_, h2⟩⟩⟩
  · rw [Nat.zero_add]; exact own_cell h1 _ p1
  · rw [Nat.zero_add]; exact own_cell h1 _ p2
  · rw [Nat.zero_add]; exact own_cell h1 _ p3
  · rw [Nat.zero_add, ← fcells_set X i _ v hxi]
    exact own_set hw.1 (by omega)
theorem fin_step {N : Int} {P : List F3} {i : Nat} {x : F3} (h : ((P.take i).map (finP N) ++ P.drop i)[i]? = some x) (hi : i < P.length) : P[i]? = some x ∧ ((P.take i).map (finP N) ++ P.drop i).set i (finP N x) = (P.take (i + 1)).map (finP N) ++ P.drop (i + 1) := by
  have hl : ((P.take i).map (finP N)).length = i := by simp; omega
  rw [List.getElem?_append_right (by omega), hl, Nat.sub_self, List.getElem?_drop, Nat.add_zero] at h
  refine ⟨h, ?_⟩
  have e : P.drop i = x :: P.drop (i + 1) := by
    rw [List.drop_eq_getElem_cons hi]
    rw [List.getElem?_eq_getElem hi] at h; cases h; rfl
  have e2 : P.take (i + 1) = P.take i ++ [x] := by rw [List.take_add_one, h]; rfl
  rw [e, e2, List.set_append_right _ _ (by omega), hl, Nat.sub_self, List.map_append]
  simp

end Go.Proofs.Ytmpihcencnkpbaa
