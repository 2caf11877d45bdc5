import Derived.Test.YtipdohpbilabiaaD9
import Derived.Test.YtipdohpbilabiaaN1
/-! A range over a function whose body writes to rows that it made itself: the law of R1, where a round leaves alone what was before and the loop's own two blocks. -/
namespace Go.Proofs.Ytipdohpbilabiaa
set_option linter.unusedSimpArgs false
set_option linter.unusedVariables false
open Go Go.RowKit
section
variable {P : Program}
/-- What a round leaves alone: all below n0, and the blocks B and B + 1. -/
structure Kep (n0 B : Nat) (W W' : World) : Prop where
  below : Below n0 W W'
  two : ∀ k, (k = B ∨ k = B + 1) → k < W.heap.size → W'.heap[k]? = W.heap[k]?
theorem Kep.refl (n0 B : Nat) (W : World) : Kep n0 B W W := ⟨Below.refl _ _, fun _ _ _ => rfl⟩
theorem Kep.trans {n0 B : Nat} {a b c : World} (h : Kep n0 B a b) (k : Kep n0 B b c) : Kep n0 B a c :=
  ⟨h.below.trans k.below, fun i h1 h2 => (k.two i h1 (Nat.lt_of_lt_of_le h2 h.below.size)).trans (h.two i h1 h2)⟩
theorem Kep.of_below {n0 B : Nat} {a b : World} (h : Below a.heap.size a b) (hn : n0 ≤ a.heap.size) : Kep n0 B a b := ⟨h.mono hn, fun k _ hk => h.block k hk⟩
theorem Kep.set {n0 B : Nat} {a : World} {p : Addr} (h1 : n0 ≤ p.block) (h2 : p.block ≠ B) (h3 : p.block ≠ B + 1) (v : Value) : Kep n0 B a (a.setCell p v) :=
  ⟨(Below.refl n0 a).setCell h1 v, fun k hk _ => Below.heap_setCell _ _ _ _ (by omega)⟩
theorem Kep.grown {n0 B : Nat} {a b : World} {r : Option Nat} (h : a.grownBy b r) (hn : n0 ≤ a.heap.size) (hr : ∀ k, r = some k → n0 ≤ k ∧ k ≠ B ∧ k ≠ B + 1) : Kep n0 B a b :=
  ⟨⟨h.os, h.tape, h.output, h.size, fun k hk => h.block k (by omega) (fun e => by have := hr k e.symm; omega)⟩, fun k hk hlt => h.block k hlt (fun e => by have := hr k e.symm; omega)⟩
theorem own_heap {w w' : World} {base size : Nat} {e : TypeId} {v : Value} {n : Nat} {xs : List Value} (h : w.ownsRow base e size v n xs) (hk : ∀ g, v.ownBlock = some g → w'.heap[g]? = w.heap[g]?) : w'.ownsRow base e size v n xs := by
  refine ⟨h.1, ?_⟩
  rcases h.2 with h' | ⟨g, cap, cur, rfl, h2, h3, h4⟩
  · exact .inl h'
  · exact .inr ⟨g, cap, cur, rfl, h2, (hk g rfl).trans h3, h4⟩

/-- What an iterator does: it hands over all of xs, one by one, if each round goes on; its own steps are of the kind StI. -/
def Itr {α : Type} (P : Program) (gf : Nat) (bd lb : Array Value) (encs : α → Array Value) (xs : List α) (StI : World → World → Prop) (n0 B : Nat) (w : World) : Prop :=
  ∀ (l : Nat) (J : List α → World → Prop) (W : World), Below w.heap.size w W → W.heap.size = B →
    (∀ pre W1 W2, J pre W1 → StI W1 W2 → J pre W2) →
    (∀ pre x, (∃ rest, xs = pre ++ x :: rest) → ∀ W1, J pre W1 → YieldAt Fence.wide 0 P l (encs x) W1 fun e W' => e = .returned (.bool true) ∧ J (pre ++ [x]) W') →
    J [] W → Calls P gf (bd ++ #[.func (.yield l) #[] #[]] ++ lb) W fun e W' => (∃ v, e = .returned v) ∧ J xs W'

theorem wp_rangeFuncC {α : Type} {g : Operand} {ps : Array Tmp} {assign body : Code} {Q : Exit → Act → World → Prop} {a : Act} {w : World} {gf : Nat} {bd lb : Array Value} (n0 : Nat) (hn0 : n0 ≤ w.heap.size) {encs : α → Array Value} {xs : List α} {StI St : World → World → Prop}
    (hg : a.eval g = .func (.func gf) bd lb) (eg : ∀ args w, (callFunc gf args).run P w = .ok (.enter gf args) w) (hps : ∀ x, (encs x).size = ps.size)
    (hIt : Itr P gf bd lb encs xs StI n0 (w.heap.size + 2) w)
    (hSt : ∀ W W', Sta w.heap.size W W' → St W W') (hI1 : ∀ W W', w.heap.size + 2 ≤ W.heap.size → StI W W' → Below (w.heap.size + 2) W W') (hI2 : ∀ W W', StI W W' → St W W')
    (I : List α → World → Prop) (hI : ∀ pre W W', I pre W → St W W' → I pre W') (h0 : I [] w)
    (Ax : α → Act → World → Prop) (hAx : ∀ x a' W W', Ax x a' W → Sta w.heap.size W W' → Ax x a' W')
    (hassign : ∀ (l : Nat) (pre : List α) (x : α) (W : World) (K : Act → World → Prop), (∃ rest, xs = pre ++ x :: rest) → I pre W → w.heap.size + 2 ≤ W.heap.size →
      (∀ a' W', Kep n0 w.heap.size W W' → I pre W' → Ax x a' W' → K a' W') →
      assign.wpIn (RF l) 0 P (Exit.then K fun _ _ _ => False) { tmps := (ps.zip (encs x)).foldl (fun t (p, v) => t.setIfInBounds p v) a.tmps, defers := [] } W)
    (hbody : ∀ (l : Nat) (pre : List α) (x : α) (a' : Act) (W : World), (∃ rest, xs = pre ++ x :: rest) → I pre W → Ax x a' W → w.heap.size + 2 ≤ W.heap.size →
      body.wpIn (RF l) 0 P (Exit.then (fun _ W' => Kep n0 w.heap.size W W' ∧ I (pre ++ [x]) W') fun _ _ _ => False) a' W)
    (hdone : ∀ W, I xs W → W.heap[w.heap.size]? = some (.deferred (some [])) → w.heap.size + 2 ≤ W.heap.size → Q .normal { a with defers := { target := .collected w.heap.size, args := #[] } :: a.defers } W) :
    (Code.rangeFunc g ps assign body).wp P Q a w := by
  refine wpIn_wide (n := 1).1 (wpIn_rangeFunc ?_)
  intro fn _
  obtain ⟨rec, hrec⟩ : ∃ rec : LoopState → Option Code → Loop, rec = fun st pe => { state := st, pending := pe, fn, tmps := a.tmps, params := ps, assign, body, defers := w.heap.size } := ⟨_, rfl⟩
  obtain ⟨W1, hW1⟩ : ∃ W1, (w.alloc (.deferred (some []))).alloc (.loop (rec .ready none)) = W1 := ⟨_, rfl⟩
  have hs1 : W1.heap.size = w.heap.size + 2 := by rw [← hW1]; simp
  have hL1 : W1.heap[w.heap.size + 1]? = some (.loop (rec .ready none)) := by
    rw [← hW1]; have := World.alloc_heap_new (w.alloc (.deferred (some []))) (.loop (rec .ready none)); rwa [World.size_alloc] at this
  have hK1 : W1.heap[w.heap.size]? = some (.deferred (some [])) := by
    rw [← hW1]; exact (Below.heap_alloc _ _ _ (by simp)).trans (World.alloc_heap_new w _)
  have hb1 : Below w.heap.size w W1 := by
    rw [← hW1]; exact ((Below.refl _ w).alloc (Nat.le_refl _) _).alloc (by simp) _
  have hI0 : I [] W1 := hI _ _ _ h0 (hSt _ _ (Sta.of_below hb1))
  refine ⟨w.heap.size + 1, [{ target := .collected w.heap.size, args := #[] }], W1, { target := .fn (.func gf) lb, args := bd ++ #[.func (.yield (w.heap.size + 1)) #[] #[]] }, W1, gf,
    bd ++ #[.func (.yield (w.heap.size + 1)) #[] #[]] ++ lb, W1, ?_, ?_, fun _ _ => trivial, ?_, fun e => (by cases e), ?_⟩
  · rw [← hW1, hrec]; exact run_enterLoop_outer _ _ _ _ _
  · simp only [resolve, hg]
    simp [go_sem]
  · simp [invoke, go_sem, eg]
  refine callsIn_wide.2 ((hIt (w.heap.size + 1)
    (fun pre W => I pre W ∧ W.heap[w.heap.size + 1]? = some (.loop (rec .ready none)) ∧ W.heap[w.heap.size]? = some (.deferred (some [])) ∧ w.heap.size + 2 ≤ W.heap.size)
    W1 hb1 hs1 ?_ ?_ ⟨hI0, hL1, hK1, by omega⟩).mono ?_)
  · rintro pre V1 V2 ⟨i1, i2, i3, i4⟩ hst
    have hb := hI1 _ _ i4 hst
    exact ⟨hI _ _ _ i1 (hI2 _ _ hst), (hb.block _ (by omega)).trans i2, (hb.block _ (by omega)).trans i3, Nat.le_trans i4 hb.size⟩
  · rintro pre x hx V ⟨i1, i2, i3, i4⟩
    have hy := run_yield (P := P) (args := encs x) i2 (by rw [hrec]; exact hps x)
    rw [hrec] at hy
    refine ⟨fn, _, assign, body, hy, roundIn_of_wpIn trivial (hassign _ pre x V _ hx i1 i4 ?_)⟩
    intro a' Va hka ia hax
    have l1 := (hka.two _ (.inr rfl) (by omega)).trans i2
    have k1 := (hka.two _ (.inl rfl) (by omega)).trans i3
    have z1 : w.heap.size + 2 ≤ Va.heap.size := Nat.le_trans i4 hka.below.size
    refine ⟨_, run_beginRound l1 (by rw [hrec]), ?_⟩
    have hsp : ∀ (W : World) (o : Obj), Sta w.heap.size W (W.putObj (w.heap.size + 1) o) := fun W o => Sta.putObj (.inr rfl)
    have l2 : (Va.putObj (w.heap.size + 1) (.loop { rec .ready none with state := .busy })).heap[w.heap.size + 1]? = some (.loop { rec .ready none with state := .busy }) := World.putObj_heap_same (by omega)
    have k2 : (Va.putObj (w.heap.size + 1) (.loop { rec .ready none with state := .busy })).heap[w.heap.size]? = some (.deferred (some [])) := (World.putObj_heap_other (by omega)).trans k1
    refine Go.wpIn_mono (hbody _ pre x a' _ hx (hI _ _ _ ia (hSt _ _ (hsp _ _))) (hAx _ _ _ _ hax (hsp _ _)) (by simpa using z1)) ?_
    rintro e a3 V3 hp
    cases e with
    | normal =>
      obtain ⟨hk3, hi3⟩ := hp
      have l3 := (hk3.two (w.heap.size + 1) (.inr rfl) (by simp; omega)).trans l2
      have k3 := (hk3.two w.heap.size (.inl rfl) (by simp; omega)).trans k2
      have hs3 : w.heap.size + 2 ≤ V3.heap.size := by have := hk3.below.size; simp at this; omega
      have he := run_endRound (P := P) none l3
      rw [hrec] at he
      refine ⟨_, _, he, rfl, ⟨hI _ _ _ hi3 (hSt _ _ (hsp _ _)), ?_, (World.putObj_heap_other (by omega)).trans k3, by simpa using hs3⟩⟩
      · rw [hrec]; exact World.putObj_heap_same (by omega)
    | ret => exact hp.elim
    | exit id => exact hp.elim
    | goto t => exact hp.elim
    | panic ch => exact hp.elim
    | outgrown => exact hp.elim
  · rintro e V ⟨⟨v, rfl⟩, i1, i2, i3, i4⟩
    refine ⟨none, _, (by have := run_endLoop (P := P) i2 (by rw [hrec]; simp); rw [hrec] at this; exact this), ?_⟩
    exact hdone _ (hI _ _ _ i1 (hSt _ _ (Sta.putObj (.inr rfl)))) ((World.putObj_heap_other (by omega)).trans i3) (by simpa using i4)

end
set_option maxRecDepth 100000 in
set_option maxHeartbeats 2000000 in
theorem each_itr (t : Nat) (ht : t < 64) (n0 B : Nat) (w : World) : Itr Try.prog 83 #[.int .u8 (t : Int)] #[] (fun x : Nat => #[.int .i64 (x : Int)]) (bitsOf t) (fun W W' => Below W.heap.size W W') n0 B w := by
  intro l J W hW hs hJ hY h0
  refine callsIn_wide (n := 0).1 (callsIn_of_wp Try.func83 rfl trivial ?_ rfl)
  simp only [Try.ntmps83, List.size_toArray, List.length_cons, List.length_nil, Nat.reduceAdd, Nat.reduceSub, Array.replicate_succ, Array.replicate_zero, List.push_toArray, List.append_toArray, List.nil_append, List.cons_append, List.append_nil]
  gi_wp2
  gi_loopw [4, 5] (fun v4 v5 wr => ∃ k : Nat, k ≤ 6 ∧ v5 = .int .i64 (k : Int) ∧ J (bitsTo t k) wr) (fun _ v5 _ => 6 - (intOf v5).toNat)
  case atStart => exact ⟨0, Nat.zero_le _, rfl, h0⟩
  case round =>
    obtain ⟨k, hk, rfl, hJ1⟩ := hrel
    by_cases hlt : k < 6
    · have hkI : (k : Int) < 6 := by omega
      have hc := has_any t k ht hlt wr
      have hsc := bitsTo_succ t k
      cases hb : t.testBit k
      · rw [hb] at hc hsc
        simp only [Bool.false_eq_true, if_false, List.append_nil] at hsc
        gi_wp2_with (refine ⟨trivial, rfl, (callsIn_wide.2 hc).mono ?_⟩; rintro e W1 ⟨rfl, rfl⟩)
        refine ⟨fun _ h => (by cases h), ?_⟩
        gi_wp2
        go_roundw
        case rel => exact ⟨k + 1, hlt, by simp, by rw [hsc]; exact hJ1⟩
        case measure => simp [intOf]; omega
      · rw [hb] at hc hsc
        simp only [if_true] at hsc
        have hr : ∃ rest, bitsOf t = bitsTo t k ++ k :: rest := by
          have e : bitsOf t = bitsTo t (k + 1) ++ ((List.range (6 - (k + 1))).map (k + 1 + ·)).filter t.testBit := by
            unfold bitsOf bitsTo
            rw [← List.filter_append, ← List.range_add, show k + 1 + (6 - (k + 1)) = 6 by omega]
          rw [e, hsc, List.append_assoc]
          exact ⟨_, rfl⟩
        obtain ⟨fn, tmps, assign, body, hy, hR⟩ := hY _ k hr wr hJ1
        gi_wp2_with (first | (refine ⟨trivial, rfl, (callsIn_wide.2 hc).mono ?_⟩; clear hc; rintro e W1 ⟨rfl, rfl⟩) | (refine ⟨rfl, hR.mono ?_⟩; clear hR; rintro e W2 ⟨rfl, hJ2⟩))
        gi_wp2
        go_roundw
        case rel => exact ⟨k + 1, hlt, by simp, by rw [hsc]; exact hJ2⟩
        case measure => simp [intOf]; omega
    · have hkI : ¬ (k : Int) < 6 := by omega
      gi_wp2
      go_end0
      obtain rfl : k = 6 := by omega
      exact ⟨⟨_, rfl⟩, hJ1⟩
end Go.Proofs.Ytipdohpbilabiaa
