import Derived.Test.YthgjjlkdekfdbaaR1
/-! The law of R1 where what is handed over is told by a relation: its memory may be the iterator's own. -/
namespace Go.Proofs.Ythgjjlkdekfdbaa
set_option linter.unusedSimpArgs false
set_option linter.unusedVariables false
open Go Go.RowKit
section
variable {P : Program}
/-- What an iterator does: it hands over all of xs, one by one, if each round goes on; its own steps are of the kind StI. -/
def IterD {α : Type} (P : Program) (gf : Nat) (bd lb : Array Value) (E : α → Array Value → World → Prop) (xs : List α) (StI : World → World → Prop) (n0 B : Nat) (w : World) : Prop :=
  ∀ (l : Nat) (J : List α → World → Prop) (W : World), Below w.heap.size w W → W.heap.size = B →
    (∀ pre W1 W2, J pre W1 → StI W1 W2 → J pre W2) →
    (∀ pre x vs, (∃ rest, xs = pre ++ x :: rest) → ∀ W1, J pre W1 → E x vs W1 → YieldAt Fence.wide 0 P l vs W1 fun e W' => e = .returned (.bool true) ∧ J (pre ++ [x]) W' ∧ Kept n0 B W1 W') →
    J [] W → Calls P gf (bd ++ #[.func (.yield l) #[] #[]] ++ lb) W fun e W' => (∃ v, e = .returned v) ∧ J xs W'

theorem wp_rangeFuncD {α : Type} {g : Operand} {ps : Array Tmp} {assign body : Code} {Q : Exit → Act → World → Prop} {a : Act} {w : World} {gf : Nat} {bd lb : Array Value} (n0 : Nat) (hn0 : n0 ≤ w.heap.size) {E : α → Array Value → World → Prop} {xs : List α} {StI St : World → World → Prop}
    (hg : a.eval g = .func (.func gf) bd lb) (eg : ∀ args w, (callFunc gf args).run P w = .ok (.enter gf args) w) (hps : ∀ x vs W, E x vs W → vs.size = ps.size)
    (hIt : IterD P gf bd lb E xs StI n0 (w.heap.size + 2) w)
    (hSt : ∀ W W', Sta w.heap.size W W' → St W W') (hI1 : ∀ W W', w.heap.size + 2 ≤ W.heap.size → StI W W' → Below (w.heap.size + 2) W W') (hI2 : ∀ W W', StI W W' → St W W')
    (I : List α → World → Prop) (hI : ∀ pre W W', I pre W → St W W' → I pre W') (h0 : I [] w)
    (Ax : α → Act → World → Prop) (hAx : ∀ x a' W W', Ax x a' W → Sta w.heap.size W W' → Ax x a' W')
    (hassign : ∀ (l : Nat) (pre : List α) (x : α) (vs : Array Value) (W : World) (K : Act → World → Prop), (∃ rest, xs = pre ++ x :: rest) → I pre W → E x vs W → w.heap.size + 2 ≤ W.heap.size →
      (∀ a' W', Kept n0 w.heap.size W W' → I pre W' → Ax x a' W' → K a' W') →
      assign.wpIn (RF l) 0 P (Exit.then K fun _ _ _ => False) { tmps := (ps.zip vs).foldl (fun t (p, v) => t.setIfInBounds p v) a.tmps, defers := [] } W)
    (hbody : ∀ (l : Nat) (pre : List α) (x : α) (a' : Act) (W : World), (∃ rest, xs = pre ++ x :: rest) → I pre W → Ax x a' W → w.heap.size + 2 ≤ W.heap.size →
      body.wpIn (RF l) 0 P (Exit.then (fun _ W' => Kept n0 w.heap.size W W' ∧ I (pre ++ [x]) W') fun _ _ _ => False) a' W)
    (hdone : ∀ W, I xs W → W.heap[w.heap.size]? = some (.deferred (some [])) → w.heap.size + 2 ≤ W.heap.size → Q .normal { a with defers := { target := .collected w.heap.size, args := #[] } :: a.defers } W) :
    (Code.rangeFunc g ps assign body).wp P Q a w := by
  refine wpIn_wide (n := 1).1 (wpIn_rangeFunc ?_)
  intro fn _
  obtain ⟨rec, hrec⟩ : ∃ rec : LoopState → Option Code → Loop, rec = fun st pe => { state := st, pending := pe, fn, tmps := a.tmps, params := ps, assign, body, defers := w.heap.size } := ⟨_, rfl⟩
  obtain ⟨W1, hW1⟩ : ∃ W1, (w.alloc (.deferred (some []))).alloc (.loop (rec .ready none)) = W1 := ⟨_, rfl⟩
  have hs1 : W1.heap.size = w.heap.size + 2 := by rw [← hW1]; simp
  have hL1 : W1.heap[w.heap.size + 1]? = some (.loop (rec .ready none)) := by
    rw [← hW1]; have := World.alloc_heap_new (w.alloc (.deferred (some []))) (.loop (rec .ready none)); rwa [World.size_alloc] at this
  have hK1 : W1.heap[w.heap.size]? = some (.deferred (some [])) := by
    rw [← hW1]; exact (Below.heap_alloc _ _ _ (by simp)).trans (World.alloc_heap_new w _)
  have hb1 : Below w.heap.size w W1 := by
    rw [← hW1]; exact ((Below.refl _ w).alloc (Nat.le_refl _) _).alloc (by simp) _
  have hI0 : I [] W1 := hI _ _ _ h0 (hSt _ _ (Sta.of_below hb1))
  refine ⟨w.heap.size + 1, [{ target := .collected w.heap.size, args := #[] }], W1, { target := .fn (.func gf) lb, args := bd ++ #[.func (.yield (w.heap.size + 1)) #[] #[]] }, W1, gf,
    bd ++ #[.func (.yield (w.heap.size + 1)) #[] #[]] ++ lb, W1, ?_, ?_, fun _ _ => trivial, ?_, fun e => (by cases e), ?_⟩
  · rw [← hW1, hrec]; exact run_enterLoop_outer _ _ _ _ _
  · simp only [resolve, hg]
    simp [go_sem]
  · simp [invoke, go_sem, eg]
  refine callsIn_wide.2 ((hIt (w.heap.size + 1)
    (fun pre W => I pre W ∧ W.heap[w.heap.size + 1]? = some (.loop (rec .ready none)) ∧ W.heap[w.heap.size]? = some (.deferred (some [])) ∧ w.heap.size + 2 ≤ W.heap.size)
    W1 hb1 hs1 ?_ ?_ ⟨hI0, hL1, hK1, by omega⟩).mono ?_)
  · rintro pre V1 V2 ⟨i1, i2, i3, i4⟩ hst
    have hb := hI1 _ _ i4 hst
    exact ⟨hI _ _ _ i1 (hI2 _ _ hst), (hb.block _ (by omega)).trans i2, (hb.block _ (by omega)).trans i3, Nat.le_trans i4 hb.size⟩
  · rintro pre x vs hx V ⟨i1, i2, i3, i4⟩ hE
    have hy := run_yield (P := P) (args := vs) i2 (by rw [hrec]; exact hps x vs _ hE)
    rw [hrec] at hy
    refine ⟨fn, _, assign, body, hy, roundIn_of_wpIn trivial (hassign _ pre x vs V _ hx i1 hE i4 ?_)⟩
    intro a' Va hka ia hax
    have l1 := (hka.over _ (by omega) (by omega)).trans i2
    have k1 := (hka.over _ (Nat.le_refl _) (by omega)).trans i3
    have z1 : w.heap.size + 2 ≤ Va.heap.size := Nat.le_trans i4 hka.below.size
    refine ⟨_, run_beginRound l1 (by rw [hrec]), ?_⟩
    have hsp : ∀ (W : World) (o : Obj), Sta w.heap.size W (W.putObj (w.heap.size + 1) o) := fun W o => Sta.putObj (.inr rfl)
    have hkp : ∀ (W : World) (o : Obj), Kept n0 (w.heap.size + 2) W (W.putObj (w.heap.size + 1) o) := fun W o =>
      ⟨⟨rfl, rfl, rfl, by simp, fun k hk => World.putObj_heap_other (by omega)⟩, fun k hk _ => World.putObj_heap_other (by omega)⟩
    have l2 : (Va.putObj (w.heap.size + 1) (.loop { rec .ready none with state := .busy })).heap[w.heap.size + 1]? = some (.loop { rec .ready none with state := .busy }) := World.putObj_heap_same (by omega)
    have k2 : (Va.putObj (w.heap.size + 1) (.loop { rec .ready none with state := .busy })).heap[w.heap.size]? = some (.deferred (some [])) := (World.putObj_heap_other (by omega)).trans k1
    refine Go.wpIn_mono (hbody _ pre x a' _ hx (hI _ _ _ ia (hSt _ _ (hsp _ _))) (hAx _ _ _ _ hax (hsp _ _)) (by simpa using z1)) ?_
    rintro e a3 V3 hp
    cases e with
    | normal =>
      obtain ⟨hk3, hi3⟩ := hp
      have l3 := (hk3.over (w.heap.size + 1) (by omega) (by simp; omega)).trans l2
      have k3 := (hk3.over w.heap.size (Nat.le_refl _) (by simp; omega)).trans k2
      have hs3 : w.heap.size + 2 ≤ V3.heap.size := by have := hk3.below.size; simp at this; omega
      have he := run_endRound (P := P) none l3
      rw [hrec] at he
      refine ⟨_, _, he, rfl, ⟨hI _ _ _ hi3 (hSt _ _ (hsp _ _)), ?_, (World.putObj_heap_other (by omega)).trans k3, by simpa using hs3⟩, ?_⟩
      · rw [hrec]; exact World.putObj_heap_same (by omega)
      · exact ((hka.more (by omega)).trans (hkp _ _)).trans ((hk3.more (by omega)).trans (hkp _ _))
    | ret => exact hp.elim
    | exit id => exact hp.elim
    | goto t => exact hp.elim
    | panic ch => exact hp.elim
    | outgrown => exact hp.elim
  · rintro e V ⟨⟨v, rfl⟩, i1, i2, i3, i4⟩
    refine ⟨none, _, (by have := run_endLoop (P := P) i2 (by rw [hrec]; simp); rw [hrec] at this; exact this), ?_⟩
    exact hdone _ (hI _ _ _ i1 (hSt _ _ (Sta.putObj (.inr rfl)))) ((World.putObj_heap_other (by omega)).trans i3) (by simpa using i4)


end
theorem Ints.kept {n0 B : Nat} {a b : World} (hk : Kept n0 B a b) {x : Option Addr} {xs : List Int} (h : Ints a x xs) (hB : ∀ ad, x = some ad → B ≤ ad.block) : Ints b x xs := by
  obtain ⟨h1, h2, h3⟩ := h
  refine ⟨h1, h2, fun i hi => ?_⟩
  obtain ⟨g, off, ha, hb, hc⟩ := h3 i hi
  have hg : B ≤ g := hB _ ha
  refine ⟨g, off, ha, Nat.lt_of_lt_of_le hb hk.below.size, ?_⟩
  rw [← hc]
  unfold World.cell?
  simp only [hk.over g hg hb]
end Go.Proofs.Ythgjjlkdekfdbaa
