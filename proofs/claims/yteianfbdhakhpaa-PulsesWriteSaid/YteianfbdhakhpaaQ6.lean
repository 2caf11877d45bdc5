import Derived.Test.YteianfbdhakhpaaR1
import Derived.ArgAppend
/-! The law of R1 where what is handed over is told by a relation, and where a round may write to some blocks of its own, and to rows of one type. -/
namespace Go.Proofs.Yteianfbdhakhpaa
set_option linter.unusedSimpArgs false
set_option linter.unusedVariables false
open Go Go.RowKit
section
variable {P : Program}
/-- What a round may do: it writes to blocks of C alone, and to rows of the type T. -/
structure Kc (T : TypeId) (n0 : Nat) (C : Nat → Prop) (W W' : World) : Prop where
  os : W'.os = W.os
  tape : W'.tape = W.tape
  output : W'.output = W.output
  size : W.heap.size ≤ W'.heap.size
  block : ∀ k, k < W.heap.size → ¬ C k → (k < n0 ∨ ∀ vs z, W.heap[k]? ≠ some (.cells vs T z)) → W'.heap[k]? = W.heap[k]?
theorem Kc.refl (T : TypeId) (n0 : Nat) (C : Nat → Prop) (W : World) : Kc T n0 C W W := ⟨rfl, rfl, rfl, Nat.le_refl _, fun _ _ _ _ => rfl⟩
theorem Kc.trans {T : TypeId} {n0 : Nat} {C : Nat → Prop} {a b c : World} (h : Kc T n0 C a b) (k : Kc T n0 C b c) : Kc T n0 C a c :=
  ⟨k.os.trans h.os, k.tape.trans h.tape, k.output.trans h.output, Nat.le_trans h.size k.size, fun i h1 h2 h3 => by
    have e := h.block i h1 h2 h3
    exact (k.block i (Nat.lt_of_lt_of_le h1 h.size) h2 (h3.imp id (fun h3 vs z => by rw [e]; exact h3 vs z))).trans e⟩
theorem Kc.mono {T : TypeId} {n0 : Nat} {C D : Nat → Prop} {a b : World} (h : Kc T n0 C a b) (hd : ∀ k, C k → D k) : Kc T n0 D a b :=
  ⟨h.os, h.tape, h.output, h.size, fun i h1 h2 h3 => h.block i h1 (fun e => h2 (hd i e)) h3⟩
theorem Kc.of_below {T : TypeId} {n0 : Nat} {C : Nat → Prop} {a b : World} (h : Below a.heap.size a b) : Kc T n0 C a b := ⟨h.os, h.tape, h.output, h.size, fun k hk _ _ => h.block k hk⟩
theorem Kc.put {T : TypeId} {n0 : Nat} {C : Nat → Prop} {a : World} {l : Nat} (h : C l) (o : Obj) : Kc T n0 C a (a.putObj l o) :=
  ⟨rfl, rfl, rfl, by simp, fun k _ hk _ => World.putObj_heap_other (fun e => hk (e ▸ h))⟩
theorem Kc.set {T : TypeId} {n0 : Nat} {C : Nat → Prop} {a : World} {p : Addr} (h : C p.block) (v : Value) : Kc T n0 C a (a.setCell p v) :=
  ⟨rfl, rfl, rfl, by simp [World.setCell], fun k _ hk _ => Below.heap_setCell _ _ _ _ (fun e => hk (e ▸ h))⟩
theorem Kc.grown {T : TypeId} {n0 : Nat} {C : Nat → Prop} {a b : World} {r : Option Nat} (h : a.grownBy b r) (hr : ∀ k, r = some k → a.heap.size ≤ k ∨ (n0 ≤ k ∧ ∃ vs z, a.heap[k]? = some (.cells vs T z))) : Kc T n0 C a b :=
  ⟨h.os, h.tape, h.output, h.size, fun k hk _ h3 => h.block k hk (fun e => by
    rcases hr k e.symm with h' | ⟨hn, vs, z, h'⟩
    · omega
    · rcases h3 with h3 | h3
      · omega
      · exact h3 vs z h')⟩
theorem Kc.at {T : TypeId} {n0 : Nat} {C : Nat → Prop} {a b : World} (h : Kc T n0 C a b) {k : Nat} {o : Obj} (ho : a.heap[k]? = some o) (hc : ¬ C k) (hn : ∀ vs z, o ≠ .cells vs T z) : b.heap[k]? = some o := by
  rw [h.block k (Array.getElem?_eq_some_iff.1 ho).1 hc (.inr fun vs z e => by rw [ho] at e; exact hn vs z (by injection e))]
  exact ho
theorem Kc.below {T : TypeId} {n0 : Nat} {C : Nat → Prop} {a b : World} (h : Kc T n0 C a b) (hC : ∀ k, C k → n0 ≤ k) (hn : n0 ≤ a.heap.size) : Below n0 a b :=
  ⟨h.os, h.tape, h.output, h.size, fun k hk => h.block k (by omega) (fun c => by have := hC k c; omega) (.inl hk)⟩
theorem Kc.bx {T : TypeId} {n0 : Nat} {C : Nat → Prop} {a b : World} (h : Kc T n0 C a b) {k : Nat} {vs : Array Value} {T' : TypeId} (hx : Bx a k vs T') (hc : ¬ C k) (hn : T' ≠ T) : Bx b k vs T' :=
  h.at hx hc (fun vs z e => by simp only [Obj.cells.injEq] at e; exact hn e.2.1)
theorem Cel.of_below {B : Nat} {a b : World} (h : Below a.heap.size a b) (hB : B ≤ a.heap.size) : Cel B a b := ⟨h.mono hB, fun k vs T z hk => (h.block k (Array.getElem?_eq_some_iff.1 hk).1).trans hk⟩
theorem Cel.mono {B B' : Nat} {a b : World} (h : Cel B a b) (hB : B' ≤ B) : Cel B' a b := ⟨h.1.mono hB, h.2⟩
theorem Cel.put {B : Nat} {a : World} {l : Nat} (hl : B ≤ l) {o o' : Obj} (ho : a.heap[l]? = some o) (hn : ∀ vs T z, o ≠ .cells vs T z) : Cel B a (a.putObj l o') :=
  ⟨⟨rfl, rfl, rfl, by simp, fun k hk => World.putObj_heap_other (by omega)⟩, fun k vs T z hk => by
    by_cases e : k = l
    · subst e; rw [ho] at hk; exact absurd (by injection hk) (hn vs T z)
    · exact (World.putObj_heap_other e).trans hk⟩

/-- What an iterator does: it hands over all of xs, one by one, if each round goes on; its own steps leave all cells, and all below B; the rounds write to C and to rows of the type T alone. -/
def IterF {α : Type} (P : Program) (gf : Nat) (bd lb : Array Value) (E : Nat → α → Array Value → World → Prop) (xs : List α) (T : TypeId) (n0 : Nat) (C : Nat → Prop) (B : Nat) (w : World) : Prop :=
  ∀ (l : Nat) (J : List α → World → Prop) (W : World), Below w.heap.size w W → W.heap.size = B →
    (∀ pre W1 W2, J pre W1 → Cel B W1 W2 → J pre W2) →
    (∀ pre x vs, (∃ rest, xs = pre ++ x :: rest) → ∀ W1, J pre W1 → E B x vs W1 → YieldAt Fence.wide 0 P l vs W1 fun e W' => e = .returned (.bool true) ∧ J (pre ++ [x]) W' ∧ Kc T n0 C W1 W') →
    J [] W → Calls P gf (bd ++ #[.func (.yield l) #[] #[]] ++ lb) W fun e W' => (∃ v, e = .returned v) ∧ J xs W'

theorem wp_rangeFuncF {α : Type} {g : Operand} {ps : Array Tmp} {assign body : Code} {Q : Exit → Act → World → Prop} {a : Act} {w : World} {gf : Nat} {bd lb : Array Value} {E : Nat → α → Array Value → World → Prop} {xs : List α} (T : TypeId) (n0 : Nat) (C : Nat → Prop) (hC : ∀ k, C k → k < w.heap.size)
    (hg : a.eval g = .func (.func gf) bd lb) (eg : ∀ args w, (callFunc gf args).run P w = .ok (.enter gf args) w) (hps : ∀ x vs W, E (w.heap.size + 2) x vs W → vs.size = ps.size)
    (hIt : IterF P gf bd lb E xs T n0 (fun k => C k ∨ k = w.heap.size ∨ k = w.heap.size + 1) (w.heap.size + 2) w)
    (I : List α → World → Prop) (hI : ∀ pre W W', I pre W → Cel w.heap.size W W' → I pre W') (h0 : I [] w)
    (Ax : α → Act → World → Prop) (hAx : ∀ x a' W W', Ax x a' W → Cel w.heap.size W W' → Ax x a' W')
    (hassign : ∀ (l : Nat) (pre : List α) (x : α) (vs : Array Value) (W : World) (K : Act → World → Prop), (∃ rest, xs = pre ++ x :: rest) → I pre W → E (w.heap.size + 2) x vs W → w.heap.size + 2 ≤ W.heap.size →
      (∀ a' W', Kc T n0 C W W' → I pre W' → Ax x a' W' → K a' W') →
      assign.wpIn (RF l) 0 P (Exit.then K fun _ _ _ => False) { tmps := (ps.zip vs).foldl (fun t (p, v) => t.setIfInBounds p v) a.tmps, defers := [] } W)
    (hbody : ∀ (l : Nat) (pre : List α) (x : α) (a' : Act) (W : World), (∃ rest, xs = pre ++ x :: rest) → I pre W → Ax x a' W → w.heap.size + 2 ≤ W.heap.size →
      body.wpIn (RF l) 0 P (Exit.then (fun _ W' => Kc T n0 C W W' ∧ I (pre ++ [x]) W') fun _ _ _ => False) a' W)
    (hdone : ∀ W, I xs W → W.heap[w.heap.size]? = some (.deferred (some [])) → w.heap.size + 2 ≤ W.heap.size → Q .normal { a with defers := { target := .collected w.heap.size, args := #[] } :: a.defers } W) :
    (Code.rangeFunc g ps assign body).wp P Q a w := by
  refine wpIn_wide (n := 1).1 (wpIn_rangeFunc ?_)
  intro fn _
  obtain ⟨rec, hrec⟩ : ∃ rec : LoopState → Option Code → Loop, rec = fun st pe => { state := st, pending := pe, fn, tmps := a.tmps, params := ps, assign, body, defers := w.heap.size } := ⟨_, rfl⟩
  obtain ⟨W1, hW1⟩ : ∃ W1, (w.alloc (.deferred (some []))).alloc (.loop (rec .ready none)) = W1 := ⟨_, rfl⟩
  have hs1 : W1.heap.size = w.heap.size + 2 := by rw [← hW1]; simp
  have hL1 : W1.heap[w.heap.size + 1]? = some (.loop (rec .ready none)) := by
    rw [← hW1]; have := World.alloc_heap_new (w.alloc (.deferred (some []))) (.loop (rec .ready none)); rwa [World.size_alloc] at this
  have hK1 : W1.heap[w.heap.size]? = some (.deferred (some [])) := by
    rw [← hW1]; exact (Below.heap_alloc _ _ _ (by simp)).trans (World.alloc_heap_new w _)
  have hb1 : Below w.heap.size w W1 := by
    rw [← hW1]; exact ((Below.refl _ w).alloc (Nat.le_refl _) _).alloc (by simp) _
  have hI0 : I [] W1 := hI _ _ _ h0 (Cel.of_below hb1 (Nat.le_refl _))
  have nC0 : ¬ C w.heap.size := fun h => by have := hC _ h; omega
  have nC1 : ¬ C (w.heap.size + 1) := fun h => by have := hC _ h; omega
  refine ⟨w.heap.size + 1, [{ target := .collected w.heap.size, args := #[] }], W1, { target := .fn (.func gf) lb, args := bd ++ #[.func (.yield (w.heap.size + 1)) #[] #[]] }, W1, gf,
    bd ++ #[.func (.yield (w.heap.size + 1)) #[] #[]] ++ lb, W1, ?_, ?_, fun _ _ => trivial, ?_, fun e => (by cases e), ?_⟩
  · rw [← hW1, hrec]; exact run_enterLoop_outer _ _ _ _ _
  · simp only [resolve, hg]
    simp [go_sem]
  · simp [invoke, go_sem, eg]
  refine callsIn_wide.2 ((hIt (w.heap.size + 1)
    (fun pre W => I pre W ∧ W.heap[w.heap.size + 1]? = some (.loop (rec .ready none)) ∧ W.heap[w.heap.size]? = some (.deferred (some [])) ∧ w.heap.size + 2 ≤ W.heap.size)
    W1 hb1 hs1 ?_ ?_ ⟨hI0, hL1, hK1, by omega⟩).mono ?_)
  · rintro pre V1 V2 ⟨i1, i2, i3, i4⟩ hst
    exact ⟨hI _ _ _ i1 (hst.mono (by omega)), (hst.1.block _ (by omega)).trans i2, (hst.1.block _ (by omega)).trans i3, Nat.le_trans i4 hst.1.size⟩
  · rintro pre x vs hx V ⟨i1, i2, i3, i4⟩ hE
    have hy := run_yield (P := P) (args := vs) i2 (by rw [hrec]; exact hps x vs _ hE)
    rw [hrec] at hy
    refine ⟨fn, _, assign, body, hy, roundIn_of_wpIn trivial (hassign _ pre x vs V _ hx i1 hE i4 ?_)⟩
    intro a' Va hka ia hax
    have l1 : Va.heap[w.heap.size + 1]? = some (.loop (rec .ready none)) := hka.at i2 nC1 (fun _ _ e => by cases e)
    have k1 : Va.heap[w.heap.size]? = some (.deferred (some [])) := hka.at i3 nC0 (fun _ _ e => by cases e)
    have z1 : w.heap.size + 2 ≤ Va.heap.size := Nat.le_trans i4 hka.size
    refine ⟨_, run_beginRound l1 (by rw [hrec]), ?_⟩
    have hs1' : Cel w.heap.size Va (Va.putObj (w.heap.size + 1) (.loop { rec .ready none with state := .busy })) := Cel.put (by omega) l1 (fun _ _ _ e => by cases e)
    have hkp : ∀ (W : World) (o : Obj), Kc T n0 (fun k => C k ∨ k = w.heap.size ∨ k = w.heap.size + 1) W (W.putObj (w.heap.size + 1) o) := fun W o => Kc.put (.inr (.inr rfl)) o
    have l2 : (Va.putObj (w.heap.size + 1) (.loop { rec .ready none with state := .busy })).heap[w.heap.size + 1]? = some (.loop { rec .ready none with state := .busy }) := World.putObj_heap_same (by omega)
    have k2 : (Va.putObj (w.heap.size + 1) (.loop { rec .ready none with state := .busy })).heap[w.heap.size]? = some (.deferred (some [])) := (World.putObj_heap_other (by omega)).trans k1
    refine Go.wpIn_mono (hbody _ pre x a' _ hx (hI _ _ _ ia hs1') (hAx _ _ _ _ hax hs1') (by simpa using z1)) ?_
    rintro e a3 V3 hp
    cases e with
    | normal =>
      obtain ⟨hk3, hi3⟩ := hp
      have l3 : V3.heap[w.heap.size + 1]? = some (.loop { rec .ready none with state := .busy }) := hk3.at l2 nC1 (fun _ _ e => by cases e)
      have k3 : V3.heap[w.heap.size]? = some (.deferred (some [])) := hk3.at k2 nC0 (fun _ _ e => by cases e)
      have hs3 : w.heap.size + 2 ≤ V3.heap.size := by have := hk3.size; simp at this; omega
      have he := run_endRound (P := P) none l3
      rw [hrec] at he
      refine ⟨_, _, he, rfl, ⟨hI _ _ _ hi3 (Cel.put (by omega) l3 (fun _ _ _ e => by cases e)), ?_, (World.putObj_heap_other (by omega)).trans k3, by simpa using hs3⟩, ?_⟩
      · rw [hrec]; exact World.putObj_heap_same (by omega)
      · exact ((hka.mono (fun k h => .inl h)).trans (hkp _ _)).trans ((hk3.mono (fun k h => .inl h)).trans (hkp _ _))
    | ret => exact hp.elim
    | exit id => exact hp.elim
    | goto t => exact hp.elim
    | panic ch => exact hp.elim
    | outgrown => exact hp.elim
  · rintro e V ⟨⟨v, rfl⟩, i1, i2, i3, i4⟩
    refine ⟨none, _, (by have := run_endLoop (P := P) i2 (by rw [hrec]; simp); rw [hrec] at this; exact this), ?_⟩
    exact hdone _ (hI _ _ _ i1 (Cel.put (by omega) i2 (fun _ _ _ e => by cases e))) ((World.putObj_heap_other (by omega)).trans i3) (by simpa using i4)
end

/-- A slice of numbers in rows of numbers, at or beyond B. -/
structure Iz (B : Nat) (w : World) (a : Option Addr) (L : List Int) : Prop where
  i : Ints w a L
  t : ∀ ad, a = some ad → ∃ vs z, w.heap[ad.block]? = some (.cells vs 3 z)
  b : ∀ ad, a = some ad → B ≤ ad.block
theorem Iz.none_ (B : Nat) (w : World) : Iz B w none [] := ⟨⟨by simp, fun x hx => by simp at hx, fun i hi => by simp at hi⟩, (fun _ e => nomatch e), (fun _ e => nomatch e)⟩
theorem Iz.lt {B : Nat} {w : World} {a : Option Addr} {L : List Int} (h : Iz B w a L) : ∀ ad, a = some ad → ad.block < w.heap.size := fun ad e => by
  obtain ⟨vs, z, hh⟩ := h.t ad e
  exact (Array.getElem?_eq_some_iff.1 hh).1
theorem Iz.of {B : Nat} {w w' : World} {a : Option Addr} {L : List Int} (h : Iz B w a L) (hs : w.heap.size ≤ w'.heap.size) (hk : ∀ ad vs z, a = some ad → w.heap[ad.block]? = some (.cells vs 3 z) → w'.heap[ad.block]? = some (.cells vs 3 z)) : Iz B w' a L := by
  have he : ∀ ad, a = some ad → w'.heap[ad.block]? = w.heap[ad.block]? := fun ad e => by
    obtain ⟨vs, z, hh⟩ := h.t ad e
    rw [hk ad vs z e hh, hh]
  refine ⟨?_, fun ad e => ?_, h.b⟩
  · obtain ⟨h1, h2, h3⟩ := h.i
    refine ⟨h1, h2, fun i hi => ?_⟩
    obtain ⟨b, off, ha, hbs, hc⟩ := h3 i hi
    refine ⟨b, off, ha, by omega, ?_⟩
    rw [← hc]
    have hh := he _ ha
    unfold World.cell?
    simp only at hh
    simp only [hh]
  · obtain ⟨vs, z, hh⟩ := h.t ad e
    exact ⟨vs, z, hk ad vs z e hh⟩
theorem Iz.below {B : Nat} {w w' : World} {a : Option Addr} {L : List Int} (h : Iz B w a L) (hb : Below w.heap.size w w') : Iz B w' a L :=
  h.of hb.size (fun ad vs z e hh => by rw [hb.block _ (h.lt ad e)]; exact hh)
theorem Iz.cel {B B' : Nat} {w w' : World} {a : Option Addr} {L : List Int} (h : Iz B w a L) (hc : Cel B' w w') : Iz B w' a L :=
  h.of hc.1.size (fun ad vs z e hh => hc.2 _ _ _ _ hh)
theorem Iz.kc {T : TypeId} (hT : T ≠ 3) {n0 : Nat} {C : Nat → Prop} {B : Nat} {w w' : World} {a : Option Addr} {L : List Int} (h : Iz B w a L) (hk : Kc T n0 C w w') (hC : ∀ k, C k → k < B) : Iz B w' a L :=
  h.of hk.size (fun ad vs z e hh => hk.at hh (fun c => by have := hC _ c; have := h.b ad e; omega) (fun vs' z' e' => by simp only [Obj.cells.injEq] at e'; exact hT e'.2.1.symm))
theorem Iz.mono {B B' : Nat} {w : World} {a : Option Addr} {L : List Int} (h : Iz B w a L) (hB : B' ≤ B) : Iz B' w a L := ⟨h.i, h.t, fun ad e => Nat.le_trans hB (h.b ad e)⟩
end Go.Proofs.Yteianfbdhakhpaa
/-! A head of a region where several operations that make memory can come in any order: what each makes stays true whatever the others make. -/
namespace Go.Proofs.Yteianfbdhakhpaa
open Go Go.RowKit
section
variable {P : Program} {S : World → Prop} {Q : Exit → Act → World → Prop}

/-- All orders from a state on: only operations of idx come up, and at the end the state is s1. -/
def chkRg (ops : Array Oper) (n : Nat) (idx : List Nat) (s1 : Array Bool) : Nat → Array Bool → Bool
  | 0, s => s == s1
  | f + 1, s => !(Region.ready .any ops s).isEmpty && (Region.ready .any ops s).all fun i => decide (i < n) && (idx.contains i && chkRg ops n idx s1 f (s.setIfInBounds i true))
def predB (ops : Array Oper) (j i : Nat) : Bool := match ops[i]? with
  | some o => o.after.toList.any fun e => Region.binds .any e && e.on == j
  | none => false
def updU (u : Nat → Value) (i : Nat) (v : Value) : Nat → Value := fun j => if j = i then v else u j

theorem HeadAt.rg {l : List Oper} {n f0 : Nat} {s0 : Array Bool} (idx : List Nat) (k : Nat) (A : (Nat → Value) → Act) (F : Nat → Value → World → Prop) (u0 : Nat → Value)
    (hb : (chkRg l.toArray n idx (idx.foldl (fun s i => s.setIfInBounds i true) s0) k s0 && (idx.all fun j => (idx.foldl (fun s i => s.setIfInBounds i true) s0).getD j false) && (idx.all fun j => !s0.getD j false)) = true)
    (hS : ∀ w w', S w → Below w.heap.size w w' → S w') (hF : ∀ j v w w', F j v w → Below w.heap.size w w' → F j v w')
    (hstep : ∀ i, i ∈ idx → ∀ o, l.toArray[i]? = some o → ∀ (u : Nat → Value) (w : World), S w → (∀ j, j ∈ idx → predB l.toArray j i = true → F j (u j) w) →
      wpList P l.toArray (Upto (fun a' w' => ∃ v, a' = A (updU u i v) ∧ Below w.heap.size w w' ∧ F i v w') (NoPanic Q)) [o] (A u) w)
    (hdone : ∀ (u : Nat → Value) (w : World), S w → (∀ j, j ∈ idx → F j (u j) w) → HeadAt P l Q S n f0 (idx.foldl (fun s i => s.setIfInBounds i true) s0) (A u) w)
    {w : World} (hw : S w) : HeadAt P l Q S n (f0 + k) s0 (A u0) w := by
  simp only [Bool.and_eq_true] at hb
  obtain ⟨⟨hb, hall1⟩, hall0⟩ := hb
  generalize idx.foldl (fun s i => s.setIfInBounds i true) s0 = s1 at *
  suffices h : ∀ (k : Nat) (s : Array Bool) (u : Nat → Value) (w : World), chkRg l.toArray n idx s1 k s = true → S w → (∀ j, j ∈ idx → s.getD j false = true → F j (u j) w) → HeadAt P l Q S n (f0 + k) s (A u) w from
    h k s0 u0 w hb hw (fun j hj hs => by
      have := List.all_eq_true.1 hall0 j hj
      rw [hs] at this; cases this)
  intro k
  induction k with
  | zero =>
    intro s u w hc hSw hFs
    have e : s = s1 := by simpa [chkRg] using hc
    subst e
    exact hdone u w hSw (fun j hj => hFs j hj (List.all_eq_true.1 hall1 j hj))
  | succ k ih =>
    intro s u w hc hSw hFs
    unfold chkRg at hc
    simp only [Bool.and_eq_true, Bool.not_eq_true', List.all_eq_true, decide_eq_true_eq] at hc
    obtain ⟨hne, hall⟩ := hc
    intro inv
    refine ⟨fun e => by rw [e] at hne; simp at hne, fun i hi => ?_⟩
    obtain ⟨hin, hid, hck⟩ := hall i hi
    have hid' : i ∈ idx := by simpa using hid
    obtain ⟨hun, oi, hoi, hpre⟩ := mem_ready.1 hi
    refine ⟨hin, wpOp_mono (fun a' w' h' => ?_) (wpOp_of_list hoi (hstep i hid' oi hoi u w hSw (fun j hj hp => hFs j hj ?_)))⟩
    · obtain ⟨v, rfl, hbl, hFi⟩ := h'
      have hSw' := hS _ _ hSw hbl
      refine ⟨hSw', ih _ _ _ hck hSw' (fun j hj hsj => ?_) (inv.set hi hin)⟩
      unfold updU
      by_cases e : j = i
      · rw [if_pos e, e]; exact hFi
      · rw [if_neg e]
        rw [getD_set_ne false (Ne.symm e)] at hsj
        exact hF _ _ _ _ (hFs j hj hsj) hbl
    · unfold predB at hp
      rw [hoi] at hp
      simp only [List.any_eq_true, Bool.and_eq_true, beq_iff_eq] at hp
      obtain ⟨e, he, h1, h2⟩ := hp
      rw [← h2]
      exact hpre e (by simpa using he) h1

/-- append to an empty literal. -/
theorem wpList_appLit {ops : Array Oper} {rest : List Oper} {o : Oper} {a : Act} {w : World} (hgd : o.guard = none) (s x : Operand) (t : TypeId)
    (ho : o.op = .call { callee := .builtin .append, args := #[s, x], argTypes := #[t, t] })
    (base : Nat) (e : TypeId) (i : TypeInfo) (z : Value) (size bytes : Nat) (ht : P.underlying t = some (.slice e)) (hi : P.info? e = some i) (hz : i.zero = some z)
    (hsize : i.size = size) (hby : i.bytes = bytes) (hzs : z.cells.size = size) (hsz : 0 < size)
    (g : Nat) (hs : a.eval s = .slice (some ⟨g, 0, none⟩) 0 0) (hown : w.ownsRow base e size (.slice (some ⟨g, 0, none⟩) 0 0) 0 [])
    (A : Option Addr) (m c : Nat) (news : List Value) (hx : a.eval x = .slice A m c) (hl : news.length = m * size) (hr : Cls w A news) (h1 : ∀ u ∈ news, u.oneCell' = true)
    (h63 : m ≤ maxLen) (hbytes : m * bytes ≤ 140737488355328) (hbase : base ≤ w.heap.size)
    (h : ∀ v' w', w'.ownsRow base e size v' m news → Below w.heap.size w w' → (∀ q, v'.ownBlock = some q → (m = 0 ∧ q = g) ∨ w.heap.size ≤ q) → wpList P ops Q rest (a.put o.dst v') w') : wpList P ops Q (o :: rest) a w := by
  rcases A with _ | ad
  · have hn := hr.nil
    subst hn
    have hm : m = 0 := by
      rcases Nat.eq_zero_or_pos m with h0 | h0
      · exact h0
      · have := Nat.mul_pos h0 hsz
        simp at hl; omega
    subst hm
    refine wpList_plain hgd fun K hK => ?_
    have hrun := run_app_nil (P := P) base t o.type e i size ht hi (.slice (some ⟨g, 0, none⟩) 0 0) 0 [] hown c
    unfold Oper.wp
    simp [execOp, ho, resolve, invoke, builtin, hs, hx, hrun, Result.andThen]
    exact hK _ _ (h _ w hown (Below.refl _ _) (fun q hq => .inl ⟨rfl, by simpa [Value.ownBlock] using hq.symm⟩))
  · have hc : ∀ j u, news[j]? = some u → w.cell? (ad.add j) = some u := fun j u hj => by
      obtain ⟨b, off, ha, _, hc⟩ := hr j u hj
      cases ha
      have e1 : (⟨b, off, none⟩ : Addr).add j = ⟨b, off + j, none⟩ := by unfold Addr.add; split <;> simp_all
      rw [e1]
      exact hc
    refine wpList_append_arg w hgd s x t ho e i z size bytes ht hi hz hsize hby hzs hsz g 0 0 0 [] hs (by simp) (fun j u hj => by simp at hj) ad m c news hx hl hc h1 (fun hle j hj => by
        have : m = 0 := by omega
        subst this
        simp at hl; rw [hl] at hj; simp at hj) (by omega) (by rw [Nat.zero_add]; exact hbytes) (fun hle => ?_) (fun hlt v' w' ho' hg' => ?_)
    · have hm : m = 0 := by omega
      subst hm
      have hn : news = [] := List.eq_nil_of_length_eq_zero (by simpa using hl)
      subst hn
      have e : w.setCells g (0 + 0 * size) [] = w := by simp [World.setCells]
      rw [e]
      exact h _ w hown (Below.refl _ _) (fun q hq => .inl ⟨rfl, by simpa [Value.ownBlock] using hq.symm⟩)
    · have hb : Below w.heap.size w w' := ⟨hg'.os, hg'.tape, hg'.output, hg'.size, fun k hk => hg'.block k hk (by simp)⟩
      rw [Nat.zero_add, List.nil_append] at ho'
      refine h v' w' ?_ hb (fun q hq => .inr (own_ge2 ho' q hq))
      refine ⟨ho'.1, ?_⟩
      rcases ho'.2 with h' | ⟨g', cap, cur, h2, h3, h4⟩
      · exact .inl h'
      · exact .inr ⟨g', cap, cur, h2, by omega, h4⟩
end
end Go.Proofs.Yteianfbdhakhpaa
/-! As HeadAt.rg (Q5), where what an operation makes is said together with what those before it made. -/
namespace Go.Proofs.Yteianfbdhakhpaa
open Go Go.RowKit
section
variable {P : Program} {S : World → Prop} {Q : Exit → Act → World → Prop}

/-- i comes before j, by at most f + 1 steps. -/
def ancB (ops : Array Oper) : Nat → Nat → Nat → Bool
  | 0, i, j => predB ops i j
  | f + 1, i, j => predB ops i j || (List.range ops.size).any fun k => predB ops k j && ancB ops f i k
theorem anc_done {ops : Array Oper} {n : Nat} {s : Array Bool} (inv : HeadInv .any ops n s) : ∀ (f i j : Nat), ancB ops f i j = true → s.getD j false = true → s.getD i false = true := by
  have one : ∀ i j, predB ops i j = true → s.getD j false = true → s.getD i false = true := fun i j hp hj => by
    unfold predB at hp
    cases ho : ops[j]? with
    | none => rw [ho] at hp; cases hp
    | some o =>
      rw [ho] at hp
      simp only [List.any_eq_true, Bool.and_eq_true, beq_iff_eq] at hp
      obtain ⟨e, he, h1, h2⟩ := hp
      rw [← h2]
      exact inv.closed j o ho hj e (by simpa using he) h1
  intro f
  induction f with
  | zero => intro i j h hj; exact one i j h hj
  | succ f ih =>
    intro i j h hj
    unfold ancB at h
    rw [Bool.or_eq_true] at h
    rcases h with h | h
    · exact one i j h hj
    · simp only [List.any_eq_true, Bool.and_eq_true] at h
      obtain ⟨k, _, h1, h2⟩ := h
      exact ih i k h2 (one k j h1 hj)
theorem anc_ready {ops : Array Oper} {n : Nat} {s : Array Bool} (inv : HeadInv .any ops n s) {i : Nat} (hi : i ∈ Region.ready .any ops s) : ∀ (f k : Nat), ancB ops f k i = true → s.getD k false = true := by
  obtain ⟨_, oi, hoi, hpre⟩ := mem_ready.1 hi
  have one : ∀ k, predB ops k i = true → s.getD k false = true := fun k hp => by
    unfold predB at hp
    rw [hoi] at hp
    simp only [List.any_eq_true, Bool.and_eq_true, beq_iff_eq] at hp
    obtain ⟨e, he, h1, h2⟩ := hp
    rw [← h2]
    exact hpre e (by simpa using he) h1
  intro f
  cases f with
  | zero => intro k h; exact one k h
  | succ f =>
    intro k h
    unfold ancB at h
    rw [Bool.or_eq_true] at h
    rcases h with h | h
    · exact one k h
    · simp only [List.any_eq_true, Bool.and_eq_true] at h
      obtain ⟨m, _, h1, h2⟩ := h
      exact anc_done inv f k m h2 (one m h1)

theorem HeadAt.rg2 {l : List Oper} {n f0 : Nat} {s0 : Array Bool} (idx : List Nat) (k d : Nat) (A : (Nat → Value) → Act) (F : Nat → (Nat → Value) → World → Prop) (u0 : Nat → Value)
    (hb : (chkRg l.toArray n idx (idx.foldl (fun s i => s.setIfInBounds i true) s0) k s0 && (idx.all fun j => (idx.foldl (fun s i => s.setIfInBounds i true) s0).getD j false) && (idx.all fun j => !s0.getD j false)) = true)
    (hS : ∀ w w', S w → Below w.heap.size w w' → S w') (hF : ∀ j u w w', F j u w → Below w.heap.size w w' → F j u w')
    (hU : ∀ i j, i ∈ idx → j ∈ idx → i ≠ j → ancB l.toArray d i j = false → ∀ u v w, F j u w → F j (updU u i v) w)
    (hstep : ∀ i, i ∈ idx → ∀ o, l.toArray[i]? = some o → ∀ (u : Nat → Value) (w : World), S w → (∀ j, j ∈ idx → ancB l.toArray d j i = true → F j u w) →
      wpList P l.toArray (Upto (fun a' w' => ∃ v, a' = A (updU u i v) ∧ Below w.heap.size w w' ∧ F i (updU u i v) w') (NoPanic Q)) [o] (A u) w)
    (hdone : ∀ (u : Nat → Value) (w : World), S w → (∀ j, j ∈ idx → F j u w) → HeadAt P l Q S n f0 (idx.foldl (fun s i => s.setIfInBounds i true) s0) (A u) w)
    {w : World} (hw : S w) : HeadAt P l Q S n (f0 + k) s0 (A u0) w := by
  simp only [Bool.and_eq_true] at hb
  obtain ⟨⟨hb, hall1⟩, hall0⟩ := hb
  generalize idx.foldl (fun s i => s.setIfInBounds i true) s0 = s1 at *
  suffices h : ∀ (k : Nat) (s : Array Bool) (u : Nat → Value) (w : World), chkRg l.toArray n idx s1 k s = true → S w → (∀ j, j ∈ idx → s.getD j false = true → F j u w) → HeadAt P l Q S n (f0 + k) s (A u) w from
    h k s0 u0 w hb hw (fun j hj hs => by
      have := List.all_eq_true.1 hall0 j hj
      rw [hs] at this; cases this)
  intro k
  induction k with
  | zero =>
    intro s u w hc hSw hFs
    have e : s = s1 := by simpa [chkRg] using hc
    subst e
    exact hdone u w hSw (fun j hj => hFs j hj (List.all_eq_true.1 hall1 j hj))
  | succ k ih =>
    intro s u w hc hSw hFs
    unfold chkRg at hc
    simp only [Bool.and_eq_true, Bool.not_eq_true', List.all_eq_true, decide_eq_true_eq] at hc
    obtain ⟨hne, hall⟩ := hc
    intro inv
    refine ⟨fun e => by rw [e] at hne; simp at hne, fun i hi => ?_⟩
    obtain ⟨hin, hid, hck⟩ := hall i hi
    have hid' : i ∈ idx := by simpa using hid
    obtain ⟨hun, oi, hoi, hpre⟩ := mem_ready.1 hi
    refine ⟨hin, wpOp_mono (fun a' w' h' => ?_) (wpOp_of_list hoi (hstep i hid' oi hoi u w hSw (fun j hj hp => hFs j hj (anc_ready inv hi d j hp))))⟩
    obtain ⟨v, rfl, hbl, hFi⟩ := h'
    have hSw' := hS _ _ hSw hbl
    refine ⟨hSw', ih _ _ _ hck hSw' (fun j hj hsj => ?_) (inv.set hi hin)⟩
    by_cases e : j = i
    · rw [e]; exact hFi
    · rw [getD_set_ne false (Ne.symm e)] at hsj
      refine hU i j hid' hj (Ne.symm e) ?_ _ _ _ (hF _ _ _ _ (hFs j hj hsj) hbl)
      cases ha : ancB l.toArray d i j with
      | false => rfl
      | true =>
        have := anc_done inv d i j ha hsj
        rw [getD_both hun] at this
        cases this
end
end Go.Proofs.Yteianfbdhakhpaa
