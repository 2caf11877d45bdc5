import Derived.Test.YteianfbdhakhpaaG1
import Derived.RangeFuncLeaves
import Derived.RangeFuncSeq
import Derived.RangeFuncCalls
import Derived.RangeFuncNested
import Derived.OrdersIn
import Derived.TacticsIn
/-! A range over a function whose body goes on to its end, at the fence that lets all by: the iterator may be a method value, may keep state in cells that it lays itself; regions of a round walked as they are walked elsewhere. -/
namespace Go.Proofs.Yteianfbdhakhpaa
open Go Go.RowKit
section
variable {P : Program}

/-- The fence that lets all by, within a round. -/
abbrev RF (l : Nat) : Fence := Fence.wide.inRound l

def noDef (o : Oper) : Bool := match o.op with | .defer _ => false | _ => true
theorem noDef_spec {o : Oper} (h : noDef o = true) : ∀ c, o.op ≠ .defer c := by
  intro c e; simp [noDef, e] at h

theorem rowsIn_of {l n : Nat} {row : String} {args : Array Value} {w : World} {R : Value → World → Prop} (h : Rows P row args w R) : RowsIn (RF l) n P row args w R := fun c cs _ => by
  obtain ⟨v, w', r, s⟩ := h c cs
  exact ⟨v, w', r, stepsIn_wide.2 s⟩

theorem operIn_of {l n : Nat} {o : Oper} {a : Act} {w : World} {next : Act → World → Prop} {Q : Exit → Act → World → Prop} (hd : noDef o = true) (h : o.wp P a w next Q) : o.wpIn (RF l) n P a w next Q := by
  refine ⟨fun _ _ => trivial, ?_⟩
  show o.uponIn (RF l) n P a next Q ((o.semAt (some l) a.eval).run P w)
  rw [Oper.semAt_some l _ _ (noDef_spec hd)]
  unfold Oper.wp at h
  generalize (execOp a.eval o).run P w = r at *
  cases r with
  | ok x w' =>
    cases x <;> simp only [Oper.upon] at h <;> simp only [Oper.uponIn]
    case value u => exact h
    case skip => exact h
    case defer d => exact h
    case enter f args => exact ⟨fun e => (by cases e), CallsIn.inRound l (callsIn_wide.2 h)⟩
    case row row args => exact ⟨fun e => (by cases e), rowsIn_of h⟩
  | halt x w' => cases x <;> simp only [Oper.upon] at h <;> simp only [Oper.uponIn]; exact h

section
variable {ops : Array Oper} {Q : Exit → Act → World → Prop} {l n : Nat}

theorem opIn_of (hd : ops.toList.all noDef = true) (hlo : ¬ LetsOut Q) {i : Nat} {K K' : Act → World → Prop} {a : Act} {w : World} (hK : ∀ a w, K a w → K' a w) (h : wpOp P ops Q i K a w) : wpOpIn (RF l) n P ops Q i K' a w := by
  unfold wpOp at h
  unfold wpOpIn
  cases ho : ops[i]? with
  | none => simp only [ho] at h ⊢; exact hK _ _ h
  | some o =>
    simp only [ho] at h ⊢
    have hdo : noDef o = true := by
      obtain ⟨hlt, rfl⟩ := Array.getElem?_eq_some_iff.1 ho
      exact List.all_eq_true.1 hd _ (by simp)
    by_cases hw : Region.wanted o (yielded ops a.tmps) = true
    · simp only [hw, if_true] at h ⊢
      rcases h with h | ⟨_, h⟩
      · exact Oper.wpIn_mono hK (operIn_of hdo h)
      · exact absurd h hlo
    · simp only [hw, if_false, Bool.false_eq_true] at h ⊢
      exact ⟨fun _ _ => trivial, hK _ _ h⟩

theorem anyIn_of (hd : ops.toList.all noDef = true) (hlo : ¬ LetsOut Q) {md : Region.Mode} : ∀ (fuel : Nat) (s : Array Bool) (a : Act) (w : World), wpAny P md ops Q fuel s a w → wpAnyIn (RF l) n P md ops Q fuel s a w
  | 0, _, _, _, h => h
  | fuel + 1, _, _, _, h => ⟨h.1, fun i hi => opIn_of hd hlo (fun a w hh => anyIn_of hd hlo fuel _ a w hh) (h.2 i hi)⟩

theorem listIn_of (hlo : ¬ LetsOut Q) : ∀ (L : List Oper) (a : Act) (w : World), L.all noDef = true → wpList P ops Q L a w → wpListIn (RF l) n P ops Q L a w
  | [], _, _, _, h => h
  | o :: L, a, w, hd, h => by
    simp only [List.all_cons, Bool.and_eq_true] at hd
    unfold wpList at h
    unfold wpListIn
    by_cases hw : Region.wanted o (yielded ops a.tmps) = true
    · simp only [hw, if_true] at h ⊢
      rcases h with h | ⟨_, h⟩
      · exact Oper.wpIn_mono (fun a w hh => listIn_of hlo L a w hd.2 hh) (operIn_of hd.1 h)
      · exact absurd h hlo
    · simp only [hw, if_false, Bool.false_eq_true] at h ⊢
      exact ⟨fun _ _ => trivial, listIn_of hlo L _ w hd.2 h⟩
end

theorem only_lets {K : Act → World → Prop} : ¬ LetsOut (Exit.then K fun _ _ _ => False) := fun ⟨_, _, h⟩ => h
theorem only_lets2 {K : Act → World → Prop} : ¬ LetsOut (NoPanic (Exit.then K fun _ _ _ => False)) := fun ⟨_, _, h⟩ => h
theorem only_imp {Q : Exit → Act → World → Prop} : ∀ (e : Exit) (a : Act) (w : World), Exit.then (Q .normal) (fun _ _ _ => False) e a w → Q e a w := fun e a w h => by
  cases e <;> first | exact h | exact h.elim
theorem only_imp2 {Q : Exit → Act → World → Prop} : ∀ (e : Exit) (a : Act) (w : World), NoPanic (Exit.then (Q .normal) (fun _ _ _ => False)) e a w → Q e a w := fun e a w h => by
  cases e <;> first | exact h | exact (h : False).elim

/-- A region of a round, in its order. -/
theorem wpIn_region_plain {id l n : Nat} {Q : Exit → Act → World → Prop} {a : Act} {w : World} {L : List Oper} (hd : L.all noDef = true)
    (h : wpList P L.toArray (Exit.then (Q .normal) fun _ _ _ => False) L a w) : (Code.region id L.toArray false).wpIn (RF l) n P Q a w :=
  wpIn_mono (wpIn_region_lit (listIn_of only_lets L a w hd h)) only_imp

/-- A region of a round that draws its order, by its head. -/
theorem wpIn_region_head {id l m : Nat} {Q : Exit → Act → World → Prop} {a : Act} {w : World} {L : List Oper} (n : Nat) (S : World → Prop) (hm : P.follows .mixedOrders = true) (hn : (L.all noDef && decide (n < L.length)) = true)
    (h : HeadAt P L (Exit.then (Q .normal) fun _ _ _ => False) S n n (Array.replicate L.length false) a w.drew) : (Code.region id L.toArray true).wpIn (RF l) m P Q a w := by
  simp only [Bool.and_eq_true, decide_eq_true_eq] at hn
  obtain ⟨hd, hn⟩ := hn
  have inv0 : HeadInv .any L.toArray n (Array.replicate L.length false) := by
    refine ⟨by simp, fun j oj _ hl => ?_, fun t _ ht => getD_in (by simpa using ht) (getD_replicate_false _ _)⟩
    rw [getD_replicate_false] at hl; cases hl
  have := headH_any (g := L.length - n) (fun s a w (hL : tailL P .any L (NoPanic (Exit.then (Q .normal) fun _ _ _ => False)) n s a w) => by
    have := wpAny_of_seq (md := .any) (Q' := NoPanic (Exit.then (Q .normal) fun _ _ _ => False)) (L.drop n) n s a w (fun j => by simp [List.getElem?_drop]) (by rw [List.length_drop]; exact hL.1) hL.2
    rwa [List.length_drop] at this) _ _ _ _ (h inv0)
  rw [show n + (L.length - n) = L.length by omega] at this
  refine wpIn_mono (wpIn_region_any hm (anyIn_of (by simpa using hd) only_lets2 _ _ _ _ ?_)) only_imp2
  simpa using this

/-! ### The law -/

/-- All that is there stays, but for the blocks B and B + 1. -/
structure Sta (B : Nat) (W W' : World) : Prop where
  os : W'.os = W.os
  tape : W'.tape = W.tape
  output : W'.output = W.output
  size : W.heap.size ≤ W'.heap.size
  block : ∀ k, k < W.heap.size → k ≠ B → k ≠ B + 1 → W'.heap[k]? = W.heap[k]?

theorem Sta.below {B : Nat} {W W' : World} (h : Sta B W W') (hB : B ≤ W.heap.size) : Below B W W' := ⟨h.os, h.tape, h.output, h.size, fun k hk => h.block k (by omega) (by omega) (by omega)⟩
theorem Sta.of_below {B : Nat} {W W' : World} (h : Below W.heap.size W W') : Sta B W W' := ⟨h.os, h.tape, h.output, h.size, fun k hk _ _ => h.block k hk⟩
theorem Sta.putObj {B l : Nat} {W : World} {o : Obj} (hl : l = B ∨ l = B + 1) : Sta B W (W.putObj l o) :=
  ⟨rfl, rfl, rfl, by simp, fun k _ h1 h2 => World.putObj_heap_other (by rcases hl with rfl | rfl <;> assumption)⟩

/-- What a round leaves alone: all below n0, and all at or beyond B. -/
structure Kept (n0 B : Nat) (W W' : World) : Prop where
  below : Below n0 W W'
  over : ∀ k, B ≤ k → k < W.heap.size → W'.heap[k]? = W.heap[k]?
theorem Kept.refl (n0 B : Nat) (W : World) : Kept n0 B W W := ⟨Below.refl _ _, fun _ _ _ => rfl⟩
theorem Kept.trans {n0 B : Nat} {a b c : World} (h : Kept n0 B a b) (k : Kept n0 B b c) : Kept n0 B a c :=
  ⟨h.below.trans k.below, fun i h1 h2 => (k.over i h1 (Nat.lt_of_lt_of_le h2 h.below.size)).trans (h.over i h1 h2)⟩
theorem Kept.of_below {n0 B : Nat} {a b : World} (h : Below a.heap.size a b) (hn : n0 ≤ a.heap.size) : Kept n0 B a b := ⟨h.mono hn, fun k _ hk => h.block k hk⟩
theorem Kept.more {n0 B B' : Nat} {a b : World} (h : Kept n0 B a b) (hB : B ≤ B') : Kept n0 B' a b := ⟨h.below, fun k h1 h2 => h.over k (by omega) h2⟩
theorem Kept.set {n0 B : Nat} {a : World} {p : Addr} (h1 : n0 ≤ p.block) (h2 : p.block < B) (v : Value) : Kept n0 B a (a.setCell p v) :=
  ⟨(Below.refl n0 a).setCell h1 v, fun k hk _ => Below.heap_setCell _ _ _ _ (by omega)⟩
theorem Kept.bx {n0 B : Nat} {a b : World} (h : Kept n0 B a b) {k : Nat} {vs : Array Value} {T : TypeId} (hx : Bx a k vs T) (hk : B ≤ k) : Bx b k vs T := by
  unfold Bx at *; rw [h.over k hk (Bx.lt hx)]; exact hx
theorem Kept.bx0 {n0 B : Nat} {a b : World} (h : Kept n0 B a b) {k : Nat} {vs : Array Value} {T : TypeId} (hx : Bx a k vs T) (hk : k < n0) : Bx b k vs T := by
  unfold Bx at *; rw [h.below.block k hk]; exact hx

/-- What an iterator does: it hands over all of xs, one by one, if each round goes on; its own steps are of the kind StI. -/
def Iter {α : Type} (P : Program) (gf : Nat) (bd lb : Array Value) (encs : α → Array Value) (xs : List α) (StI : World → World → Prop) (n0 B : Nat) (w : World) : Prop :=
  ∀ (l : Nat) (J : List α → World → Prop) (W : World), Below w.heap.size w W → W.heap.size = B →
    (∀ pre W1 W2, J pre W1 → StI W1 W2 → J pre W2) →
    (∀ pre x, (∃ rest, xs = pre ++ x :: rest) → ∀ W1, J pre W1 → YieldAt Fence.wide 0 P l (encs x) W1 fun e W' => e = .returned (.bool true) ∧ J (pre ++ [x]) W' ∧ Kept n0 B W1 W') →
    J [] W → Calls P gf (bd ++ #[.func (.yield l) #[] #[]] ++ lb) W fun e W' => (∃ v, e = .returned v) ∧ J xs W'

theorem wp_rangeFuncB {α : Type} {g : Operand} {ps : Array Tmp} {assign body : Code} {Q : Exit → Act → World → Prop} {a : Act} {w : World} {gf : Nat} {bd lb : Array Value} (n0 : Nat) (hn0 : n0 ≤ w.heap.size) {encs : α → Array Value} {xs : List α} {StI St : World → World → Prop}
    (hg : a.eval g = .func (.func gf) bd lb) (eg : ∀ args w, (callFunc gf args).run P w = .ok (.enter gf args) w) (hps : ∀ x, (encs x).size = ps.size)
    (hIt : Iter P gf bd lb encs xs StI n0 (w.heap.size + 2) w)
    (hSt : ∀ W W', Sta w.heap.size W W' → St W W') (hI1 : ∀ W W', w.heap.size + 2 ≤ W.heap.size → StI W W' → Below (w.heap.size + 2) W W') (hI2 : ∀ W W', StI W W' → St W W')
    (I : List α → World → Prop) (hI : ∀ pre W W', I pre W → St W W' → I pre W') (h0 : I [] w)
    (Ax : α → Act → World → Prop) (hAx : ∀ x a' W W', Ax x a' W → Sta w.heap.size W W' → Ax x a' W')
    (hassign : ∀ (l : Nat) (pre : List α) (x : α) (W : World) (K : Act → World → Prop), (∃ rest, xs = pre ++ x :: rest) → I pre W → w.heap.size + 2 ≤ W.heap.size →
      (∀ a' W', Kept n0 w.heap.size W W' → I pre W' → Ax x a' W' → K a' W') →
      assign.wpIn (RF l) 0 P (Exit.then K fun _ _ _ => False) { tmps := (ps.zip (encs x)).foldl (fun t (p, v) => t.setIfInBounds p v) a.tmps, defers := [] } W)
    (hbody : ∀ (l : Nat) (pre : List α) (x : α) (a' : Act) (W : World), (∃ rest, xs = pre ++ x :: rest) → I pre W → Ax x a' W → w.heap.size + 2 ≤ W.heap.size →
      body.wpIn (RF l) 0 P (Exit.then (fun _ W' => Kept n0 w.heap.size W W' ∧ I (pre ++ [x]) W') fun _ _ _ => False) a' W)
    (hdone : ∀ W, I xs W → W.heap[w.heap.size]? = some (.deferred (some [])) → w.heap.size + 2 ≤ W.heap.size → Q .normal { a with defers := { target := .collected w.heap.size, args := #[] } :: a.defers } W) :
    (Code.rangeFunc g ps assign body).wp P Q a w := by
  refine wpIn_wide (n := 1).1 (wpIn_rangeFunc ?_)
  intro fn _
  obtain ⟨rec, hrec⟩ : ∃ rec : LoopState → Option Code → Loop, rec = fun st pe => { state := st, pending := pe, fn, tmps := a.tmps, params := ps, assign, body, defers := w.heap.size } := ⟨_, rfl⟩
  obtain ⟨W1, hW1⟩ : ∃ W1, (w.alloc (.deferred (some []))).alloc (.loop (rec .ready none)) = W1 := ⟨_, rfl⟩
  have hs1 : W1.heap.size = w.heap.size + 2 := by rw [← hW1]; simp
  have hL1 : W1.heap[w.heap.size + 1]? = some (.loop (rec .ready none)) := by
    rw [← hW1]; have := World.alloc_heap_new (w.alloc (.deferred (some []))) (.loop (rec .ready none)); rwa [World.size_alloc] at this
  have hK1 : W1.heap[w.heap.size]? = some (.deferred (some [])) := by
    rw [← hW1]; exact (Below.heap_alloc _ _ _ (by simp)).trans (World.alloc_heap_new w _)
  have hb1 : Below w.heap.size w W1 := by
    rw [← hW1]; exact ((Below.refl _ w).alloc (Nat.le_refl _) _).alloc (by simp) _
  have hI0 : I [] W1 := hI _ _ _ h0 (hSt _ _ (Sta.of_below hb1))
  refine ⟨w.heap.size + 1, [{ target := .collected w.heap.size, args := #[] }], W1, { target := .fn (.func gf) lb, args := bd ++ #[.func (.yield (w.heap.size + 1)) #[] #[]] }, W1, gf,
    bd ++ #[.func (.yield (w.heap.size + 1)) #[] #[]] ++ lb, W1, ?_, ?_, fun _ _ => trivial, ?_, fun e => (by cases e), ?_⟩
  · rw [← hW1, hrec]; exact run_enterLoop_outer _ _ _ _ _
  · simp only [resolve, hg]
    simp [go_sem]
  · simp [invoke, go_sem, eg]
  refine callsIn_wide.2 ((hIt (w.heap.size + 1)
    (fun pre W => I pre W ∧ W.heap[w.heap.size + 1]? = some (.loop (rec .ready none)) ∧ W.heap[w.heap.size]? = some (.deferred (some [])) ∧ w.heap.size + 2 ≤ W.heap.size)
    W1 hb1 hs1 ?_ ?_ ⟨hI0, hL1, hK1, by omega⟩).mono ?_)
  · rintro pre V1 V2 ⟨i1, i2, i3, i4⟩ hst
    have hb := hI1 _ _ i4 hst
    exact ⟨hI _ _ _ i1 (hI2 _ _ hst), (hb.block _ (by omega)).trans i2, (hb.block _ (by omega)).trans i3, Nat.le_trans i4 hb.size⟩
  · rintro pre x hx V ⟨i1, i2, i3, i4⟩
    have hy := run_yield (P := P) (args := encs x) i2 (by rw [hrec]; exact hps x)
    rw [hrec] at hy
    refine ⟨fn, _, assign, body, hy, roundIn_of_wpIn trivial (hassign _ pre x V _ hx i1 i4 ?_)⟩
    intro a' Va hka ia hax
    have l1 := (hka.over _ (by omega) (by omega)).trans i2
    have k1 := (hka.over _ (Nat.le_refl _) (by omega)).trans i3
    have z1 : w.heap.size + 2 ≤ Va.heap.size := Nat.le_trans i4 hka.below.size
    refine ⟨_, run_beginRound l1 (by rw [hrec]), ?_⟩
    have hsp : ∀ (W : World) (o : Obj), Sta w.heap.size W (W.putObj (w.heap.size + 1) o) := fun W o => Sta.putObj (.inr rfl)
    have hkp : ∀ (W : World) (o : Obj), Kept n0 (w.heap.size + 2) W (W.putObj (w.heap.size + 1) o) := fun W o =>
      ⟨⟨rfl, rfl, rfl, by simp, fun k hk => World.putObj_heap_other (by omega)⟩, fun k hk _ => World.putObj_heap_other (by omega)⟩
    have l2 : (Va.putObj (w.heap.size + 1) (.loop { rec .ready none with state := .busy })).heap[w.heap.size + 1]? = some (.loop { rec .ready none with state := .busy }) := World.putObj_heap_same (by omega)
    have k2 : (Va.putObj (w.heap.size + 1) (.loop { rec .ready none with state := .busy })).heap[w.heap.size]? = some (.deferred (some [])) := (World.putObj_heap_other (by omega)).trans k1
    refine Go.wpIn_mono (hbody _ pre x a' _ hx (hI _ _ _ ia (hSt _ _ (hsp _ _))) (hAx _ _ _ _ hax (hsp _ _)) (by simpa using z1)) ?_
    rintro e a3 V3 hp
    cases e with
    | normal =>
      obtain ⟨hk3, hi3⟩ := hp
      have l3 := (hk3.over (w.heap.size + 1) (by omega) (by simp; omega)).trans l2
      have k3 := (hk3.over w.heap.size (Nat.le_refl _) (by simp; omega)).trans k2
      have hs3 : w.heap.size + 2 ≤ V3.heap.size := by have := hk3.below.size; simp at this; omega
      have he := run_endRound (P := P) none l3
      rw [hrec] at he
      refine ⟨_, _, he, rfl, ⟨hI _ _ _ hi3 (hSt _ _ (hsp _ _)), ?_, (World.putObj_heap_other (by omega)).trans k3, by simpa using hs3⟩, ?_⟩
      · rw [hrec]; exact World.putObj_heap_same (by omega)
      · exact ((hka.more (by omega)).trans (hkp _ _)).trans ((hk3.more (by omega)).trans (hkp _ _))
    | ret => exact hp.elim
    | exit id => exact hp.elim
    | goto t => exact hp.elim
    | panic ch => exact hp.elim
    | outgrown => exact hp.elim
  · rintro e V ⟨⟨v, rfl⟩, i1, i2, i3, i4⟩
    refine ⟨none, _, (by have := run_endLoop (P := P) i2 (by rw [hrec]; simp); rw [hrec] at this; exact this), ?_⟩
    exact hdone _ (hI _ _ _ i1 (hSt _ _ (Sta.putObj (.inr rfl)))) ((World.putObj_heap_other (by omega)).trans i3) (by simpa using i4)

/-! ### The function's end -/

/-- Marks of loops that are over: blocks at or beyond B, each another one. -/
def Marks (B : Nat) (w : World) : List Deferred → Prop
  | [] => True
  | d :: ds => (∃ D, d = { target := .collected D, args := #[] } ∧ B ≤ D ∧ w.heap[D]? = some (.deferred (some [])) ∧ Marks B w ds ∧ ∀ d' ∈ ds, d'.target ≠ .collected D)

/-- All cells stay: what is no block of marks. -/
def Cel (B : Nat) (W W' : World) : Prop := Below B W W' ∧ ∀ (k : Nat) (vs : Array Value) (T : TypeId) (z : Nat × Nat), W.heap[k]? = some (Obj.cells vs T z) → W'.heap[k]? = some (Obj.cells vs T z)
theorem Cel.refl (B : Nat) (W : World) : Cel B W W := ⟨Below.refl _ _, fun _ _ _ _ h => h⟩
theorem Cel.trans {B : Nat} {a b c : World} (h : Cel B a b) (k : Cel B b c) : Cel B a c := ⟨h.1.trans k.1, fun _ _ _ _ hh => k.2 _ _ _ _ (h.2 _ _ _ _ hh)⟩
theorem Cel.bx {B : Nat} {a b : World} (h : Cel B a b) {k : Nat} {vs : Array Value} {T : TypeId} (hx : Bx a k vs T) : Bx b k vs T := h.2 _ _ _ _ hx

theorem Marks.keep {B : Nat} {W W' : World} : ∀ {ds : List Deferred}, Marks B W ds → (∀ D, (∃ d ∈ ds, d.target = .collected D) → W'.heap[D]? = W.heap[D]?) → Marks B W' ds
  | [], _, _ => trivial
  | d :: ds, ⟨D, hd, hB, hD, hm, hne⟩, h => ⟨D, hd, hB, (h D ⟨d, List.mem_cons_self, by rw [hd]⟩).trans hD, Marks.keep hm (fun D' ⟨d', hm', e⟩ => h D' ⟨d', List.mem_cons_of_mem _ hm', e⟩), hne⟩

theorem leaves_marks {fn : Func} {tmps : Array Value} {R : Ending → World → Prop} {B : Nat} : ∀ (ds : List Deferred) (w : World), Marks B w ds →
    (∀ w', Cel B w w' → LeavesIn Fence.wide 0 P fn tmps R [] .returning w') → LeavesInM Fence.wide 0 P fn tmps R ds .returning w
  | [], w, _, h => h w (Cel.refl _ _)
  | d :: ds, w, ⟨D, hd, hB, hD, hm, hne⟩, h => by
    refine ⟨by simp, .inl ⟨D, _, by rw [hd], run_takeDeferred hD, ?_⟩⟩
    have hc0 : Cel B w (w.putObj D (.deferred none)) := ⟨⟨rfl, rfl, rfl, by simp, fun k hk => World.putObj_heap_other (by omega)⟩, fun k vs T z hk => by
      by_cases e : k = D
      · subst e; rw [hD] at hk; cases hk
      · exact (World.putObj_heap_other e).trans hk⟩
    exact leaves_marks ds _ (Marks.keep hm fun D' ⟨d', hm', e⟩ => World.putObj_heap_other (fun e2 => hne d' hm' (by rw [e, e2]))) fun w' hc => h w' (hc0.trans hc)

/-- A function's contract, where its body holds a range over a function. -/
theorem calls_of_wp_marks {f : FuncId} {fn : Func} {c : Code} {args : Array Value} {w : World} {R : Ending → World → Prop}
    (hf : P.funcs[f]? = some fn) (hb : fn.body = some c)
    (h : c.wp P (bodyPostM Fence.wide 0 P fn R) { tmps := args ++ Array.replicate (fn.ntmps - args.size) undef, defers := [] } w) : Calls P f args w R :=
  callsIn_wide.1 (callsIn_of_wp_marks hf hb trivial (wpIn_wide.2 h))
end
end Go.Proofs.Yteianfbdhakhpaa
