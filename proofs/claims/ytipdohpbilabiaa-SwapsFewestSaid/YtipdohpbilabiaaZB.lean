import Derived.Test.YtipdohpbilabiaaZA
import Derived.Test.YtipdohpbilabiaaVL
import Derived.Test.YtipdohpbilabiaaN2
import Derived.Test.YtipdohpbilabiaaN9
import Derived.Test.YtipdohpbilabiaaVJ
set_option linter.unusedSimpArgs false
set_option linter.unusedVariables false
/-! Rows of plans: what they are made of lies in rows of lists and of numbers, which a store into a row of plans never meets. -/
namespace Go.Proofs.Ytipdohpbilabiaa
set_option linter.unusedSimpArgs false
set_option linter.unusedVariables false
open Go Go.RowKit

theorem own_ty {w : World} {base size : Nat} {e : TypeId} {v : Value} {n : Nat} {xs : List Value} (h : w.ownsRow base e size v n xs) : ∀ b, v.ownBlock = some b → ∃ vs z, w.heap[b]? = some (.cells vs e z) := by
  intro b hb
  rcases h.2 with ⟨h', _⟩ | ⟨g, cap, cur, h', _, hg, _⟩
  · rw [h'] at hb; simp [Value.ownBlock] at hb
  · rw [h'] at hb; simp [Value.ownBlock] at hb; subst hb; exact ⟨_, _, hg⟩
theorem Cls.gro {w w' : World} {r : Option Nat} {a : Option Addr} {vs : List Value} (h : Cls w a vs) (hg : w.grownBy w' r) (hne : ∀ ad, a = some ad → r ≠ some ad.block) : Cls w' a vs := fun j u hj => by
  obtain ⟨b, off, ha, hb, hc⟩ := h j u hj
  refine ⟨b, off, ha, Nat.lt_of_lt_of_le hb hg.size, ?_⟩
  have hk := hg.block b hb (fun e => hne _ ha (by first | exact e | exact e.symm))
  rw [← hc]
  unfold World.cell?
  simp only [hk]
theorem Cls.of_own2 {w : World} {base : Nat} {t : TypeId} {a : Option Addr} {n c : Nat} {xs : List Value} (h : w.ownsRow base t 1 (.slice a n c) n xs) : Cls w a xs := fun j u hj => by
  have hlen : xs.length = n * 1 := h.1
  have hj2 : j < xs.length := by
    rcases Nat.lt_or_ge j xs.length with hl | hl
    · exact hl
    · rw [List.getElem?_eq_none hl] at hj; cases hj
  obtain ⟨g, cap, e⟩ := Go.Joins.ownsRow_form h (by omega)
  simp only [Value.slice.injEq] at e
  obtain ⟨rfl, _, rfl⟩ := e
  have hc := h.cellAt j (by omega)
  exact ⟨g, 0, rfl, (h.lt g rfl).2, by rw [Nat.zero_add, hc]; exact hj⟩

theorem heap_lt {w : World} {b : Nat} {o : Obj} (h : w.heap[b]? = some o) : b < w.heap.size := (Array.getElem?_eq_some_iff.1 h).1
/-- The block that a slice lies in is a row of a type. -/
def Ty (w : World) (a : Option Addr) (t : TypeId) : Prop := ∀ ad, a = some ad → ∃ vs z, w.heap[ad.block]? = some (.cells vs t z)
theorem Ty.below {w w' : World} {a : Option Addr} {t : TypeId} (h : Ty w a t) {B : Nat} (hb : Below B w w') (hB : w.heap.size ≤ B) : Ty w' a t := fun ad e => by
  obtain ⟨vs, z, hh⟩ := h ad e
  exact ⟨vs, z, by rw [hb.block _ (Nat.lt_of_lt_of_le (heap_lt hh) hB)]; exact hh⟩
/-- What is written is new, or a row of plans. -/
def Oth (w : World) (r : Option Nat) : Prop := ∀ b, r = some b → w.heap.size ≤ b ∨ ∃ vs z, w.heap[b]? = some (.cells vs 22 z)
theorem Oth.of_own {w : World} {base n : Nat} {v : Value} {xs : List Value} (h : w.ownsRow base 22 1 v n xs) : Oth w v.ownBlock := fun b hb => .inr (own_ty h b hb)
theorem Ty.ne {w w' : World} {r : Option Nat} {a : Option Addr} {t : TypeId} (h : Ty w a t) (ht : t ≠ 22) (ho : Oth w r) : ∀ ad, a = some ad → r ≠ some ad.block := fun ad e e2 => by
  obtain ⟨vs, z, hh⟩ := h ad e
  rcases ho _ e2 with h' | ⟨vs', z', h'⟩
  · have := heap_lt hh; omega
  · rw [h'] at hh; simp at hh; exact ht hh.2.1.symm
theorem Ty.gro {w w' : World} {r : Option Nat} {a : Option Addr} {t : TypeId} (h : Ty w a t) (ht : t ≠ 22) (hg : w.grownBy w' r) (ho : Oth w r) : Ty w' a t := fun ad e => by
  have hne := h.ne (w' := w') ht ho ad e
  obtain ⟨vs, z, hh⟩ := h ad e
  exact ⟨vs, z, by rw [hg.block _ (heap_lt hh) (fun e2 => hne (by first | exact e2 | exact e2.symm))]; exact hh⟩
/-- Numbers in a row of numbers. -/
def Iy (w : World) (a : Option Addr) (L : List Int) : Prop := Ints w a L ∧ Ty w a 3
theorem Iy.below {w w' : World} {a : Option Addr} {L : List Int} (h : Iy w a L) {B : Nat} (hb : Below B w w') (hB : w.heap.size ≤ B) : Iy w' a L := ⟨h.1.below hb hB, h.2.below hb hB⟩
theorem Iy.gro {w w' : World} {r : Option Nat} {a : Option Addr} {L : List Int} (h : Iy w a L) (hg : w.grownBy w' r) (ho : Oth w r) : Iy w' a L := ⟨h.1.gro hg (h.2.ne (w' := w') (by decide) ho), h.2.gro (by decide) hg ho⟩
/-- Cells that read as these, each in a slice. -/
def RwG {α : Type} (R : World → Option Addr → α → Prop) (len : α → Nat) (w : World) (vs : List Value) (SS : List α) : Prop :=
  vs.length = SS.length ∧ ∀ (i : Nat) (s : α), SS[i]? = some s → ∃ (a : Option Addr) (c : Nat), vs[i]? = some (Value.slice a (len s) c) ∧ R w a s
section
variable {α : Type} {R : World → Option Addr → α → Prop} {len : α → Nat}
theorem RwG.nil (w : World) : RwG R len w [] [] := ⟨rfl, fun i s h => by simp at h⟩
theorem RwG.map {w w' : World} {vs : List Value} {SS : List α} (h : RwG R len w vs SS) (hf : ∀ a s, R w a s → R w' a s) : RwG R len w' vs SS :=
  ⟨h.1, fun i s hi => by
    obtain ⟨a, c, h1, h3⟩ := h.2 i s hi
    exact ⟨a, c, h1, hf a s h3⟩⟩
theorem RwG.app {w : World} {vs us : List Value} {SS TT : List α} (h : RwG R len w vs SS) (k : RwG R len w us TT) : RwG R len w (vs ++ us) (SS ++ TT) := by
  refine ⟨by rw [List.length_append, List.length_append, h.1, k.1], fun i s hi => ?_⟩
  rcases Nat.lt_or_ge i SS.length with hl | hl
  · rw [List.getElem?_append_left hl] at hi
    obtain ⟨a, c, h1, h2⟩ := h.2 i s hi
    exact ⟨a, c, by rw [List.getElem?_append_left (by rw [h.1]; exact hl)]; exact h1, h2⟩
  · rw [List.getElem?_append_right hl] at hi
    obtain ⟨a, c, h1, h2⟩ := k.2 _ s hi
    exact ⟨a, c, by rw [List.getElem?_append_right (by rw [h.1]; exact hl), h.1]; exact h1, h2⟩
theorem RwG.single {w : World} {a : Option Addr} {c : Nat} {s : α} (h : R w a s) : RwG R len w [.slice a (len s) c] [s] :=
  ⟨rfl, fun i t hi => by
    cases i with
    | zero => simp at hi; subst hi; exact ⟨a, c, rfl, h⟩
    | succ i => simp at hi⟩
theorem RwG.one {w : World} {vs : List Value} {SS : List α} (h : RwG R len w vs SS) : ∀ u ∈ vs, u.oneCell' = true := fun u hu => by
  obtain ⟨i, hi, rfl⟩ := List.getElem_of_mem hu
  have hl : i < SS.length := by rw [← h.1]; exact hi
  obtain ⟨a, c, h1, _⟩ := h.2 i SS[i] (List.getElem?_eq_getElem hl)
  rw [List.getElem?_eq_getElem hi] at h1
  simp only [Option.some.injEq] at h1
  rw [h1]; rfl
end
/-- Lists in a row of lists. -/
def Py (w : World) (a : Option Addr) (P : List (List Int)) : Prop := P.length ≤ 1000 ∧ (∃ vs, Cls w a vs ∧ RwG Iy List.length w vs P) ∧ Ty w a 23
theorem Py.below {w w' : World} {a : Option Addr} {P : List (List Int)} (h : Py w a P) {B : Nat} (hb : Below B w w') (hB : w.heap.size ≤ B) : Py w' a P := by
  obtain ⟨h0, ⟨vs, h1, h2⟩, h3⟩ := h
  exact ⟨h0, ⟨vs, h1.below hb hB, h2.map fun _ _ k => k.below hb hB⟩, h3.below hb hB⟩
theorem Py.gro {w w' : World} {r : Option Nat} {a : Option Addr} {P : List (List Int)} (h : Py w a P) (hg : w.grownBy w' r) (ho : Oth w r) : Py w' a P := by
  obtain ⟨h0, ⟨vs, h1, h2⟩, h3⟩ := h
  exact ⟨h0, ⟨vs, h1.gro hg (h3.ne (w' := w') (by decide) ho), h2.map fun _ _ k => k.gro hg ho⟩, h3.gro (by decide) hg ho⟩
theorem Py.lss {w : World} {a : Option Addr} {P : List (List Int)} (h : Py w a P) : Lss w a P := by
  obtain ⟨h0, ⟨vs, h1, h2⟩, h3⟩ := h
  refine ⟨by omega, fun i ks hi => ?_⟩
  obtain ⟨a', c, e1, h4⟩ := h2.2 i ks hi
  obtain ⟨b, off, e2, hl, hc⟩ := h1 i _ e1
  exact ⟨b, off, a', c, e2, hl, hc, h4.1⟩
theorem Py.at {w : World} {a : Option Addr} {P : List (List Int)} (h : Py w a P) {k : Nat} (hk : k < P.length) : ∃ (b off : Nat) (L : List Int) (a' : Option Addr) (c : Nat), a = some ⟨b, off, none⟩ ∧ b < w.heap.size ∧ w.cell? ⟨b, off + k, none⟩ = some (.slice a' L.length c) ∧ Iy w a' L ∧ L ∈ P ∧ Hid (P[k]? = some L) := by
  obtain ⟨h0, ⟨vs, h1, h2⟩, h3⟩ := h
  obtain ⟨a', c, e1, h4⟩ := h2.2 k P[k] (List.getElem?_eq_getElem hk)
  obtain ⟨b, off, e2, hl, hc⟩ := h1 k _ e1
  exact ⟨b, off, P[k], a', c, e2, hl, hc, h4, List.getElem_mem hk, List.getElem?_eq_getElem hk⟩
theorem Py.nil (w : World) : Py w none [] := ⟨by simp, ⟨[], fun j u h => by simp at h, RwG.nil _⟩, fun ad e => by cases e⟩
theorem Py.of_own {w : World} {base : Nat} {a : Option Addr} {c : Nat} {vs : List Value} {P : List (List Int)} (h : w.ownsRow base 23 1 (.slice a P.length c) P.length vs) (hr : RwG Iy List.length w vs P) (hl : P.length ≤ 1000) : Py w a P := by
  refine ⟨hl, ⟨vs, Cls.of_own2 h, hr⟩, fun ad e => ?_⟩
  subst e
  exact own_ty h ad.block (by simp [Value.ownBlock])
theorem rc_iy {w : World} {own : Option Nat} : ∀ {B T : Nat} {vs : List Value} {LL : List (List Int)}, Rc w own B T vs LL → RwG Iy List.length w vs LL
  | _, _, [], [], _ => RwG.nil _
  | B, T, x :: vs, ks :: LL, h => by
    obtain ⟨M, _, ⟨h0, a, c, rfl, h2, _⟩, h3⟩ := h
    have h4 : Iy w a ks := ⟨h2, fun ad e => by subst e; exact own_ty h0 ad.block (by simp [Value.ownBlock])⟩
    exact (RwG.single (c := c) h4).app (rc_iy h3)
  | _, _, [], _ :: _, h => h.elim
  | _, _, _ :: _, [], h => h.elim
/-- Plans that a slice reads as. -/
def Rat (w : World) (a : Option Addr) (SS : List (List (List Int))) : Prop := ∃ vs, Cls w a vs ∧ RwG Py List.length w vs SS
theorem Rat.below {w w' : World} {a : Option Addr} {SS : List (List (List Int))} (h : Rat w a SS) {B : Nat} (hb : Below B w w') (hB : w.heap.size ≤ B) : Rat w' a SS := by
  obtain ⟨vs, h1, h2⟩ := h
  exact ⟨vs, h1.below hb hB, h2.map fun _ _ k => k.below hb hB⟩
theorem Rat.at {w : World} {a : Option Addr} {SS : List (List (List Int))} (h : Rat w a SS) {k : Nat} (hk : k < SS.length) :
    ∃ (b off : Nat) (s : List (List Int)) (a' : Option Addr) (c : Nat), a = some ⟨b, off, none⟩ ∧ b < w.heap.size ∧ w.cell? ⟨b, off + k, none⟩ = some (.slice a' s.length c) ∧ Py w a' s ∧ s ∈ SS ∧ Hid (SS[k]? = some s) ∧ Hid (SS.take (k + 1) = SS.take k ++ [s]) := by
  obtain ⟨vs, h1, h2⟩ := h
  obtain ⟨a', c, h3, h5⟩ := h2.2 k SS[k] (List.getElem?_eq_getElem hk)
  obtain ⟨b, off, h6, h7, h8⟩ := h1 k _ h3
  exact ⟨b, off, SS[k], a', c, h6, h7, h8, h5, List.getElem_mem hk, List.getElem?_eq_getElem hk, by show SS.take (k + 1) = SS.take k ++ [SS[k]]; simp⟩
/-- What fitting hands back. -/
def FtP (SS : List (List (List Int))) (w : World) (e : Ending) (w' : World) : Prop := Below w.heap.size w w' ∧ ∃ (a : Option Addr) (c : Nat), e = .returned (.slice a SS.length c) ∧ Rat w' a SS
theorem FtP.of_own {w w' : World} {a : Option Addr} {n c : Nat} {vs : List Value} {SS : List (List (List Int))} (hb : Below w.heap.size w w') (h : w'.ownsRow w.heap.size 22 1 (.slice a n c) n vs) (hn : n = SS.length) (hr : RwG Py List.length w' vs SS) : FtP SS w (.returned (.slice a n c)) w' := by
  subst hn
  exact ⟨hb, a, c, rfl, vs, Cls.of_own2 h, hr⟩
theorem sd_of {s : Array Bool} {i j : Nat} (h : i ≠ j) (k : (s.setIfInBounds i true).getD j false = true) : s.getD j false = true := by
  rw [Array.getD_eq_getD_getElem?, Array.getElem?_setIfInBounds_ne h, ← Array.getD_eq_getD_getElem?] at k
  exact k
theorem sd_no {s : Array Bool} {i j : Nat} (h : i ≠ j) (k : (s.setIfInBounds i true).getD j false = false) : s.getD j false = false := by
  rw [Array.getD_eq_getD_getElem?, Array.getElem?_setIfInBounds_ne h, ← Array.getD_eq_getD_getElem?] at k
  exact k
theorem updS {u : Nat → Value} {i : Nat} {v : Value} : updU u i v i = v := by unfold updU; rw [if_pos rfl]
theorem updN {u : Nat → Value} {i j : Nat} {v : Value} (h : j ≠ i) : updU u i v j = u j := by unfold updU; rw [if_neg h]
section
variable {P : Program} {S : World → Prop} {Q : Exit → Act → World → Prop}
theorem HeadAt.rg4 {l : List Oper} {n f0 : Nat} {s0 : Array Bool} (idx : List Nat) (k : Nat) (A : (Nat → Value) → Act) (I : Array Bool → (Nat → Value) → World → Prop) (u0 : Nat → Value)
    (hb : chkRg l.toArray n idx (idx.foldl (fun s i => s.setIfInBounds i true) s0) k s0 = true)
    (hstep : ∀ i, i ∈ idx → ∀ o, l.toArray[i]? = some o → ∀ (s : Array Bool) (u : Nat → Value) (w : World), S w → I s u w → s.getD i false = false → (∀ j, predB l.toArray j i = true → s.getD j false = true) →
      wpList P l.toArray (Upto (fun a' w' => ∃ v, a' = A (updU u i v) ∧ S w' ∧ I (s.setIfInBounds i true) (updU u i v) w') (NoPanic Q)) [o] (A u) w)
    (hdone : ∀ (u : Nat → Value) (w : World), S w → I (idx.foldl (fun s i => s.setIfInBounds i true) s0) u w → HeadAt P l Q S n f0 (idx.foldl (fun s i => s.setIfInBounds i true) s0) (A u) w)
    {w : World} (hw : S w) (hI : I s0 u0 w) : HeadAt P l Q S n (f0 + k) s0 (A u0) w := by
  generalize idx.foldl (fun s i => s.setIfInBounds i true) s0 = s1 at *
  suffices h : ∀ (k : Nat) (s : Array Bool) (u : Nat → Value) (w : World), chkRg l.toArray n idx s1 k s = true → S w → I s u w → HeadAt P l Q S n (f0 + k) s (A u) w from h k s0 u0 w hb hw hI
  intro k
  induction k with
  | zero =>
    intro s u w hc hSw hFs
    have e : s = s1 := by simpa [chkRg] using hc
    subst e
    exact hdone u w hSw hFs
  | succ k ih =>
    intro s u w hc hSw hFs
    unfold chkRg at hc
    simp only [Bool.and_eq_true, Bool.not_eq_true', List.all_eq_true, decide_eq_true_eq] at hc
    obtain ⟨hne, hall⟩ := hc
    intro inv
    refine ⟨fun e => by rw [e] at hne; simp at hne, fun i hi => ?_⟩
    obtain ⟨hin, hid, hck⟩ := hall i hi
    have hid' : i ∈ idx := by simpa using hid
    obtain ⟨hun, oi, hoi, hpre⟩ := mem_ready.1 hi
    refine ⟨hin, wpOp_mono (fun a' w' h' => ?_) (wpOp_of_list hoi (hstep i hid' oi hoi s u w hSw hFs (getD_both hun) (fun j hp => ?_)))⟩
    · obtain ⟨v, rfl, hSw', hI'⟩ := h'
      exact ⟨hSw', ih _ _ _ hck hSw' hI' (inv.set hi hin)⟩
    · unfold predB at hp
      rw [hoi] at hp
      simp only [List.any_eq_true, Bool.and_eq_true, beq_iff_eq] at hp
      obtain ⟨e, he, h1, h2⟩ := hp
      rw [← h2]
      exact hpre e (by simpa using he) h1
end
end Go.Proofs.Ytipdohpbilabiaa
/-! The reference's fitting. -/
namespace Go.Proofs.Ytipdohpbilabiaa
set_option linter.unusedSimpArgs false
set_option linter.unusedVariables false
open Go Go.RowKit

theorem under82 : Try.prog.underlying 82 = some (.slice 22) := by kernel_rfl
theorem info22 : (Try.prog.info? 22).map (fun i => (i.zero, i.size, i.bytes)) = some (some (.slice none 0 0), 1, 24) := by kernel_rfl
/-- Nothing beneath a world has changed. -/
def BlS (w0 w : World) : Prop := Below w0.heap.size w0 w
/-- A cell that stays. -/
def ClB (w : World) (b o : Nat) (v : Value) : Prop := w.cell? ⟨b, o, none⟩ = some v ∧ b < w.heap.size
theorem ClB.below {w w' : World} {b o : Nat} {v : Value} (h : ClB w b o v) (hb : Below w.heap.size w w') : ClB w' b o v :=
  ⟨(hb.cell (p := ⟨b, o, none⟩) h.2).trans h.1, by have := hb.size; have := h.2; omega⟩
theorem ftL_len {X : Sw} (hok : XOk X) : ∀ (r : Nat) (P : List (List Int)), (ftL X r P).length ≤ 216 ^ r
  | 0, P => by
    rw [ftL]
    split <;> simp
  | r + 1, P => by
    rw [ftL, Nat.pow_succ, Nat.mul_comm]
    have h1 := chL_le hok.t6 (X.bs.getD P.length []).length 0
    have h3 : (X.bs.getD P.length []).length ≤ 3 := by
      rcases Nat.lt_or_ge P.length X.bs.length with hl | hl
      · exact (hok.b3 _ hl).1
      · rw [List.getD_eq_getElem?_getD, List.getElem?_eq_none hl]; simp
    have h4 : (6 : Nat) ^ (X.bs.getD P.length []).length ≤ 6 ^ 3 := Nat.pow_le_pow_right (by omega) h3
    have h2 := flat_le (fun l => if (coF l (X.bs.getD P.length []) : Int) ≤ X.ch then ftL X r (P ++ [l]) else []) (216 ^ r) (chL X.st.length (X.bs.getD P.length []).length 0) (fun l _ => by
      split
      · exact ftL_len hok r _
      · simp)
    refine Nat.le_trans h2 (Nat.mul_le_mul_right _ ?_)
    have : (6 : Nat) ^ 3 = 216 := by decide
    omega
/-- While the literals and the first append are made. -/
structure RsI (nP : Nat) (vsP : List Value) (x : Value) (Y : World) (s : Array Bool) (u : Nat → Value) (w : World) : Prop where
  c2 : s.getD 2 false = true → s.getD 4 false = false → ∃ b, u 2 = .slice (some ⟨b, 0, none⟩) 0 0 ∧ w.ownsRow Y.heap.size 23 1 (.slice (some ⟨b, 0, none⟩) 0 0) 0 [] ∧ b < w.heap.size
  c4 : s.getD 4 false = true → w.ownsRow Y.heap.size 23 1 (u 4) nP vsP
  c9 : s.getD 9 false = true → ∃ b, u 9 = .slice (some ⟨b, 0, none⟩) 1 1 ∧ Bx w b #[x] 23
  ne : s.getD 2 false = true → s.getD 4 false = false → s.getD 9 false = true → ∀ b b', u 2 = .slice (some ⟨b, 0, none⟩) 0 0 → u 9 = .slice (some ⟨b', 0, none⟩) 1 1 → b ≠ b'
  bl : Below Y.heap.size Y w
  sz : 10 < s.size
theorem RsI.two {nP : Nat} {vsP : List Value} {x : Value} {Y : World} {s : Array Bool} {u : Nat → Value} {w : World} (h : RsI nP vsP x Y s u w) : RsI nP vsP x Y (s.setIfInBounds 2 true) (updU u 2 (.slice (some ⟨w.heap.size, 0, none⟩) 0 0)) (w.alloc (.cells #[] 23)) := by
  have hb := below_one (w := w) (.cells #[] 23)
  refine ⟨fun _ _ => ⟨_, updS, own_base (own_lit0 w 23 1) h.bl.size, by simp⟩, fun k => ?_, fun k => ?_, fun _ _ k b b' e e' => ?_, h.bl.trans (hb.mono h.bl.size), by simpa using h.sz⟩
  · rw [updN (by omega)]; exact own_below2 (h.c4 (sd_of (by omega) k)) hb
  · rw [updN (by omega)]
    obtain ⟨b, e, hx⟩ := h.c9 (sd_of (by omega) k)
    exact ⟨b, e, hx.below hb⟩
  · rw [updS] at e
    rw [updN (by omega)] at e'
    obtain ⟨b2, e2, hx⟩ := h.c9 (sd_of (by omega) k)
    rw [e2] at e'
    have := hx.lt
    simp only [Value.slice.injEq, Option.some.injEq, Addr.mk.injEq, and_true] at e e'
    omega
theorem RsI.nine {nP : Nat} {vsP : List Value} {x : Value} {Y : World} {s : Array Bool} {u : Nat → Value} {w : World} (h : RsI nP vsP x Y s u w) : RsI nP vsP x Y (s.setIfInBounds 9 true) (updU u 9 (.slice (some ⟨w.heap.size, 0, none⟩) 1 1)) (w.alloc (.cells #[x] 23)) := by
  have hb := below_one (w := w) (.cells #[x] 23)
  refine ⟨fun k k2 => ?_, fun k => ?_, fun _ => ⟨_, updS, Bx.new _ _ _⟩, fun k k2 _ b b' e e' => ?_, h.bl.trans (hb.mono h.bl.size), by simpa using h.sz⟩
  · rw [updN (by omega)]
    obtain ⟨b, e, ho, hl⟩ := h.c2 (sd_of (by omega) k) (sd_no (by omega) k2)
    exact ⟨b, e, own_below2 ho hb, Nat.lt_of_lt_of_le hl hb.size⟩
  · rw [updN (by omega)]; exact own_below2 (h.c4 (sd_of (by omega) k)) hb
  · rw [updN (by omega)] at e
    rw [updS] at e'
    obtain ⟨b2, e2, _, hl⟩ := h.c2 (sd_of (by omega) k) (sd_no (by omega) k2)
    rw [e2] at e
    simp only [Value.slice.injEq, Option.some.injEq, Addr.mk.injEq, and_true] at e e'
    omega
theorem RsI.four {nP : Nat} {vsP : List Value} {x : Value} {Y : World} {s : Array Bool} {u : Nat → Value} {w w' : World} (h : RsI nP vsP x Y s u w) {b : Nat} (e : u 2 = .slice (some ⟨b, 0, none⟩) 0 0) (h2 : s.getD 2 false = true) (h4 : s.getD 4 false = false) {v : Value}
    (ho : w'.ownsRow Y.heap.size 23 1 v nP vsP) (hg : w.grownBy w' (some b)) (hbY : Y.heap.size ≤ b) : RsI nP vsP x Y (s.setIfInBounds 4 true) (updU u 4 v) w' := by
  have h4' : (s.setIfInBounds 4 true).getD 4 false = true := by
    have := h.sz
    simp [Array.getD, show 4 < s.size by omega]
  refine ⟨fun _ k => ?_, fun _ => ?_, fun k9 => ?_, fun _ k => ?_, h.bl.grown hg h.bl.size (fun k e => by cases e; exact hbY), by simpa using h.sz⟩
  · rw [h4'] at k; cases k
  · rw [updS]; exact ho
  · rw [updN (by omega)]
    obtain ⟨b', e', hx⟩ := h.c9 (sd_of (by omega) k9)
    exact ⟨b', e', hx.gb hg (fun k ek e2 => h.ne h2 h4 (sd_of (by omega) k9) b b' e e' (by cases ek; exact e2.symm))⟩
  · rw [h4'] at k; cases k

set_option maxRecDepth 100000 in
set_option maxHeartbeats 3000000 in
theorem fitting_rec (ab ast ae ak : Option Addr) (cb cs ce ck : Nat) (X : Sw) (hok : XOk X) : ∀ (r : Nat) (P : List (List Int)) (aP : Option Addr) (cP : Nat) (w : World), P.length + r = X.bs.length → Swp w ab ast ae ak X → Py w aP P → Calls Try.prog 62 #[.agg #[.slice ab X.bs.length cb, .slice ast X.st.length cs, .slice ae X.er.length ce, .slice ak X.ks.length ck, .int .i64 X.ch], .slice aP P.length cP] w (FtP (ftL X r P) w) := by
  obtain ⟨i0, hi0, iz0, iz1, iz2⟩ := info_parts info23
  obtain ⟨j0, hj0, jz0, jz1, jz2⟩ := info_parts info22
  intro r
  induction r with
  | zero =>
    intro P aP cP w hl hX hP
    obtain ⟨W, hW, hb, _, x0⟩ := boxes1 w #[.slice ab X.bs.length cb, .slice ast X.st.length cs, .slice ae X.er.length ce, .slice ak X.ks.length ck, .int .i64 X.ch] 26
    have hXW := hX.below hb (Nat.le_refl _)
    have hPW := hP.below hb (Nat.le_refl _)
    have hdf := fun V hx hl => DoesFit_any ab ast ae ak cb cs ce ck X hok aP cP P (by omega) V hx hl
    have HT := hid (show ftL X 0 P = if dfB X P = true then [P] else [] from rfl)
    obtain ⟨d, hd⟩ : ∃ d, d = dfB X P := ⟨_, rfl⟩
    rw [← hd] at hdf HT
    generalize ftL X 0 P = T at *
    obtain ⟨k, hk⟩ : ∃ k, k = P.length := ⟨_, rfl⟩
    rw [← hk] at hdf hl ⊢
    have HK := hid hk
    rw [Nat.add_zero] at hl
    obtain ⟨nB, hnB⟩ : ∃ nB, nB = X.bs.length := ⟨_, rfl⟩
    rw [← hnB] at x0 hW hl ⊢
    have hdf2 := fun V hx hl => hdf V hx hl
    rw [← hnB] at hdf2
    clear hd hk hX hP hdf hnB
    subst hl
    have c0 := x0.cell 0 rfl; have c1 := x0.cell 1 rfl; have c2 := x0.cell 2 rfl; have c3 := x0.cell 3 rfl; have c4 := x0.cell 4 rfl
    go_enter Try.func62, Try.ntmps62
    go_wp2_with fail
    refine (hdf2 _ hXW hPW.lss).mono ?_
    rintro e V1 ⟨rfl, hb1⟩
    replace hb := hb.trans (hb1.mono hb.size)
    have hPV := hPW.below hb1 (Nat.le_refl _)
    clear hW hb1 c0 c1 c2 c3 c4 x0 hdf2 hXW hPW
    cases d with
    | false =>
      have HR := hid (show FtP T w (.returned (.slice none 0 0)) V1 by rw [HT.out]; exact ⟨hb, none, 0, rfl, [], fun j u h => by simp at h, RwG.nil _⟩)
      clear hPV hb HT
      go_wp2
      go_ret
      exact HR.out
    | true =>
      have hba := below_one (w := V1) (.cells #[.slice aP k cP] 22)
      have hrw : RwG Py List.length (V1.alloc (.cells #[.slice aP k cP] 22)) [.slice aP k cP] [P] := by
        have := RwG.single (R := Py) (len := List.length) (c := cP) (hPV.below hba (Nat.le_refl _))
        rw [← HK.out] at this; exact this
      have HR := hid (show FtP T w (.returned (.slice (some ⟨V1.heap.size, 0, none⟩) 1 1)) (V1.alloc (.cells #[.slice aP k cP] 22)) by rw [HT.out]; exact ⟨hb.trans (hba.mono hb.size), _, 1, rfl, _, Cls.of_bx (Bx.new V1 #[.slice aP k cP] 22), hrw⟩)
      clear hPV hb hba hrw HT
      go_wp2
      go_ret
      exact HR.out
  | succ r ih =>
    intro P aP cP w hl hX hP
    obtain ⟨W, hW, hb, _, x0⟩ := boxes1 w #[.slice ab X.bs.length cb, .slice ast X.st.length cs, .slice ae X.er.length ce, .slice ak X.ks.length ck, .int .i64 X.ch] 26
    have hXW := hX.below hb (Nat.le_refl _)
    have hPW := hP.below hb (Nat.le_refl _)
    have hkB : P.length < X.bs.length := by omega
    have hnb3 := hok.nb3
    have ht6 := hok.t6
    obtain ⟨bB, oB, aN, cN, hab, hblN, hcN, hIN⟩ := hXW.1.at hkB
    subst hab
    have hr2 : r ≤ 2 := by omega
    have hTl : (ftL X (r + 1) P).length ≤ 10077696 := by
      refine Nat.le_trans (ftL_len hok (r + 1) P) (Nat.le_trans (Nat.pow_le_pow_right (by omega) (show r + 1 ≤ 3 by omega)) (by decide))
    have h3 : (X.bs.getD P.length []).length ≤ 3 := by
      have hl := hkB
      exact (hok.b3 _ hl).1
    obtain ⟨now, hnow⟩ : ∃ now, now = X.bs.getD P.length [] := ⟨_, rfl⟩
    rw [← hnow] at h3 hcN hIN
    have HT0 := hid (show ftL X (r + 1) P = (chL X.st.length now.length 0).flatMap fun l => if (coF l now : Int) ≤ X.ch then ftL X r (P ++ [l]) else [] by rw [ftL, ← hnow])
    have hch := fun V => choices_any X.st.length ht6 now.length 0 V h3 (by omega)
    have hcl6 := Nat.le_trans (chL_le ht6 now.length 0) (show 6 ^ now.length ≤ 216 from Nat.le_trans (Nat.pow_le_pow_right (by omega) h3) (by decide))
    unfold ClP at hch
    obtain ⟨T, hT⟩ : ∃ T, T = ftL X (r + 1) P := ⟨_, rfl⟩
    rw [← hT] at hTl HT0 ⊢
    obtain ⟨L, hL⟩ : ∃ L, L = chL X.st.length now.length 0 := ⟨_, rfl⟩
    rw [← hL] at HT0 hch hcl6
    obtain ⟨nl, hnl⟩ : ∃ nl, nl = L.length := ⟨_, rfl⟩
    rw [← hnl] at hcl6
    have HNL := hid hnl
    obtain ⟨k, hk⟩ : ∃ k, k = P.length := ⟨_, rfl⟩
    rw [← hk] at hl hkB hcN ⊢
    have HK := hid hk
    obtain ⟨nw, hnw⟩ : ∃ nw, nw = now.length := ⟨_, rfl⟩
    rw [← hnw] at hcN hch h3
    have HNW := hid hnw
    obtain ⟨nB, hnB⟩ : ∃ nB, nB = X.bs.length := ⟨_, rfl⟩
    have HNB := hid hnB
    rw [← hnB] at x0 hW hkB hnb3 hl ⊢
    have hB : ((k : Int) == (nB : Int)) = false := by rw [beq_eq_false_iff_ne]; omega
    have hkI : (k : Int) < (nB : Int) := by omega
    have hkne : ¬ (k : Int) = (nB : Int) := by omega
    have hk0 : (0 : Int) ≤ (k : Int) := by omega
    have hccN : ClB W bB (oB + k) (.slice aN nw cN) := ⟨hcN, hblN⟩
    obtain ⟨hP1, ⟨vsP, hclP, hrwP⟩, htyP⟩ := hPW
    have hvl : vsP.length = k := by rw [hrwP.1, HK.out]
    have hvo := hrwP.one
    have HIH := hid ih
    have HLR := hid hl
    have HVL := hid hvl
    rw [show (0 : Nat) = 0 from rfl] at hch
    have hWs := hb.size
    clear hT hL hnl hk hnw hnow hcN hblN hX hP ih hnB hl hvl
    have c0 := x0.cell 0 rfl; have c1 := x0.cell 1 rfl; have c2 := x0.cell 2 rfl; have c3 := x0.cell 3 rfl; have c4 := x0.cell 4 rfl
    go_enter Try.func62, Try.ntmps62
    go_upto_region 7 with fail
    clear hW c0 c1 c2 c3 c4
    have S0 : BlS W W.drew := (Below.refl W.heap.size W).drew
    refine wp_region_head 10 (fun w' => BlS W w') (by kernel_rfl) rfl ?_
    generalize W.drew = Y0 at *
    refine HeadAt.take (i := 0) (.pointer (some ⟨w.heap.size, 1, none⟩)) rfl (by kernel_rfl) (.inl ⟨rfl, fun _ _ => by simp [go_sem]⟩) S0 ?_
    (try simp only [Act.put, List.getElem_toArray, List.getElem_cons_succ, List.getElem_cons_zero, List.setIfInBounds_toArray, List.set_cons_succ, List.set_cons_zero])
    refine HeadAt.take (i := 1) (.slice ast X.st.length cs) rfl (by kernel_rfl) (.inl ⟨rfl, fun w' z => ?_⟩) S0 ?_
    · (have z0 := (x0.below z).cell 1 rfl; simp [go_sem, z0])
    (try simp only [Act.put, List.getElem_toArray, List.getElem_cons_succ, List.getElem_cons_zero, List.setIfInBounds_toArray, List.set_cons_succ, List.set_cons_zero])
    refine HeadAt.take (i := 2) (.int .i64 (X.st.length : Int)) rfl (by kernel_rfl) (.inl ⟨rfl, fun _ _ => by simp [go_sem]⟩) S0 ?_
    (try simp only [Act.put, List.getElem_toArray, List.getElem_cons_succ, List.getElem_cons_zero, List.setIfInBounds_toArray, List.set_cons_succ, List.set_cons_zero])
    refine HeadAt.take (i := 3) (.pointer (some ⟨w.heap.size, 0, none⟩)) rfl (by kernel_rfl) (.inl ⟨rfl, fun _ _ => by simp [go_sem]⟩) S0 ?_
    (try simp only [Act.put, List.getElem_toArray, List.getElem_cons_succ, List.getElem_cons_zero, List.setIfInBounds_toArray, List.set_cons_succ, List.set_cons_zero])
    refine HeadAt.take (i := 4) (.slice (some ⟨bB, oB, none⟩) nB cb) rfl (by kernel_rfl) (.inl ⟨rfl, fun w' z => ?_⟩) S0 ?_
    · (have z0 := (x0.below z).cell 0 rfl; simp [go_sem, z0])
    (try simp only [Act.put, List.getElem_toArray, List.getElem_cons_succ, List.getElem_cons_zero, List.setIfInBounds_toArray, List.set_cons_succ, List.set_cons_zero])
    refine HeadAt.take (i := 5) (.int .i64 (k : Int)) rfl (by kernel_rfl) (.inl ⟨rfl, fun _ _ => by simp [go_sem]⟩) S0 ?_
    (try simp only [Act.put, List.getElem_toArray, List.getElem_cons_succ, List.getElem_cons_zero, List.setIfInBounds_toArray, List.set_cons_succ, List.set_cons_zero])
    refine HeadAt.take (i := 6) (.pointer (some ⟨bB, oB + k, none⟩)) rfl (by kernel_rfl) (.inl ⟨rfl, fun w' z => ?_⟩) S0 ?_
    · (simp [go_sem, hkI, hk0])
    (try simp only [Act.put, List.getElem_toArray, List.getElem_cons_succ, List.getElem_cons_zero, List.setIfInBounds_toArray, List.set_cons_succ, List.set_cons_zero])
    refine HeadAt.take (i := 7) (.slice aN nw cN) rfl (by kernel_rfl) (.inl ⟨rfl, fun w' z => ?_⟩) S0 ?_
    · (have z0 := (hccN.below z).1; simp [go_sem, z0])
    (try simp only [Act.put, List.getElem_toArray, List.getElem_cons_succ, List.getElem_cons_zero, List.setIfInBounds_toArray, List.set_cons_succ, List.set_cons_zero])
    refine HeadAt.take (i := 8) (.int .i64 (nw : Int)) rfl (by kernel_rfl) (.inl ⟨rfl, fun _ _ => by simp [go_sem]⟩) S0 ?_
    (try simp only [Act.put, List.getElem_toArray, List.getElem_cons_succ, List.getElem_cons_zero, List.setIfInBounds_toArray, List.set_cons_succ, List.set_cons_zero])
    refine HeadAt.one (i := 9) rfl (by kernel_rfl) ?_
    generalize hK : Upto _ _ = K0
    (try simp only [Act.put, List.getElem_toArray, List.getElem_cons_succ, List.getElem_cons_zero, List.setIfInBounds_toArray, List.set_cons_succ, List.set_cons_zero])
    go_wp2_with fail
    refine (hch _).mono ?_
    rintro e V1 ⟨hb1, aL, cL, us, rfl, hownL, hrcL⟩
    go_wp2_with fail
    have S1 : BlS W V1 := Below.trans S0 (hb1.mono (Below.size S0))
    subst hK
    refine ⟨S1, ?_⟩
    (try simp only [Act.put, List.getElem_toArray, List.getElem_cons_succ, List.getElem_cons_zero, List.setIfInBounds_toArray, List.set_cons_succ, List.set_cons_zero])
    refine HeadAt.done (by kernel_rfl) ?_
    (try simp only [Act.put, List.drop_succ_cons, List.drop_zero, List.getElem_toArray, List.getElem_cons_succ, List.getElem_cons_zero])
    go_wp2_with fail
    refine NoPanic.normal ?_
    have hPL : Py V1 aL L := Py.of_own hownL (rc_iy hrcL) (by rw [← HNL.out]; omega)
    have hbV : Below W.heap.size W V1 := S1
    rw [← HNL.out]
    clear S0 S1 hb1 hownL hrcL hch
    go_wp2
    go_loopw [6, 8] (fun v6 v8 wr => ∃ (i q : Nat) (a : Option Addr) (c : Nat) (vs : List Value) (SS : List (List (List Int))), i ≤ nl ∧ Hid (q = SS.length) ∧ v8 = .int .i64 (i : Int) ∧ v6 = .slice a q c ∧ wr.ownsRow W.heap.size 22 1 (.slice a q c) q vs ∧ Below W.heap.size W wr ∧ RwG Py List.length wr vs SS ∧ Py wr aL L ∧ Hid (T = SS ++ (L.drop i).flatMap fun l => if (coF l now : Int) ≤ X.ch then ftL X r (P ++ [l]) else [])) (fun _ v8 _ => nl - (intOf v8).toNat)
    case atStart => exact ⟨0, 0, none, 0, [], [], Nat.zero_le _, hid rfl, rfl, rfl, World.ownsRow_nil _ _ _ _, hbV, RwG.nil _, hPL, hid (by rw [HT0.out]; rfl)⟩
    case round =>
      clear hbV hPL
      obtain ⟨i, q, a, c, vs, SS, hi, HQ, rfl, rfl, hown, hbr, hrw, hPL, HT⟩ := hrel
      obtain ⟨wo, rfl⟩ : ∃ wo : World, wo = wr := ⟨_, rfl⟩
      by_cases hil : i < nl
      · obtain ⟨bL, oL, l, a', c', rfl, hblL, hcL, hIl, hml, hgl⟩ := hPL.at (k := i) (by rw [← HNL.out]; exact hil)
        have hiI : (i : Int) < (nl : Int) := by omega
        have hi0' : (0 : Int) ≤ (i : Int) := by omega
        obtain ⟨ll, hll⟩ : ∃ ll, ll = l.length := ⟨_, rfl⟩
        rw [← hll] at hcL
        have HLL := hid hll
        have hdrop : L.drop i = l :: L.drop (i + 1) := by
          obtain ⟨h1, h2⟩ := List.getElem?_eq_some_iff.1 hgl.out
          rw [List.drop_eq_getElem_cons h1, h2]
        have HT2 := hid (show T = SS ++ ((if (coF l now : Int) ≤ X.ch then ftL X r (P ++ [l]) else []) ++ (L.drop (i + 1)).flatMap fun l => if (coF l now : Int) ≤ X.ch then ftL X r (P ++ [l]) else []) by
          rw [HT.out, hdrop, List.flatMap_cons])
        have hcc : ClB wo bL (oL + i) (.slice a' ll c') := ⟨hcL, hblL⟩
        have hco := fun V h1 h2 => ChangesOf_any aN a' cN c' now l V h1 h2
        rw [← HNW.out, ← HLL.out] at hco
        have hnr := hIN.below hbr (Nat.le_refl _)
        have xr := x0.below hbr
        have hcr := hccN.below hbr
        obtain ⟨co, hcoe⟩ : ∃ co, co = coF l now := ⟨_, rfl⟩
        rw [← hcoe] at hco HT2
        clear hcL hll hml hgl hdrop HT hcoe
        go_upto_region 11 with fail
        have S0 : BlS wo wo.drew := (Below.refl wo.heap.size wo).drew
        refine wp_region_head 12 (fun w' => BlS wo w') (by kernel_rfl) rfl ?_
        generalize wo.drew = Y0 at *
        refine HeadAt.take (i := 0) (.pointer (some ⟨w.heap.size, 0, none⟩)) rfl (by kernel_rfl) (.inl ⟨rfl, fun _ _ => by simp [go_sem]⟩) S0 ?_
        (try simp only [Act.put, List.getElem_toArray, List.getElem_cons_succ, List.getElem_cons_zero, List.setIfInBounds_toArray, List.set_cons_succ, List.set_cons_zero])
        refine HeadAt.take (i := 1) (.slice (some ⟨bB, oB, none⟩) nB cb) rfl (by kernel_rfl) (.inl ⟨rfl, fun w' z => ?_⟩) S0 ?_
        · (have z0 := (xr.below z).cell 0 rfl; simp [go_sem, z0])
        (try simp only [Act.put, List.getElem_toArray, List.getElem_cons_succ, List.getElem_cons_zero, List.setIfInBounds_toArray, List.set_cons_succ, List.set_cons_zero])
        refine HeadAt.take (i := 2) (.int .i64 (k : Int)) rfl (by kernel_rfl) (.inl ⟨rfl, fun _ _ => by simp [go_sem]⟩) S0 ?_
        (try simp only [Act.put, List.getElem_toArray, List.getElem_cons_succ, List.getElem_cons_zero, List.setIfInBounds_toArray, List.set_cons_succ, List.set_cons_zero])
        refine HeadAt.take (i := 3) (.pointer (some ⟨bB, oB + k, none⟩)) rfl (by kernel_rfl) (.inl ⟨rfl, fun w' z => ?_⟩) S0 ?_
        · (simp [go_sem, hkI, hk0])
        (try simp only [Act.put, List.getElem_toArray, List.getElem_cons_succ, List.getElem_cons_zero, List.setIfInBounds_toArray, List.set_cons_succ, List.set_cons_zero])
        refine HeadAt.take (i := 4) (.slice aN nw cN) rfl (by kernel_rfl) (.inl ⟨rfl, fun w' z => ?_⟩) S0 ?_
        · (have z0 := (hcr.below z).1; simp [go_sem, z0])
        (try simp only [Act.put, List.getElem_toArray, List.getElem_cons_succ, List.getElem_cons_zero, List.setIfInBounds_toArray, List.set_cons_succ, List.set_cons_zero])
        refine HeadAt.take (i := 5) (.slice (some ⟨bL, oL, none⟩) nl cL) rfl (by kernel_rfl) (.inl ⟨rfl, fun _ _ => by simp [go_sem]⟩) S0 ?_
        (try simp only [Act.put, List.getElem_toArray, List.getElem_cons_succ, List.getElem_cons_zero, List.setIfInBounds_toArray, List.set_cons_succ, List.set_cons_zero])
        refine HeadAt.take (i := 6) (.int .i64 (i : Int)) rfl (by kernel_rfl) (.inl ⟨rfl, fun _ _ => by simp [go_sem]⟩) S0 ?_
        (try simp only [Act.put, List.getElem_toArray, List.getElem_cons_succ, List.getElem_cons_zero, List.setIfInBounds_toArray, List.set_cons_succ, List.set_cons_zero])
        refine HeadAt.take (i := 7) (.pointer (some ⟨bL, oL + i, none⟩)) rfl (by kernel_rfl) (.inl ⟨rfl, fun w' z => ?_⟩) S0 ?_
        · (simp [go_sem, hiI, hi0'])
        (try simp only [Act.put, List.getElem_toArray, List.getElem_cons_succ, List.getElem_cons_zero, List.setIfInBounds_toArray, List.set_cons_succ, List.set_cons_zero])
        refine HeadAt.take (i := 8) (.slice a' ll c') rfl (by kernel_rfl) (.inl ⟨rfl, fun w' z => ?_⟩) S0 ?_
        · (have z0 := (hcc.below z).1; simp [go_sem, z0])
        (try simp only [Act.put, List.getElem_toArray, List.getElem_cons_succ, List.getElem_cons_zero, List.setIfInBounds_toArray, List.set_cons_succ, List.set_cons_zero])
        refine HeadAt.take (i := 10) (.pointer (some ⟨w.heap.size, 4, none⟩)) rfl (by kernel_rfl) (.inl ⟨rfl, fun _ _ => by simp [go_sem]⟩) S0 ?_
        (try simp only [Act.put, List.getElem_toArray, List.getElem_cons_succ, List.getElem_cons_zero, List.setIfInBounds_toArray, List.set_cons_succ, List.set_cons_zero])
        refine HeadAt.take (i := 11) (.int .i64 X.ch) rfl (by kernel_rfl) (.inl ⟨rfl, fun w' z => ?_⟩) S0 ?_
        · (have z0 := (xr.below z).cell 4 rfl; simp [go_sem, z0])
        (try simp only [Act.put, List.getElem_toArray, List.getElem_cons_succ, List.getElem_cons_zero, List.setIfInBounds_toArray, List.set_cons_succ, List.set_cons_zero])
        refine HeadAt.one (i := 9) rfl (by kernel_rfl) ?_
        generalize hK : Upto _ _ = K0
        (try simp only [Act.put, List.getElem_toArray, List.getElem_cons_succ, List.getElem_cons_zero, List.setIfInBounds_toArray, List.set_cons_succ, List.set_cons_zero])
        go_wp2_with fail
        refine (hco _ (hnr.below (show Below wo.heap.size wo Y0 from S0) (Nat.le_refl _)) (hIl.1.below (show Below wo.heap.size wo Y0 from S0) (Nat.le_refl _))).mono ?_
        rintro e V2 ⟨rfl, rfl⟩
        go_wp2_with fail
        subst hK
        refine ⟨S0, ?_⟩
        (try simp only [Act.put, List.getElem_toArray, List.getElem_cons_succ, List.getElem_cons_zero, List.setIfInBounds_toArray, List.set_cons_succ, List.set_cons_zero])
        refine HeadAt.done (by kernel_rfl) ?_
        (try simp only [Act.put, List.drop_succ_cons, List.drop_zero, List.getElem_toArray, List.getElem_cons_succ, List.getElem_cons_zero])
        go_wp2_with fail
        refine NoPanic.normal ?_
        have hbY : Below wo.heap.size wo Y0 := S0
        replace hown := own_below2 hown hbY
        replace hrw := hrw.map (w' := Y0) fun _ _ k => k.below hbY (Nat.le_refl _)
        replace hPL := hPL.below hbY (Nat.le_refl _)
        replace hbr := hbr.trans (hbY.mono hbr.size)
        replace hIl := hIl.below hbY (Nat.le_refl _)
        replace hcc := hcc.below hbY
        clear S0 hco hnr hcr hbY xr
        by_cases hcm : (co : Int) ≤ X.ch
        · have HT3 := hid (show T = (SS ++ ftL X r (P ++ [l])) ++ (L.drop (i + 1)).flatMap fun l => if (coF l now : Int) ≤ X.ch then ftL X r (P ++ [l]) else [] by
            have := HT2.out
            rw [if_pos hcm] at this
            rw [this, List.append_assoc])
          clear HT2
          obtain ⟨TT, hTT⟩ : ∃ TT, TT = ftL X r (P ++ [l]) := ⟨_, rfl⟩
          have HTT := hid hTT
          rw [← hTT] at HT3
          have hpl : q + TT.length ≤ 10077696 := by
            have := congrArg List.length HT3.out
            simp only [List.length_append] at this
            have := HQ.out
            omega
          clear hTT
          go_upto_region 12 with fail
          have hbd := (Below.refl Y0.heap.size Y0).drew
          replace hown := own_below2 hown hbd
          replace hrw := hrw.map (w' := Y0.drew) fun _ _ k => k.below hbd (Nat.le_refl _)
          replace hPL := hPL.below hbd (Nat.le_refl _)
          replace hbr := hbr.trans (hbd.mono hbr.size)
          replace hIl := hIl.below hbd (Nat.le_refl _)
          replace hcc := hcc.below hbd
          clear hbd
          have S0 : Below W.heap.size W Y0.drew ∧ Y0.drew.cell? ⟨bL, oL + i, none⟩ = some (.slice a' ll c') := ⟨hbr, hcc.1⟩
          refine wp_region_head 13 (fun w' => Below W.heap.size W w' ∧ w'.cell? ⟨bL, oL + i, none⟩ = some (.slice a' ll c')) (by kernel_rfl) rfl ?_
          generalize Y0.drew = Y1 at *
          refine HeadAt.take (i := 0) (.slice a q c) rfl (by kernel_rfl) (.inl ⟨rfl, fun _ _ => by simp [go_sem]⟩) S0 ?_
          (try simp only [Act.put, List.getElem_toArray, List.getElem_cons_succ, List.getElem_cons_zero, List.setIfInBounds_toArray, List.set_cons_succ, List.set_cons_zero])
          refine HeadAt.take (i := 1) (.agg #[.slice (some ⟨bB, oB, none⟩) nB cb, .slice ast X.st.length cs, .slice ae X.er.length ce, .slice ak X.ks.length ck, .int .i64 X.ch]) rfl (by kernel_rfl) (.inl ⟨rfl, fun w' z => ?_⟩) S0 ?_
          · (have z0 := (x0.below z.1).cell 0 rfl; have z1 := (x0.below z.1).cell 1 rfl; have z2 := (x0.below z.1).cell 2 rfl; have z3 := (x0.below z.1).cell 3 rfl; have z4 := (x0.below z.1).cell 4 rfl; simp [go_sem, z0, z1, z2, z3, z4])
          (try simp only [Act.put, List.getElem_toArray, List.getElem_cons_succ, List.getElem_cons_zero, List.setIfInBounds_toArray, List.set_cons_succ, List.set_cons_zero])
          refine HeadAt.take (i := 3) (.slice aP k cP) rfl (by kernel_rfl) (.inl ⟨rfl, fun _ _ => by simp [go_sem]⟩) S0 ?_
          (try simp only [Act.put, List.getElem_toArray, List.getElem_cons_succ, List.getElem_cons_zero, List.setIfInBounds_toArray, List.set_cons_succ, List.set_cons_zero])
          refine HeadAt.take (i := 5) (.slice (some ⟨bL, oL, none⟩) nl cL) rfl (by kernel_rfl) (.inl ⟨rfl, fun _ _ => by simp [go_sem]⟩) S0 ?_
          (try simp only [Act.put, List.getElem_toArray, List.getElem_cons_succ, List.getElem_cons_zero, List.setIfInBounds_toArray, List.set_cons_succ, List.set_cons_zero])
          refine HeadAt.take (i := 6) (.int .i64 (i : Int)) rfl (by kernel_rfl) (.inl ⟨rfl, fun _ _ => by simp [go_sem]⟩) S0 ?_
          (try simp only [Act.put, List.getElem_toArray, List.getElem_cons_succ, List.getElem_cons_zero, List.setIfInBounds_toArray, List.set_cons_succ, List.set_cons_zero])
          refine HeadAt.take (i := 7) (.pointer (some ⟨bL, oL + i, none⟩)) rfl (by kernel_rfl) (.inl ⟨rfl, fun w' z => ?_⟩) S0 ?_
          · (simp [go_sem, hiI, hi0'])
          (try simp only [Act.put, List.getElem_toArray, List.getElem_cons_succ, List.getElem_cons_zero, List.setIfInBounds_toArray, List.set_cons_succ, List.set_cons_zero])
          refine HeadAt.take (i := 8) (.slice a' ll c') rfl (by kernel_rfl) (.inl ⟨rfl, fun w' z => ?_⟩) S0 ?_
          · (have z0 := z.2; simp [go_sem, z0])
          (try simp only [Act.put, List.getElem_toArray, List.getElem_cons_succ, List.getElem_cons_zero, List.setIfInBounds_toArray, List.set_cons_succ, List.set_cons_zero])
          refine HeadAt.rg4 (f0 := 3) [2, 4, 9] 3 (fun u => { tmps := #[.agg #[.slice (some ⟨bB, oB, none⟩) nB cb, .slice ast X.st.length cs, .slice ae X.er.length ce, .slice ak X.ks.length ck, .int .i64 X.ch], .slice aP k cP, .pointer (some ⟨w.heap.size, 0, none⟩), undef, .slice none 0 0, .int .i64 (k : Int), .slice a q c, .slice (some ⟨bL, oL, none⟩) nl cL, .int .i64 (i : Int), .slice aP k cP, .int .i64 (k : Int), .int .i64 (k : Int), .pointer (some ⟨w.heap.size, 0, none⟩), .slice (some ⟨bB, oB, none⟩) nB cb, .int .i64 (nB : Int), .bool false, undef, undef, undef, undef, undef, .pointer (some ⟨w.heap.size, 1, none⟩), .slice ast X.st.length cs, .int .i64 (X.st.length : Int), .pointer (some ⟨w.heap.size, 0, none⟩), .slice (some ⟨bB, oB, none⟩) nB cb, .int .i64 (k : Int), .pointer (some ⟨bB, oB + k, none⟩), .slice aN nw cN, .int .i64 (nw : Int), .slice (some ⟨bL, oL, none⟩) nl cL, .int .i64 (i : Int), .slice (some ⟨bL, oL, none⟩) nl cL, .int .i64 (nl : Int), .bool true, u35, u36, .pointer (some ⟨w.heap.size, 0, none⟩), .slice (some ⟨bB, oB, none⟩) nB cb, .int .i64 (k : Int), .pointer (some ⟨bB, oB + k, none⟩), .slice aN nw cN, .slice (some ⟨bL, oL, none⟩) nl cL, .int .i64 (i : Int), .pointer (some ⟨bL, oL + i, none⟩), .slice a' ll c', .int .i64 (co : Int), .pointer (some ⟨w.heap.size, 4, none⟩), .int .i64 X.ch, .bool (decide ((co : Int) ≤ X.ch)), .slice a q c, .agg #[.slice (some ⟨bB, oB, none⟩) nB cb, .slice ast X.st.length cs, .slice ae X.er.length ce, .slice ak X.ks.length ck, .int .i64 X.ch], u 2, .slice aP k cP, u 4, .slice (some ⟨bL, oL, none⟩) nl cL, .int .i64 (i : Int), .pointer (some ⟨bL, oL + i, none⟩), .slice a' ll c', u 9, u60, u61, u62, undef], defers := [] }) (RsI k vsP (.slice a' ll c') Y1) (updU (updU (updU (fun _ => undef) 2 u52) 4 u54) 9 u59) (by kernel_rfl) ?step ?done S0 ⟨fun h => (by cases h), fun h => (by cases h), fun h => (by cases h), fun h => (by cases h), Below.refl _ _, by decide⟩
          case step =>
            intro z hq o ho s u V hS hI hs0 hpre
            simp only [List.mem_cons, List.not_mem_nil, or_false] at hq
            generalize hK : Upto _ _ = K0
            rcases hq with rfl | rfl | rfl
            · cases ho
              go_wp2_with fail
              subst hK
              exact ⟨_, (by simp [updU] <;> omega), ⟨hS.1.trans ((below_one _).mono hS.1.size), Below.keep (below_one _) hS.2⟩, hI.two⟩
            · have h2 := hpre 2 (by kernel_rfl)
              obtain ⟨b2, e2, ho2, hl2⟩ := hI.c2 h2 hs0
              have hge2 := own_ge2 ho2
              have hY2 : Y1.heap.size ≤ b2 := hge2 b2 rfl
              have hbs := hI.bl.size
              have hcl := hclP.below hS.1 (Nat.le_refl _)
              have hfl : vsP.length = k * 1 := by rw [HVL.out]; omega
              have HI := hid hI
              have HS := hid hS
              clear hpre hI hS
              cases ho
              rw [show u 2 = _ from e2]
              refine wpList_app rfl (.tmp 52) (.tmp 53) 22 rfl Y1.heap.size 23 i0 (.slice none 0 0) 1 24 under22 hi0 iz0 iz1 iz2 rfl (by decide) _ 0 [] rfl ho2 aP k cP vsP rfl hfl hcl hvo (by unfold maxLen; omega) (by omega) hbs ?_
              intro v4 W4 hown4 hg4
              have hI := HI.out
              rw [Nat.zero_add, List.nil_append] at hown4
              have hI4 := hI.four e2 h2 hs0 hown4 hg4 hY2
              have HI4 := hid (And.intro (And.intro (hbr.trans (hI4.bl.mono hbr.size)) (Below.keep hI4.bl S0.2)) hI4)
              clear hI hI4 hown4 hg4 HI HS hcl hfl hge2 ho2
              go_wp2_with fail
              subst hK
              exact ⟨_, (by simp [updU, e2] <;> omega), HI4.out.1, HI4.out.2⟩
            · cases ho
              go_wp2_with fail
              subst hK
              exact ⟨_, (by simp [updU] <;> omega), ⟨hS.1.trans ((below_one _).mono hS.1.size), Below.keep (below_one _) hS.2⟩, hI.nine⟩
          case done =>
            intro u V hS hI
            have own4 := hI.c4 rfl
            obtain ⟨b9, e9, x9⟩ := hI.c9 rfl
            have hbl := hI.bl
            obtain ⟨a4, c4, e4⟩ := own_slice2 own4
            rw [e4] at own4
            simp only [e4, e9]
            clear hS hI e4 e9
            generalize u 2 = r2
            have hcl9 := Cls.of_bx x9
            have hge4 := own_ge2 own4
            have hbs4 := hbl.size
            (try simp only [Act.put, List.getElem_toArray, List.getElem_cons_succ, List.getElem_cons_zero, List.setIfInBounds_toArray, List.set_cons_succ, List.set_cons_zero])
            refine HeadAt.one (i := 10) rfl (by kernel_rfl) ?_
            generalize hK : Upto _ _ = K0
            (try simp only [Act.put, List.getElem_toArray, List.getElem_cons_succ, List.getElem_cons_zero, List.setIfInBounds_toArray, List.set_cons_succ, List.set_cons_zero])
            go_wp2_with (at_builtin; refine wpList_app rfl (.tmp 54) (.tmp 59) 22 rfl Y1.heap.size 23 i0 (.slice none 0 0) 1 24 under22 hi0 iz0 iz1 iz2 rfl (by decide) (.slice a4 k c4) k vsP rfl own4 (some ⟨b9, 0, none⟩) 1 1 [.slice a' ll c'] rfl rfl hcl9 (by simp; rfl) (by unfold maxLen; omega) (by omega) hbs4 ?_; intro v5 W5 hown5 hg5)
            have hb5 : Below Y1.heap.size Y1 W5 := hbl.grown hg5 hbs4 hge4
            obtain ⟨a5, c5, rfl⟩ := own_slice2 hown5
            have hl5 : (P ++ [l]).length = k + 1 := by rw [List.length_append, ← HK.out]; rfl
            have S1 : Below W.heap.size W W5 := hbr.trans (hb5.mono hbr.size)
            have hrw5 : RwG Iy List.length W5 (vsP ++ [.slice a' ll c']) (P ++ [l]) := by
              have h1 := RwG.single (len := List.length) (c := c') (hIl.below hb5 (Nat.le_refl _))
              rw [← HLL.out] at h1
              exact (hrwP.map (w' := W5) fun _ _ q => q.below S1 (Nat.le_refl _)).app h1
            have hpy5 : Py W5 a5 (P ++ [l]) := by
              rw [← hl5] at hown5
              exact Py.of_own hown5 hrw5 (by omega)
            have S1' := And.intro S1 (Below.keep hb5 S0.2)
            clear hown5 hg5 hcl9 x9 own4 hge4 hbs4 hbl hrw5
            subst hK
            refine ⟨S1', ?_⟩
            (try simp only [Act.put, List.getElem_toArray, List.getElem_cons_succ, List.getElem_cons_zero, List.setIfInBounds_toArray, List.set_cons_succ, List.set_cons_zero])
            refine HeadAt.one (i := 11) rfl (by kernel_rfl) ?_
            generalize hK : Upto _ _ = K0
            (try simp only [Act.put, List.getElem_toArray, List.getElem_cons_succ, List.getElem_cons_zero, List.setIfInBounds_toArray, List.set_cons_succ, List.set_cons_zero])
            have ihc := HIH.out (P ++ [l]) a5 c5 W5 (by rw [hl5, ← HNB.out]; have := HLR.out; omega) (hXW.below S1 (Nat.le_refl _)) hpy5
            rw [hl5, ← HTT.out, ← HNB.out] at ihc
            clear hl5 hpy5
            go_wp2_with fail
            refine ihc.mono ?_
            rintro e W6 ⟨hb6, a6, c6, rfl, ⟨us, hcl6, hrw6⟩⟩
            go_wp2_with fail
            have hb56 : Below Y1.heap.size Y1 W6 := hb5.trans (hb6.mono hb5.size)
            have S2 : Below W.heap.size W W6 := hbr.trans (hb56.mono hbr.size)
            have S2' := And.intro S2 (Below.keep hb56 S0.2)
            clear ihc hb5 hb6 S1 S1'
            subst hK
            refine ⟨S2', ?_⟩
            (try simp only [Act.put, List.getElem_toArray, List.getElem_cons_succ, List.getElem_cons_zero, List.setIfInBounds_toArray, List.set_cons_succ, List.set_cons_zero])
            refine HeadAt.one (i := 12) rfl (by kernel_rfl) ?_
            generalize hK : Upto _ _ = K0
            (try simp only [Act.put, List.getElem_toArray, List.getElem_cons_succ, List.getElem_cons_zero, List.setIfInBounds_toArray, List.set_cons_succ, List.set_cons_zero])
            have hown6 := own_below2 hown hb56
            have hrwo := hrw.map (w' := W6) fun _ _ q => q.below hb56 (Nat.le_refl _)
            have hPL6 := hPL.below hb56 (Nat.le_refl _)
            have hge := own_ge2 hown6
            have hoth := Oth.of_own hown6
            have hsz := S2.size
            have hul := hrw6.1
            have huo := hrw6.one
            go_wp2_with (at_builtin; refine wpList_appAt rfl (.tmp 50) (.tmp 61) 82 rfl W.heap.size 22 j0 (.slice none 0 0) 1 24 under82 hj0 jz0 jz1 jz2 rfl (by decide) (.slice a q c) q vs rfl hown6 a6 TT.length c6 us rfl (by omega) hcl6 huo (by unfold maxLen; omega) (by omega) hsz ?_; intro v7 W7 hown7 hg7 hat)
            obtain ⟨a7, c7, rfl⟩ := own_slice2 hown7
            have hb7 := S2.grown hg7 hsz hge
            have hrw7 : RwG Py List.length W7 (vs ++ us) (SS ++ TT) := (hrwo.map (w' := W7) fun _ _ q => q.gro hg7 hoth).app (hrw6.map (w' := W7) fun _ _ q => q.gro hg7 hoth)
            have hPL7 := hPL6.gro hg7 hoth
            have hneL := hPL6.2.2.ne (w' := W7) (by decide) hoth _ rfl
            have hcc7 : W7.cell? ⟨bL, oL + i, none⟩ = some (.slice a' ll c') := by
              rw [← S2'.2]; exact World.cell?_of_block (w := W6) (hg7.block bL (cell_lt S2'.2) (fun e => hneL (by first | exact e | exact e.symm)))
            have hq7 := hid (show q + TT.length = (SS ++ TT).length by rw [List.length_append, HQ.out])
            have HX := hid (And.intro hown7 (And.intro hb7 (And.intro hrw7 (And.intro hPL7 hcc7))))
            clear hown7 hrw7 hown6 hrwo hge hoth hsz hul huo hg7 hat hcl6 hrw6 hb56 S2 S2' hown hrw hbr hPL hPL6 hPL7 hneL hcc7 hcc hIl
            subst hK
            refine ⟨⟨HX.out.2.1, HX.out.2.2.2.2⟩, ?_⟩
            (try simp only [Act.put, List.getElem_toArray, List.getElem_cons_succ, List.getElem_cons_zero, List.setIfInBounds_toArray, List.set_cons_succ, List.set_cons_zero])
            refine HeadAt.done (by kernel_rfl) ?_
            (try simp only [Act.put, List.drop_succ_cons, List.drop_zero, List.getElem_toArray, List.getElem_cons_succ, List.getElem_cons_zero])
            go_wp2_with fail
            refine NoPanic.normal ?_
            go_wp2
            go_roundw
            case rel =>
              obtain ⟨hown, hb, hrw, hPL, _⟩ := HX.out
              exact ⟨i + 1, q + TT.length, a7, c7, vs ++ us, SS ++ TT, by omega, hq7, by go_num, rfl, hown, hb, hrw, hPL, HT3⟩
            case measure => simp [intOf]; omega
        · have HT3 := hid (show T = SS ++ (L.drop (i + 1)).flatMap fun l => if (coF l now : Int) ≤ X.ch then ftL X r (P ++ [l]) else [] by
            have := HT2.out
            rw [if_neg hcm] at this
            exact this)
          have HX := hid (And.intro hown (And.intro hbr (And.intro hrw hPL)))
          clear HT2 hown hbr hrw hPL hIl hcc
          go_wp2
          go_roundw
          case rel => exact ⟨i + 1, q, a, c, vs, SS, by omega, HQ, by go_num, rfl, HX.out.1, HX.out.2.1, HX.out.2.2.1, HX.out.2.2.2, HT3⟩
          case measure => simp [intOf]; omega
      · obtain rfl : i = nl := by omega
        have hiI : ¬ (i : Int) < (i : Int) := by omega
        have hres : FtP T w (.returned (.slice a q c)) wo := by
          have e : T = SS := by
            rw [HT.out, List.drop_of_length_le (by rw [← HNL.out]; omega), List.flatMap_nil, List.append_nil]
          rw [e]
          exact FtP.of_own (hb.trans (hbr.mono hWs)) (own_base hown hWs) HQ.out hrw
        have HRS := hid hres
        clear hres hown hrw HIH hPL
        go_wp2
        go_ret
        exact HRS.out
end Go.Proofs.Ytipdohpbilabiaa
/-! The reference's best and Best. -/
namespace Go.Proofs.Ytipdohpbilabiaa
set_option linter.unusedSimpArgs false
set_option linter.unusedVariables false
open Go Go.RowKit

theorem plB_six {X : Sw} (hok : XOk X) {P : List (List Int)} (hpl : plB X P = true) : ∀ l ∈ P, l.length ≤ 6 := fun l hl => by
  obtain ⟨i, hi, rfl⟩ := mem_getD [] hl
  have hpp := plB_parts hpl
  have h2 := hpp.2 i hi
  have h4 := (hok.b3 i (by omega)).1
  omega
theorem EarnsAll_pl (ab ast ae ak : Option Addr) (cb cs ce ck : Nat) (X : Sw) (hok : XOk X) (ap : Option Addr) (cp : Nat) (P : List (List Int)) (hpl : plB X P = true) (w : World) (hX : Swp w ab ast ae ak X) (hP : Lss w ap P) : Calls Try.prog 37 #[.agg #[.slice ab X.bs.length cb, .slice ast X.st.length cs, .slice ae X.er.length ce, .slice ak X.ks.length ck, .int .i64 X.ch], .slice ap P.length cp] w fun e w' => e = .returned (.int .i64 (eaF X P P.length)) ∧ Below w.heap.size w w' :=
  EarnsAll_any ab ast ae ak cb cs ce ck X hok ap cp P (plB_title hok hpl).1 (fun l hl => ⟨plB_six hok hpl l hl, (plB_title hok hpl).2 l hl⟩) w hX hP
theorem ftL_small {X : Sw} (hok : XOk X) : (ftL X X.bs.length []).length ≤ 10077696 :=
  Nat.le_trans (ftL_len hok _ []) (Nat.le_trans (Nat.pow_le_pow_right (by omega) hok.nb3) (by decide))
theorem ft_pl {X : Sw} (hok : XOk X) : ∀ P ∈ ftL X X.bs.length [], plB X P = true ∧ dfB X P = true := fun P hP =>
  ft_sound hok X.bs.length [] (by simp) (fun k hk => by simp at hk) P hP
/-- All of them. -/
theorem fitting_all (ab ast ae ak : Option Addr) (cb cs ce ck : Nat) (X : Sw) (hok : XOk X) (w : World) (hX : Swp w ab ast ae ak X) : Calls Try.prog 62 #[.agg #[.slice ab X.bs.length cb, .slice ast X.st.length cs, .slice ae X.er.length ce, .slice ak X.ks.length ck, .int .i64 X.ch], .slice none 0 0] w (FtP (ftL X X.bs.length []) w) :=
  fitting_rec ab ast ae ak cb cs ce ck X hok X.bs.length [] none 0 w (by simp) hX (Py.nil w)
theorem mstF_take {X : Sw} {SS : List (List (List Int))} {j : Nat} {s : List (List Int)} (h : SS.take (j + 1) = SS.take j ++ [s]) : mstF X (SS.take (j + 1)) = max (mstF X (SS.take j)) (eaF X s s.length) := by
  rw [h]; simp [mstF, List.foldl_append]

set_option maxRecDepth 100000 in
set_option maxHeartbeats 3000000 in
theorem mst_any (ab ast ae ak : Option Addr) (cb cs ce ck : Nat) (X : Sw) (hok : XOk X) (ap : Option Addr) (cp : Nat) (SS : List (List (List Int))) (hSS : ∀ P ∈ SS, plB X P = true) (hn : SS.length ≤ 10077696) (w : World) (hX : Swp w ab ast ae ak X) (hR : Rat w ap SS) : Calls Try.prog 61 #[.agg #[.slice ab X.bs.length cb, .slice ast X.st.length cs, .slice ae X.er.length ce, .slice ak X.ks.length ck, .int .i64 X.ch], .slice ap SS.length cp] w fun e w' => e = .returned (.int .i64 (mstF X SS)) ∧ Below w.heap.size w w' := by
  obtain ⟨W, hW, hb, _, x0⟩ := boxes1 w #[.slice ab X.bs.length cb, .slice ast X.st.length cs, .slice ae X.er.length ce, .slice ak X.ks.length ck, .int .i64 X.ch] 26
  have HE : ∀ (V : World) (al : Option Addr) (cl : Nat) (P : List (List Int)), P ∈ SS → Below w.heap.size w V → Py V al P → Calls Try.prog 37 #[.agg #[.slice ab X.bs.length cb, .slice ast X.st.length cs, .slice ae X.er.length ce, .slice ak X.ks.length ck, .int .i64 X.ch], .slice al P.length cl] V fun e w' => e = .returned (.int .i64 (eaF X P P.length)) ∧ Below V.heap.size V w' := fun V al cl P hP hV hI =>
    EarnsAll_pl ab ast ae ak cb cs ce ck X hok al cl P (hSS P hP) V (hX.below hV (Nat.le_refl _)) hI.lss
  have HEH := hid HE
  clear hX hok hSS HE
  obtain ⟨n, hnn⟩ : ∃ n, n = SS.length := ⟨_, rfl⟩
  rw [← hnn] at hn ⊢
  have HN := hid hnn
  clear hnn
  have c0 := x0.cell 0 rfl; have c1 := x0.cell 1 rfl; have c2 := x0.cell 2 rfl; have c3 := x0.cell 3 rfl; have c4 := x0.cell 4 rfl
  go_enter Try.func61, Try.ntmps61
  go_wp2
  clear hW c0 c1 c2 c3 c4
  go_loopw [5, 6] (fun v5 v6 wr => ∃ j : Nat, j ≤ n ∧ v6 = .int .i64 (j : Int) ∧ v5 = .int .i64 (mstF X (SS.take j)) ∧ Below W.heap.size W wr) (fun _ v6 _ => n - (intOf v6).toNat)
  case atStart => exact ⟨0, Nat.zero_le _, rfl, rfl, Below.refl _ _⟩
  case round =>
    obtain ⟨j, hj, rfl, rfl, hb1⟩ := hrel
    by_cases hlt : j < n
    · have hbr := hb.trans (hb1.mono hb.size)
      have hR1 := hR.below hbr (Nat.le_refl _)
      replace x0 := x0.below hb1
      obtain ⟨b, off, s, a', c', hap, hbl, hc, hI, hmem, _, htk⟩ := hR1.at (k := j) (by rw [← HN.out]; exact hlt)
      subst hap
      have hjI : (j : Int) < n := by omega
      have hj0 : (0 : Int) ≤ (j : Int) := by omega
      have hei := fun (t : Ext wr) => HEH.out t.w a' c' s hmem (hbr.trans (t.below.mono hbr.size)) (hI.below t.below (Nat.le_refl _))
      have HS := hid (mstF_take (X := X) htk.out)
      generalize mstF X (SS.take j) = sj at *
      generalize eaF X s s.length = y at *
      generalize s.length = m at *
      have d0 := x0.ext 0 rfl; have d1 := x0.ext 1 rfl; have d2 := x0.ext 2 rfl; have d3 := x0.ext 3 rfl; have d4 := x0.ext 4 rfl; 
      have f1 := fun t => Ext.cell hc t
      clear hR1 hI hbl hmem htk
      go_upto_region 5 with fail
      refine wp_region_ext_lit (by kernel_rfl) (by kernel_rfl) ?_
      repeat (quiet_step (first | (go_at_call 37; exact quiet_ext (hei _))))
      refine wpQuiet_nil ?_
      intro _ hw'
      obtain ⟨t, rfl⟩ := hw'
      have hb14 := hb1.trans (t.below.mono hb1.size)
      go_wp2
      go_roundw
      case rel => exact ⟨j + 1, by omega, by simp, by rw [HS.out, Int.max_def]; congr 1; split <;> split <;> omega, hb14⟩
      case measure => simp [intOf]; omega
    · obtain rfl : j = n := by omega
      have hfin := hid (show mstF X (SS.take j) = mstF X SS by rw [List.take_of_length_le (by rw [← HN.out]; omega)])
      generalize mstF X (SS.take j) = sj at *
      go_wp2
      go_ret
      exact ⟨by rw [hfin.out]; rfl, hb.trans (hb1.mono hb.size)⟩
end Go.Proofs.Ytipdohpbilabiaa
/-! Check of the program; Fits and Earns of the reference. -/
namespace Go.Proofs.Ytipdohpbilabiaa
set_option linter.unusedSimpArgs false
set_option linter.unusedVariables false
open Go Go.RowKit

set_option maxRecDepth 100000 in
set_option maxHeartbeats 2000000 in
theorem PCheck_any (ab ast ae ak : Option Addr) (cb cs ce ck : Nat) (X : Sw) (w : World) (hX : Swp w ab ast ae ak X) : Calls Try.prog 17 #[.agg #[.slice ab X.bs.length cb, .slice ast X.st.length cs, .slice ae X.er.length ce, .slice ak X.ks.length ck, .int .i64 X.ch]] w fun e w' => e = .returned (.int .i64 (cod (vB X))) ∧ Below w.heap.size w w' := by
  obtain ⟨W, hW, hb, _, x0⟩ := boxes1 w #[.slice ab X.bs.length cb, .slice ast X.st.length cs, .slice ae X.er.length ce, .slice ak X.ks.length ck, .int .i64 X.ch] 26
  have hv := valid_any ab ast ae ak cb cs ce ck X W (hX.below hb (Nat.le_refl _))
  have c0 := x0.cell 0 rfl; have c1 := x0.cell 1 rfl; have c2 := x0.cell 2 rfl; have c3 := x0.cell 3 rfl; have c4 := x0.cell 4 rfl
  clear hX
  cases hvb : vB X
  · rw [hvb] at hv
    go_enter Try.func17, Try.ntmps17
    go_wp2_with fail
    refine hv.mono ?_
    rintro e V1 ⟨rfl, hb1⟩
    replace hb := hb.trans (hb1.mono hb.size)
    clear hv hb1 x0 c0 c1 c2 c3 c4
    go_wp2
    go_ret
    exact ⟨rfl, hb⟩
  · rw [hvb] at hv
    go_enter Try.func17, Try.ntmps17
    go_wp2_with fail
    refine hv.mono ?_
    rintro e V1 ⟨rfl, hb1⟩
    replace hb := hb.trans (hb1.mono hb.size)
    clear hv hb1 x0 c0 c1 c2 c3 c4
    go_wp2
    go_ret
    exact ⟨rfl, hb⟩

set_option maxRecDepth 100000 in
set_option maxHeartbeats 2000000 in
theorem RFits_v (ab ast ae ak : Option Addr) (cb cs ce ck : Nat) (X : Sw) (ap : Option Addr) (cp : Nat) (P : List (List Int)) (w : World) (hX : Swp w ab ast ae ak X) (hP : Lss w ap P) (hv : vB X = false) : Calls Try.prog 20 #[.agg #[.slice ab X.bs.length cb, .slice ast X.st.length cs, .slice ae X.er.length ce, .slice ak X.ks.length ck, .int .i64 X.ch], .slice ap P.length cp] w fun e w' => e = .returned (.tuple #[.bool false, .int .i64 70]) ∧ Below w.heap.size w w' := by
  obtain ⟨W, hW, hb, _, x0⟩ := boxes1 w #[.slice ab X.bs.length cb, .slice ast X.st.length cs, .slice ae X.er.length ce, .slice ak X.ks.length ck, .int .i64 X.ch] 26
  have hgX := fun V (h : Below w.heap.size w V) => hX.below h (Nat.le_refl _)
  have hgP := fun V (h : Below w.heap.size w V) => hP.below h (Nat.le_refl _)
  have hck := fun V h => Check_any ab ast ae ak cb cs ce ck X V (hgX V h)
  have hip := fun V h => IsPlan_any ab ast ae ak cb cs ce ck X ap cp P V (hgX V h) (hgP V h)
  rw [hv, show cod false = 70 from rfl] at hck
  clear hX hP hv hgX hgP hip
  have c0 := x0.cell 0 rfl; have c1 := x0.cell 1 rfl; have c2 := x0.cell 2 rfl; have c3 := x0.cell 3 rfl; have c4 := x0.cell 4 rfl
  go_enter Try.func20, Try.ntmps20
  go_wp2_with fail
  refine (hck _ hb).mono ?_
  rintro e Vn ⟨rfl, hb1⟩
  replace hb := hb.trans (hb1.mono hb.size)
  replace x0 := x0.below hb1
  clear hb1 c0 c1 c2 c3 c4
  have c0 := x0.cell 0 rfl; have c1 := x0.cell 1 rfl; have c2 := x0.cell 2 rfl; have c3 := x0.cell 3 rfl; have c4 := x0.cell 4 rfl
  go_wp2
  go_ret2
  exact ⟨rfl, hb⟩

set_option maxRecDepth 100000 in
set_option maxHeartbeats 2000000 in
theorem RFits_p (ab ast ae ak : Option Addr) (cb cs ce ck : Nat) (X : Sw) (ap : Option Addr) (cp : Nat) (P : List (List Int)) (w : World) (hX : Swp w ab ast ae ak X) (hP : Lss w ap P) (hv : vB X = true) (hpl : plB X P = false) : Calls Try.prog 20 #[.agg #[.slice ab X.bs.length cb, .slice ast X.st.length cs, .slice ae X.er.length ce, .slice ak X.ks.length ck, .int .i64 X.ch], .slice ap P.length cp] w fun e w' => e = .returned (.tuple #[.bool false, .int .i64 1]) ∧ Below w.heap.size w w' := by
  obtain ⟨W, hW, hb, _, x0⟩ := boxes1 w #[.slice ab X.bs.length cb, .slice ast X.st.length cs, .slice ae X.er.length ce, .slice ak X.ks.length ck, .int .i64 X.ch] 26
  have hgX := fun V (h : Below w.heap.size w V) => hX.below h (Nat.le_refl _)
  have hgP := fun V (h : Below w.heap.size w V) => hP.below h (Nat.le_refl _)
  have hck := fun V h => Check_any ab ast ae ak cb cs ce ck X V (hgX V h)
  have hip := fun V h => IsPlan_any ab ast ae ak cb cs ce ck X ap cp P V (hgX V h) (hgP V h)
  rw [hv, show cod true = 0 from rfl] at hck
  rw [hpl] at hip
  clear hX hP hv hgX hgP hpl
  have c0 := x0.cell 0 rfl; have c1 := x0.cell 1 rfl; have c2 := x0.cell 2 rfl; have c3 := x0.cell 3 rfl; have c4 := x0.cell 4 rfl
  go_enter Try.func20, Try.ntmps20
  go_wp2_with fail
  refine (hck _ hb).mono ?_
  rintro e Vn ⟨rfl, hb1⟩
  replace hb := hb.trans (hb1.mono hb.size)
  replace x0 := x0.below hb1
  clear hb1 c0 c1 c2 c3 c4
  have c0 := x0.cell 0 rfl; have c1 := x0.cell 1 rfl; have c2 := x0.cell 2 rfl; have c3 := x0.cell 3 rfl; have c4 := x0.cell 4 rfl
  go_wp2_with fail
  refine (hip _ hb).mono ?_
  rintro e Vn ⟨rfl, hb1⟩
  replace hb := hb.trans (hb1.mono hb.size)
  replace x0 := x0.below hb1
  clear hb1 c0 c1 c2 c3 c4
  have c0 := x0.cell 0 rfl; have c1 := x0.cell 1 rfl; have c2 := x0.cell 2 rfl; have c3 := x0.cell 3 rfl; have c4 := x0.cell 4 rfl
  go_wp2
  go_ret2
  exact ⟨rfl, hb⟩

set_option maxRecDepth 100000 in
set_option maxHeartbeats 2000000 in
theorem RFits_ok (ab ast ae ak : Option Addr) (cb cs ce ck : Nat) (X : Sw) (ap : Option Addr) (cp : Nat) (P : List (List Int)) (w : World) (hX : Swp w ab ast ae ak X) (hP : Lss w ap P) (hv : vB X = true) (hpl : plB X P = true) : Calls Try.prog 20 #[.agg #[.slice ab X.bs.length cb, .slice ast X.st.length cs, .slice ae X.er.length ce, .slice ak X.ks.length ck, .int .i64 X.ch], .slice ap P.length cp] w fun e w' => e = .returned (.tuple #[.bool (fitA X.vz (planM P)), .int .i64 0]) ∧ Below w.heap.size w w' := by
  obtain ⟨W, hW, hb, _, x0⟩ := boxes1 w #[.slice ab X.bs.length cb, .slice ast X.st.length cs, .slice ae X.er.length ce, .slice ak X.ks.length ck, .int .i64 X.ch] 26
  have hgX := fun V (h : Below w.heap.size w V) => hX.below h (Nat.le_refl _)
  have hgP := fun V (h : Below w.heap.size w V) => hP.below h (Nat.le_refl _)
  have hck := fun V h => Check_any ab ast ae ak cb cs ce ck X V (hgX V h)
  have hip := fun V h => IsPlan_any ab ast ae ak cb cs ce ck X ap cp P V (hgX V h) (hgP V h)
  have hok := vB_iff hv
  have hdf := fun V h => DoesFit_any ab ast ae ak cb cs ce ck X hok ap cp P (plB_title hok hpl).1 V (hgX V h) (hgP V h)
  rw [dfB_fit hok hpl] at hdf
  generalize fitA X.vz (planM P) = fa at *
  rw [hv, show cod true = 0 from rfl] at hck
  rw [hpl] at hip
  clear hX hP hv hgX hgP hpl hok
  have c0 := x0.cell 0 rfl; have c1 := x0.cell 1 rfl; have c2 := x0.cell 2 rfl; have c3 := x0.cell 3 rfl; have c4 := x0.cell 4 rfl
  go_enter Try.func20, Try.ntmps20
  go_wp2_with fail
  refine (hck _ hb).mono ?_
  rintro e Vn ⟨rfl, hb1⟩
  replace hb := hb.trans (hb1.mono hb.size)
  replace x0 := x0.below hb1
  clear hb1 c0 c1 c2 c3 c4
  have c0 := x0.cell 0 rfl; have c1 := x0.cell 1 rfl; have c2 := x0.cell 2 rfl; have c3 := x0.cell 3 rfl; have c4 := x0.cell 4 rfl
  go_wp2_with fail
  refine (hip _ hb).mono ?_
  rintro e Vn ⟨rfl, hb1⟩
  replace hb := hb.trans (hb1.mono hb.size)
  replace x0 := x0.below hb1
  clear hb1 c0 c1 c2 c3 c4
  have c0 := x0.cell 0 rfl; have c1 := x0.cell 1 rfl; have c2 := x0.cell 2 rfl; have c3 := x0.cell 3 rfl; have c4 := x0.cell 4 rfl
  go_wp2_with fail
  refine (hdf _ hb).mono ?_
  rintro e Vn ⟨rfl, hb1⟩
  replace hb := hb.trans (hb1.mono hb.size)
  replace x0 := x0.below hb1
  clear hb1 c0 c1 c2 c3 c4
  have c0 := x0.cell 0 rfl; have c1 := x0.cell 1 rfl; have c2 := x0.cell 2 rfl; have c3 := x0.cell 3 rfl; have c4 := x0.cell 4 rfl
  go_wp2
  go_ret2
  exact ⟨rfl, hb⟩

set_option maxRecDepth 100000 in
set_option maxHeartbeats 2000000 in
theorem REarns_v (ab ast ae ak : Option Addr) (cb cs ce ck : Nat) (X : Sw) (ap : Option Addr) (cp : Nat) (P : List (List Int)) (w : World) (hX : Swp w ab ast ae ak X) (hP : Lss w ap P) (hv : vB X = false) : Calls Try.prog 22 #[.agg #[.slice ab X.bs.length cb, .slice ast X.st.length cs, .slice ae X.er.length ce, .slice ak X.ks.length ck, .int .i64 X.ch], .slice ap P.length cp] w fun e w' => e = .returned (.tuple #[.slice none 0 0, .int .i64 0, .int .i64 70]) ∧ Below w.heap.size w w' := by
  obtain ⟨W, hW, hb, _, x0⟩ := boxes1 w #[.slice ab X.bs.length cb, .slice ast X.st.length cs, .slice ae X.er.length ce, .slice ak X.ks.length ck, .int .i64 X.ch] 26
  have hgX := fun V (h : Below w.heap.size w V) => hX.below h (Nat.le_refl _)
  have hgP := fun V (h : Below w.heap.size w V) => hP.below h (Nat.le_refl _)
  have hck := fun V h => Check_any ab ast ae ak cb cs ce ck X V (hgX V h)
  have hip := fun V h => IsPlan_any ab ast ae ak cb cs ce ck X ap cp P V (hgX V h) (hgP V h)
  rw [hv, show cod false = 70 from rfl] at hck
  clear hX hP hv hgX hgP hip
  have c0 := x0.cell 0 rfl; have c1 := x0.cell 1 rfl; have c2 := x0.cell 2 rfl; have c3 := x0.cell 3 rfl; have c4 := x0.cell 4 rfl
  go_enter Try.func22, Try.ntmps22
  go_wp2_with fail
  refine (hck _ hb).mono ?_
  rintro e Vn ⟨rfl, hb1⟩
  replace hb := hb.trans (hb1.mono hb.size)
  replace x0 := x0.below hb1
  clear hb1 c0 c1 c2 c3 c4
  have c0 := x0.cell 0 rfl; have c1 := x0.cell 1 rfl; have c2 := x0.cell 2 rfl; have c3 := x0.cell 3 rfl; have c4 := x0.cell 4 rfl
  go_wp2
  ((try simp only [Exit.inBlock, Exit.then]); refine bodyPost_ret (results_tmp3 rfl _ _ _) rfl ?_)
  exact ⟨rfl, hb⟩

set_option maxRecDepth 100000 in
set_option maxHeartbeats 2000000 in
theorem REarns_p (ab ast ae ak : Option Addr) (cb cs ce ck : Nat) (X : Sw) (ap : Option Addr) (cp : Nat) (P : List (List Int)) (w : World) (hX : Swp w ab ast ae ak X) (hP : Lss w ap P) (hv : vB X = true) (hpl : plB X P = false) : Calls Try.prog 22 #[.agg #[.slice ab X.bs.length cb, .slice ast X.st.length cs, .slice ae X.er.length ce, .slice ak X.ks.length ck, .int .i64 X.ch], .slice ap P.length cp] w fun e w' => e = .returned (.tuple #[.slice none 0 0, .int .i64 0, .int .i64 1]) ∧ Below w.heap.size w w' := by
  obtain ⟨W, hW, hb, _, x0⟩ := boxes1 w #[.slice ab X.bs.length cb, .slice ast X.st.length cs, .slice ae X.er.length ce, .slice ak X.ks.length ck, .int .i64 X.ch] 26
  have hgX := fun V (h : Below w.heap.size w V) => hX.below h (Nat.le_refl _)
  have hgP := fun V (h : Below w.heap.size w V) => hP.below h (Nat.le_refl _)
  have hck := fun V h => Check_any ab ast ae ak cb cs ce ck X V (hgX V h)
  have hip := fun V h => IsPlan_any ab ast ae ak cb cs ce ck X ap cp P V (hgX V h) (hgP V h)
  rw [hv, show cod true = 0 from rfl] at hck
  rw [hpl] at hip
  clear hX hP hv hgX hgP hpl
  have c0 := x0.cell 0 rfl; have c1 := x0.cell 1 rfl; have c2 := x0.cell 2 rfl; have c3 := x0.cell 3 rfl; have c4 := x0.cell 4 rfl
  go_enter Try.func22, Try.ntmps22
  go_wp2_with fail
  refine (hck _ hb).mono ?_
  rintro e Vn ⟨rfl, hb1⟩
  replace hb := hb.trans (hb1.mono hb.size)
  replace x0 := x0.below hb1
  clear hb1 c0 c1 c2 c3 c4
  have c0 := x0.cell 0 rfl; have c1 := x0.cell 1 rfl; have c2 := x0.cell 2 rfl; have c3 := x0.cell 3 rfl; have c4 := x0.cell 4 rfl
  go_wp2_with fail
  refine (hip _ hb).mono ?_
  rintro e Vn ⟨rfl, hb1⟩
  replace hb := hb.trans (hb1.mono hb.size)
  replace x0 := x0.below hb1
  clear hb1 c0 c1 c2 c3 c4
  have c0 := x0.cell 0 rfl; have c1 := x0.cell 1 rfl; have c2 := x0.cell 2 rfl; have c3 := x0.cell 3 rfl; have c4 := x0.cell 4 rfl
  go_wp2
  ((try simp only [Exit.inBlock, Exit.then]); refine bodyPost_ret (results_tmp3 rfl _ _ _) rfl ?_)
  exact ⟨rfl, hb⟩

theorem cell_gro {w w' : World} {p : Addr} {v : Value} {r : Option Nat} (h : w.cell? p = some v) (hg : w.grownBy w' r) (hne : ∀ q, r = some q → p.block ≠ q) : w'.cell? p = some v := by
  have hk := hg.block p.block (cell_lt h) (fun e => hne _ e.symm rfl)
  rw [← h]
  unfold World.cell?
  simp only [hk]
theorem eaL_succ (V : Vz) (p : Pl) (k : Nat) : earL V p (k + 1) = earL V p k ++ [earB V p k] := earL_succ V p k
theorem ear_ei {X : Sw} (hok : XOk X) {P : List (List Int)} (hpl : plB X P = true) {k : Nat} (hk : k < P.length) : eiF X k (P.getD k []) = earB X.vz (planM P) k := by
  obtain ⟨hl, hp⟩ := plB_parts hpl
  have hn3 := hok.nb3
  have h6 : ntI X < 6 := by unfold ntI; have := hok.t6; omega
  obtain ⟨hlen, hr⟩ := hp k hk
  have h3 := (hok.b3 k (by omega)).1
  unfold eiF earB
  rw [show (planM P).get k = mask (P.getD k []) from now_get P hk (by omega), bits_mask hr h6 (by omega)]

set_option maxRecDepth 100000 in
set_option maxHeartbeats 4000000 in
theorem REarns_ok (ab ast ae ak : Option Addr) (cb cs ce ck : Nat) (X : Sw) (ap : Option Addr) (cp : Nat) (P : List (List Int)) (w : World) (hX : Swp w ab ast ae ak X) (hP : Lss w ap P) (hv : vB X = true) (hpl : plB X P = true) : Calls Try.prog 22 #[.agg #[.slice ab X.bs.length cb, .slice ast X.st.length cs, .slice ae X.er.length ce, .slice ak X.ks.length ck, .int .i64 X.ch], .slice ap P.length cp] w fun e w' => Below w.heap.size w w' ∧ ∃ a c, e = .returned (.tuple #[.slice a X.bs.length c, .int .i64 (earn X.vz (planM P)), .int .i64 0]) ∧ Ints w' a (earL X.vz (planM P) X.bs.length) := by
  obtain ⟨j0, hj, jz0, jz1, jz2⟩ := info_parts info3i
  obtain ⟨W, hW, hb, _, x0⟩ := boxes1 w #[.slice ab X.bs.length cb, .slice ast X.st.length cs, .slice ae X.er.length ce, .slice ak X.ks.length ck, .int .i64 X.ch] 26
  have hok := vB_iff hv
  have ht := plB_title hok hpl
  have hn3 := hok.nb3
  have hpp := plB_parts hpl
  have hp6 : ∀ l ∈ P, l.length ≤ 6 := fun l hl => by
    obtain ⟨i, hi, rfl⟩ := mem_getD [] hl
    have h2 := hpp.2 i hi
    have h4 := (hok.b3 i (by omega)).1
    omega
  have hgX := fun V (h : Below w.heap.size w V) => hX.below h (Nat.le_refl _)
  have hgP := fun V (h : Below w.heap.size w V) => hP.below h (Nat.le_refl _)
  have hck := fun V h => Check_any ab ast ae ak cb cs ce ck X V (hgX V h)
  have hip := fun V h => IsPlan_any ab ast ae ak cb cs ce ck X ap cp P V (hgX V h) (hgP V h)
  rw [hv, show cod true = 0 from rfl] at hck
  rw [hpl] at hip
  have hea : ∀ V, Below w.heap.size w V → Calls Try.prog 37 #[.agg #[.slice ab X.bs.length cb, .slice ast X.st.length cs, .slice ae X.er.length ce, .slice ak X.ks.length ck, .int .i64 X.ch], .slice ap P.length cp] V fun e w' => e = .returned (.int .i64 (earn X.vz (planM P))) ∧ Below V.heap.size V w' := fun V h => by
    have h1 := EarnsAll_any ab ast ae ak cb cs ce ck X hok ap cp P ht.1 (fun l hl => ⟨hp6 l hl, ht.2 l hl⟩) V (hgX V h) (hgP V h)
    rw [earn_ea hok hpl] at h1
    exact h1
  have HE : ∀ (k : Nat) (V : World) (al : Option Addr) (cl : Nat), k < P.length → Below w.heap.size w V → Ints V al (P.getD k []) → Calls Try.prog 59 #[.agg #[.slice ab X.bs.length cb, .slice ast X.st.length cs, .slice ae X.er.length ce, .slice ak X.ks.length ck, .int .i64 X.ch], .int .i64 (k : Int), .slice al (P.getD k []).length cl] V fun e w' => e = .returned (.int .i64 (earB X.vz (planM P) k)) ∧ Below V.heap.size V w' := fun k V al cl hk hV hI => by
    have hm := getD_mem' P [] hk
    rw [← ear_ei hok hpl hk]
    exact EarnsIn_any ab ast ae ak cb cs ce ck X hok k (by rw [← ht.1]; exact hk) al cl _ (ht.2 _ hm) (hp6 _ hm) V (hgX V hV) hI
  have hle : ∀ k, ∀ y ∈ earL X.vz (planM P) k, 0 ≤ y ∧ y ≤ 6000 := fun k => earL_le (vz_ok hok) (planM P) k
  have hll : ∀ k, (earL X.vz (planM P) k).length = k := earL_len X.vz (planM P)
  have hls : ∀ k, earL X.vz (planM P) (k + 1) = earL X.vz (planM P) k ++ [earB X.vz (planM P) k] := earL_succ X.vz (planM P)
  have HNN : X.bs.length = P.length := ht.1.symm
  have HX := hid (And.intro HE (And.intro hle (And.intro hll hls)))
  have hn3' : P.length ≤ 3 := by omega
  generalize earn X.vz (planM P) = en at *
  generalize earL X.vz (planM P) = eL at *
  generalize earB X.vz (planM P) = eB at *
  obtain ⟨n, hn⟩ : ∃ n, n = P.length := ⟨_, rfl⟩
  have HN := hid hn
  rw [← hn] at hn3' HNN hip hea ⊢
  have HNN' := hid HNN
  have c0 := x0.cell 0 rfl; have c1 := x0.cell 1 rfl; have c2 := x0.cell 2 rfl; have c3 := x0.cell 3 rfl; have c4 := x0.cell 4 rfl
  clear hX hv hpl hok ht hpp hp6 hP HE hle hll hls hn3 hn HNN hgX
  go_enter Try.func22, Try.ntmps22
  go_wp2_with fail
  refine (hck _ hb).mono ?_
  rintro e Vn ⟨rfl, hb1⟩
  replace hb := hb.trans (hb1.mono hb.size)
  replace x0 := x0.below hb1
  clear hb1 c0 c1 c2 c3 c4
  have c0 := x0.cell 0 rfl; have c1 := x0.cell 1 rfl; have c2 := x0.cell 2 rfl; have c3 := x0.cell 3 rfl; have c4 := x0.cell 4 rfl
  go_wp2_with fail
  refine (hip _ hb).mono ?_
  rintro e Vn ⟨rfl, hb1⟩
  replace hb := hb.trans (hb1.mono hb.size)
  replace x0 := x0.below hb1
  clear hb1 c0 c1 c2 c3 c4
  have c0 := x0.cell 0 rfl; have c1 := x0.cell 1 rfl; have c2 := x0.cell 2 rfl; have c3 := x0.cell 3 rfl; have c4 := x0.cell 4 rfl
  go_wp2
  clear c0 c1 c2 c3 c4 hck hip
  have hws : w.heap.size + 1 ≤ Vn.heap.size := x0.lt
  go_loopw [4, 8] (fun v4 v8 wr => ∃ (k : Nat) (a : Option Addr) (c : Nat), k ≤ n ∧ v8 = .int .i64 (k : Int) ∧ v4 = .slice a k c ∧ wr.ownsRow (w.heap.size + 1) 3 1 (.slice a k c) k ((eL k).map (Value.int .i64)) ∧ Bx wr w.heap.size #[.slice ab X.bs.length cb, .slice ast X.st.length cs, .slice ae X.er.length ce, .slice ak X.ks.length ck, .int .i64 X.ch] 26 ∧ w.heap.size + 1 ≤ wr.heap.size ∧ Below w.heap.size w wr) (fun _ v8 _ => n - (intOf v8).toNat)
  case atStart => exact ⟨0, none, 0, Nat.zero_le _, rfl, rfl, by
    have : eL 0 = [] := List.eq_nil_of_length_eq_zero (HX.out.2.2.1 0)
    rw [this]; exact World.ownsRow_nil _ _ _ _, x0, hws, hb⟩
  case round =>
    clear x0 hb hws
    obtain ⟨k, a, c, hk, rfl, rfl, hown, x0, hws, hb⟩ := hrel
    obtain ⟨wo, rfl⟩ : ∃ wo : World, wo = wr := ⟨_, rfl⟩
    by_cases hlt : k < n
    · have hkP : k < P.length := by rw [← HN.out]; exact hlt
      obtain ⟨b, off, a', c', hap, hbl, _, _⟩ := (hgP _ (Below.refl _ w)).at (k := k) hkP
      obtain ⟨b', off', a2, c2, hap', hbl', hc, hI⟩ := (hgP _ hb).at (k := k) hkP
      rw [hap] at hap'
      cases hap'
      subst hap
      have hei := fun V h h2 => HX.out.1 k V a2 c2 hkP h h2
      have hsn := HX.out.2.2.2 k
      have hbd : ∀ y ∈ eL (k + 1), 0 ≤ y ∧ y ≤ 6000 := HX.out.2.1 (k + 1)
      have HS := hid hsn
      clear hsn
      obtain ⟨L, hL⟩ : ∃ L, L = P.getD k [] := ⟨_, rfl⟩
      rw [← hL] at hei hc hI
      obtain ⟨y, hy⟩ : ∃ y, y = eB k := ⟨_, rfl⟩
      rw [← hy] at hei
      have HY := hid hy
      clear hL hy hbd
      have hkI : (k : Int) < n := by omega
      have hk0 : (0 : Int) ≤ (k : Int) := by omega
      have hk3 : k < 3 := by omega
      have hge := own_ge2 hown
      go_upto_region 9 with fail
      have hbd := (Below.refl wo.heap.size wo).drew
      have hwo := hb.size
      have S0 := And.intro (x0.below hbd) (Below.keep hbd hc)
      replace hb := hb.trans (hbd.mono hwo)
      replace hown := own_below2 hown hbd
      replace hI := hI.below hbd (Nat.le_refl _)
      replace hws : w.heap.size + 1 ≤ wo.drew.heap.size := Nat.le_trans hws hbd.size
      clear hbd x0 hc hwo
      refine wp_region_head 10 (fun w' => Bx w' w.heap.size #[.slice ab X.bs.length cb, .slice ast X.st.length cs, .slice ae X.er.length ce, .slice ak X.ks.length ck, .int .i64 X.ch] 26 ∧ w'.cell? ⟨b, off + k, none⟩ = some (.slice a2 L.length c2)) (by kernel_rfl) rfl ?_
      obtain ⟨Y0, hY0⟩ : ∃ Y, Y = wo.drew := ⟨_, rfl⟩
      rw [← hY0] at S0 hb hown hI hws ⊢
      clear hY0
      refine HeadAt.take (i := 0) (.slice a k c) rfl (by kernel_rfl) (.inl ⟨rfl, fun _ _ => by simp [go_sem]⟩) S0 ?_
      (try simp only [Act.put, List.getElem_toArray, List.getElem_cons_succ, List.getElem_cons_zero, List.setIfInBounds_toArray, List.set_cons_succ, List.set_cons_zero])
      refine HeadAt.take (i := 1) (.agg #[.slice ab X.bs.length cb, .slice ast X.st.length cs, .slice ae X.er.length ce, .slice ak X.ks.length ck, .int .i64 X.ch]) rfl (by kernel_rfl) (.inl ⟨rfl, fun w' z => ?_⟩) S0 ?_
      · (have z0 := z.1.cell 0 rfl; have z1 := z.1.cell 1 rfl; have z2 := z.1.cell 2 rfl; have z3 := z.1.cell 3 rfl; have z4 := z.1.cell 4 rfl; simp [go_sem, z0, z1, z2, z3, z4])
      refine HeadAt.take (i := 2) (.int .i64 (k : Int)) rfl (by kernel_rfl) (.inl ⟨rfl, fun _ _ => by simp [go_sem]⟩) S0 ?_
      refine HeadAt.take (i := 3) (.slice (some ⟨b, off, none⟩) n cp) rfl (by kernel_rfl) (.inl ⟨rfl, fun _ _ => by simp [go_sem]⟩) S0 ?_
      refine HeadAt.take (i := 4) (.int .i64 (k : Int)) rfl (by kernel_rfl) (.inl ⟨rfl, fun _ _ => by simp [go_sem]⟩) S0 ?_
      (try simp only [Act.put, List.getElem_toArray, List.getElem_cons_succ, List.getElem_cons_zero, List.setIfInBounds_toArray, List.set_cons_succ, List.set_cons_zero])
      refine HeadAt.take (i := 5) (.pointer (some ⟨b, off + k, none⟩)) rfl (by kernel_rfl) (.inl ⟨rfl, fun w' z => ?_⟩) S0 ?_
      · (simp [go_sem, hkI, hk0])
      (try simp only [Act.put, List.getElem_toArray, List.getElem_cons_succ, List.getElem_cons_zero, List.setIfInBounds_toArray, List.set_cons_succ, List.set_cons_zero])
      refine HeadAt.take (i := 6) (.slice a2 L.length c2) rfl (by kernel_rfl) (.inl ⟨rfl, fun w' z => ?_⟩) S0 ?_
      · (simp [go_sem, z.2])
      (try simp only [Act.put, List.getElem_toArray, List.getElem_cons_succ, List.getElem_cons_zero, List.setIfInBounds_toArray, List.set_cons_succ, List.set_cons_zero])
      refine HeadAt.one (i := 7) rfl (by kernel_rfl) ?_
      generalize hK : Upto _ _ = K0
      (try simp only [Act.put, List.getElem_toArray, List.getElem_cons_succ, List.getElem_cons_zero, List.setIfInBounds_toArray, List.set_cons_succ, List.set_cons_zero])
      go_wp2_with fail
      refine (hei _ hb hI).mono ?_
      rintro e V1 ⟨rfl, hb1⟩
      replace S0 := And.intro (S0.1.below hb1) (Below.keep hb1 S0.2)
      have hs1 := hb.size
      replace hb := hb.trans (hb1.mono hs1)
      replace hown := own_below2 hown hb1
      replace hws : w.heap.size + 1 ≤ V1.heap.size := Nat.le_trans hws hb1.size
      clear hb1 hei hI hs1
      go_wp2_with fail
      subst hK
      refine ⟨S0, ?_⟩
      (try simp only [Act.put, List.getElem_toArray, List.getElem_cons_succ, List.getElem_cons_zero, List.setIfInBounds_toArray, List.set_cons_succ, List.set_cons_zero])
      have hbA := below_one (w := V1) (.cells #[.int .i64 y] 3)
      have S1 := And.intro (S0.1.below hbA) (Below.keep hbA S0.2)
      have hcl := Cls.of_bx (Bx.new V1 #[.int .i64 y] 3)
      have hownA := own_below2 hown hbA
      have hs1 := hb.size
      have hbB := hb.trans (hbA.mono hs1)
      refine HeadAt.one (i := 8) rfl (by kernel_rfl) ?_
      generalize hK : Upto _ _ = K0
      (try simp only [Act.put, List.getElem_toArray, List.getElem_cons_succ, List.getElem_cons_zero, List.setIfInBounds_toArray, List.set_cons_succ, List.set_cons_zero])
      go_wp2_with fail
      subst hK
      refine ⟨S1, ?_⟩
      (try simp only [Act.put, List.getElem_toArray, List.getElem_cons_succ, List.getElem_cons_zero, List.setIfInBounds_toArray, List.set_cons_succ, List.set_cons_zero])
      refine HeadAt.one (i := 9) rfl (by kernel_rfl) ?_
      generalize hK : Upto _ _ = K0
      (try simp only [Act.put, List.getElem_toArray, List.getElem_cons_succ, List.getElem_cons_zero, List.setIfInBounds_toArray, List.set_cons_succ, List.set_cons_zero])
      go_wp2_with (at_builtin; go_loud (refine wpList_appAt rfl (.tmp 24) (.tmp 32) 23 rfl (w.heap.size + 1) 3 j0 (.int .i64 0) 1 8 under23 hj jz0 jz1 jz2 rfl (by decide) (.slice a k c) k _ rfl hownA (some ⟨V1.heap.size, 0, none⟩) 1 1 [.int .i64 y] rfl rfl hcl (ints_oneCell .i64 [y]) (by unfold maxLen; omega) (by omega) (by simp; omega) ?_); intro v3 W3 hown3 hg3 hat)
      obtain ⟨a3, c3, rfl⟩ := own_slice2 hown3
      have S2 := And.intro (S1.1.gb hg3 (fun q hq => by have := hge q hq; omega)) (cell_gro S1.2 hg3 (fun q hq => by have := hge q hq; show b ≠ q; omega))
      have hb3 := hbB.grown hg3 hbB.size (fun q hq => by have := hge q hq; omega)
      have hsz3 := hg3.size
      have hr3 : W3.ownsRow (w.heap.size + 1) 3 1 (.slice a3 (k + 1) c3) (k + 1) ((eL (k + 1)).map (Value.int .i64)) := by
        rw [HS.out, List.map_append, ← HY.out]; exact hown3
      have hws3 : w.heap.size + 1 ≤ W3.heap.size := by simp at hsz3; omega
      have HR := hid (And.intro hr3 (And.intro hb3 hws3))
      clear hr3 hb3 hown3 hg3 hat hcl hownA hown S0 S1 hbA hbB hb hsz3 hws3
      subst hK
      refine ⟨S2, ?_⟩
      (try simp only [Act.put, List.getElem_toArray, List.getElem_cons_succ, List.getElem_cons_zero, List.setIfInBounds_toArray, List.set_cons_succ, List.set_cons_zero])
      refine HeadAt.done (by kernel_rfl) ?_
      (try simp only [Act.put, List.drop_succ_cons, List.drop_zero, List.getElem_toArray, List.getElem_cons_succ, List.getElem_cons_zero])
      go_wp2_with fail
      refine NoPanic.normal ?_
      obtain ⟨hr3, hb3, hws3⟩ := HR.out
      have x0' := S2.1
      clear S2
      go_wp2
      go_roundw
      case rel => exact ⟨k + 1, a3, c3, by omega, by simp, rfl, hr3, x0', hws3, hb3⟩
      case measure => simp [intOf]; omega
    · obtain rfl : k = n := by omega
      have c0 := x0.cell 0 rfl; have c1 := x0.cell 1 rfl; have c2 := x0.cell 2 rfl; have c3 := x0.cell 3 rfl; have c4 := x0.cell 4 rfl
      have hll := HX.out.2.2.1 k
      have hle := HX.out.2.1 k
      clear HX
      go_wp2_with fail
      refine (hea _ hb).mono ?_
      rintro e Vn ⟨rfl, hb1⟩
      have hown' := own_below2 hown hb1
      replace hb := hb.trans (hb1.mono hb.size)
      clear hb1 c0 c1 c2 c3 c4 x0
      have HO := hid hown'
      clear hown' hown
      go_wp2
      ((try simp only [Exit.inBlock, Exit.then]); refine bodyPost_ret (results_tmp3 rfl _ _ _) rfl ?_)
      have hown' := HO.out
      rw [← hll] at hown'
      obtain ⟨a3, c3, e3, hI⟩ := Ints.of_own (by rw [hll] at hown' ⊢; exact hown') (by omega) (fun x hx => by have := hle x hx; omega)
      rw [hll] at e3
      cases e3
      rw [HNN'.out]
      exact ⟨hb, a, c, rfl, hI⟩
end Go.Proofs.Ytipdohpbilabiaa
/-! The reference's Best. -/
namespace Go.Proofs.Ytipdohpbilabiaa
set_option linter.unusedSimpArgs false
set_option linter.unusedVariables false
open Go Go.RowKit


set_option maxRecDepth 100000 in
set_option maxHeartbeats 2000000 in
theorem RBest_bad (ab ast ae ak : Option Addr) (cb cs ce ck : Nat) (X : Sw) (w : World) (hX : Swp w ab ast ae ak X) (hv : vB X = false) : Calls Try.prog 28 #[.agg #[.slice ab X.bs.length cb, .slice ast X.st.length cs, .slice ae X.er.length ce, .slice ak X.ks.length ck, .int .i64 X.ch]] w fun e w' => e = .returned (.tuple #[.int .i64 0, .int .i64 70]) ∧ Below w.heap.size w w' := by
  obtain ⟨W, hW, hb, _, x0⟩ := boxes1 w #[.slice ab X.bs.length cb, .slice ast X.st.length cs, .slice ae X.er.length ce, .slice ak X.ks.length ck, .int .i64 X.ch] 26
  have hck := fun V (h : Below w.heap.size w V) => Check_any ab ast ae ak cb cs ce ck X V (hX.below h (Nat.le_refl _))
  rw [hv, show cod false = 70 from rfl] at hck
  clear hX hv
  have c0 := x0.cell 0 rfl; have c1 := x0.cell 1 rfl; have c2 := x0.cell 2 rfl; have c3 := x0.cell 3 rfl; have c4 := x0.cell 4 rfl
  go_enter Try.func28, Try.ntmps28
  go_wp2_with fail
  refine (hck _ hb).mono ?_
  rintro e W1 ⟨rfl, hb1⟩
  replace hb := hb.trans (hb1.mono hb.size)
  clear hW c0 c1 c2 c3 c4 hb1 hck x0
  go_wp2
  go_ret2
  exact ⟨rfl, hb⟩

set_option maxRecDepth 100000 in
set_option maxHeartbeats 2000000 in
theorem RBest_ok (ab ast ae ak : Option Addr) (cb cs ce ck : Nat) (X : Sw) (w : World) (hX : Swp w ab ast ae ak X) (hv : vB X = true) : Calls Try.prog 28 #[.agg #[.slice ab X.bs.length cb, .slice ast X.st.length cs, .slice ae X.er.length ce, .slice ak X.ks.length ck, .int .i64 X.ch]] w fun e w' => e = .returned (.tuple #[.int .i64 (earn X.vz (bestP X.vz)), .int .i64 0]) ∧ Below w.heap.size w w' := by
  have hok := vB_iff hv
  obtain ⟨W, hW, hb, _, x0⟩ := boxes1 w #[.slice ab X.bs.length cb, .slice ast X.st.length cs, .slice ae X.er.length ce, .slice ak X.ks.length ck, .int .i64 X.ch] 26
  have hck := fun V (h : Below w.heap.size w V) => Check_any ab ast ae ak cb cs ce ck X V (hX.below h (Nat.le_refl _))
  rw [hv, show cod true = 0 from rfl] at hck
  have hft := fun V (h : Below w.heap.size w V) => fitting_all ab ast ae ak cb cs ce ck X hok V (hX.below h (Nat.le_refl _))
  have hms := fun V (h : Below w.heap.size w V) a c => mst_any ab ast ae ak cb cs ce ck X hok a c (ftL X X.bs.length []) (fun P hP => (ft_pl hok P hP).1) (ftL_small hok) V (hX.below h (Nat.le_refl _))
  rw [mst_best hok] at hms
  generalize earn X.vz (bestP X.vz) = be at *
  have hfl := ftL_small hok
  generalize ftL X X.bs.length [] = FF at *
  clear hX hv hok
  obtain ⟨nF, hnF⟩ : ∃ nF, nF = FF.length := ⟨_, rfl⟩
  unfold FtP at hft
  rw [← hnF] at hms hfl hft
  have HNF := hid hnF
  clear hnF
  have c0 := x0.cell 0 rfl; have c1 := x0.cell 1 rfl; have c2 := x0.cell 2 rfl; have c3 := x0.cell 3 rfl; have c4 := x0.cell 4 rfl
  go_enter Try.func28, Try.ntmps28
  go_wp2_with fail
  refine (hck _ hb).mono ?_
  rintro e W1 ⟨rfl, hb1⟩
  replace hb := hb.trans (hb1.mono hb.size)
  replace x0 := x0.below hb1
  clear hW c0 c1 c2 c3 c4 hb1 hck
  go_upto_region 4 with fail
  have S0 : BlS W1 W1.drew := (Below.refl W1.heap.size W1).drew
  refine wp_region_head 4 (fun w' => BlS W1 w') (by kernel_rfl) rfl ?_
  generalize W1.drew = Y0 at *
  refine HeadAt.take (i := 0) (.agg #[.slice ab X.bs.length cb, .slice ast X.st.length cs, .slice ae X.er.length ce, .slice ak X.ks.length ck, .int .i64 X.ch]) rfl (by kernel_rfl) (.inl ⟨rfl, fun w' z => ?_⟩) S0 ?_
  · (have z0 := (x0.below z).cell 0 rfl; have z1 := (x0.below z).cell 1 rfl; have z2 := (x0.below z).cell 2 rfl; have z3 := (x0.below z).cell 3 rfl; have z4 := (x0.below z).cell 4 rfl; simp [go_sem, z0, z1, z2, z3, z4])
  (try simp only [Act.put, List.getElem_toArray, List.getElem_cons_succ, List.getElem_cons_zero, List.setIfInBounds_toArray, List.set_cons_succ, List.set_cons_zero])
  refine HeadAt.take (i := 1) (.agg #[.slice ab X.bs.length cb, .slice ast X.st.length cs, .slice ae X.er.length ce, .slice ak X.ks.length ck, .int .i64 X.ch]) rfl (by kernel_rfl) (.inl ⟨rfl, fun w' z => ?_⟩) S0 ?_
  · (have z0 := (x0.below z).cell 0 rfl; have z1 := (x0.below z).cell 1 rfl; have z2 := (x0.below z).cell 2 rfl; have z3 := (x0.below z).cell 3 rfl; have z4 := (x0.below z).cell 4 rfl; simp [go_sem, z0, z1, z2, z3, z4])
  (try simp only [Act.put, List.getElem_toArray, List.getElem_cons_succ, List.getElem_cons_zero, List.setIfInBounds_toArray, List.set_cons_succ, List.set_cons_zero])
  refine HeadAt.one (i := 2) rfl (by kernel_rfl) ?_
  generalize hK : Upto _ _ = K0
  (try simp only [Act.put, List.getElem_toArray, List.getElem_cons_succ, List.getElem_cons_zero, List.setIfInBounds_toArray, List.set_cons_succ, List.set_cons_zero])
  go_wp2_with fail
  refine (hft _ (hb.trans ((show Below W1.heap.size W1 Y0 from S0).mono hb.size))).mono ?_
  rintro e V1 ⟨hb1, aF, cF, rfl, hRat⟩
  go_wp2_with fail
  have S1 : BlS W1 V1 := Below.trans S0 (hb1.mono (Below.size S0))
  subst hK
  refine ⟨S1, ?_⟩
  (try simp only [Act.put, List.getElem_toArray, List.getElem_cons_succ, List.getElem_cons_zero, List.setIfInBounds_toArray, List.set_cons_succ, List.set_cons_zero])
  clear hb1 S0
  refine HeadAt.one (i := 3) rfl (by kernel_rfl) ?_
  generalize hK : Upto _ _ = K0
  (try simp only [Act.put, List.getElem_toArray, List.getElem_cons_succ, List.getElem_cons_zero, List.setIfInBounds_toArray, List.set_cons_succ, List.set_cons_zero])
  go_wp2_with fail
  refine (hms _ (hb.trans ((show Below W1.heap.size W1 V1 from S1).mono hb.size)) aF cF hRat).mono ?_
  rintro e V2 ⟨rfl, hb2⟩
  go_wp2_with fail
  have S2 : BlS W1 V2 := Below.trans S1 (hb2.mono (Below.size S1))
  subst hK
  refine ⟨S2, ?_⟩
  (try simp only [Act.put, List.getElem_toArray, List.getElem_cons_succ, List.getElem_cons_zero, List.setIfInBounds_toArray, List.set_cons_succ, List.set_cons_zero])
  refine HeadAt.done (by kernel_rfl) ?_
  (try simp only [Act.put, List.drop_succ_cons, List.drop_zero, List.getElem_toArray, List.getElem_cons_succ, List.getElem_cons_zero])
  go_wp2_with fail
  refine NoPanic.normal ?_
  have hbV := hb.trans ((show Below W1.heap.size W1 V2 from S2).mono hb.size)
  clear S1 S2 hb2 hft hms hRat x0
  go_wp2
  go_ret2
  exact ⟨rfl, hbV⟩
end Go.Proofs.Ytipdohpbilabiaa
/-! The reference's Fair: what it reckons. -/
namespace Go.Proofs.Ytipdohpbilabiaa
set_option linter.unusedSimpArgs false
set_option linter.unusedVariables false
open Go Go.RowKit

/-- The most of something over a list. -/
def mxF {α : Type} (f : α → Int) (l : List α) : Int := l.foldl (fun n P => max n (f P)) 0
theorem mxF_snoc {α : Type} (f : α → Int) (l : List α) (x : α) : mxF f (l ++ [x]) = max (mxF f l) (f x) := by simp [mxF, List.foldl_append]
theorem mxF_facts {α : Type} (f : α → Int) : ∀ (n : Nat) (l : List α), l.length = n → 0 ≤ mxF f l ∧ (∀ x ∈ l, f x ≤ mxF f l) ∧ (mxF f l = 0 ∨ ∃ x ∈ l, mxF f l = f x)
  | 0, l, h => by
    obtain rfl := List.length_eq_zero_iff.1 h
    exact ⟨Int.le_refl _, fun x hx => by simp at hx, .inl rfl⟩
  | n + 1, l, h => by
    obtain ⟨l', p, rfl⟩ : ∃ l' p, l = l' ++ [p] := ⟨l.dropLast, l.getLast (by intro e; rw [e] at h; cases h), (List.dropLast_concat_getLast _).symm⟩
    obtain ⟨h0, h1, h2⟩ := mxF_facts f n l' (by simpa using h)
    rw [mxF_snoc]
    refine ⟨by omega, fun q hq => ?_, ?_⟩
    · rcases List.mem_append.1 hq with hq | hq
      · have := h1 q hq; omega
      · rw [List.mem_singleton.1 hq]; omega
    · by_cases hsy : mxF f l' ≤ f p
      · exact .inr ⟨p, by simp, by omega⟩
      · rcases h2 with h2 | ⟨q, hq, e⟩
        · exact .inl (by omega)
        · exact .inr ⟨q, List.mem_append_left _ hq, by omega⟩
theorem mxF_take {α : Type} (f : α → Int) {SS : List α} {j : Nat} {s : α} (h : SS.take (j + 1) = SS.take j ++ [s]) : mxF f (SS.take (j + 1)) = max (mxF f (SS.take j)) (f s) := by
  rw [h, mxF_snoc]
/-- What the boxes earn, box for box. -/
def mnL (X : Sw) (P : List (List Int)) (k : Nat) : List Int := (List.range k).map fun i => eiF X i (P.getD i [])
theorem minL_snoc (l : List Int) (x : Int) (h : l ≠ []) : minL (l ++ [x]) = min (minL l) x := by
  unfold minL
  rw [List.foldl_append]
  cases l with
  | nil => exact absurd rfl h
  | cons a l => rfl
def mnE (X : Sw) (P : List (List Int)) (k : Nat) : Int := minL (mnL X P k)
theorem mnE_one (X : Sw) (P : List (List Int)) : mnE X P 1 = eiF X 0 (P.getD 0 []) := by simp [mnE, mnL, minL]
theorem mnE_succ (X : Sw) (P : List (List Int)) {k : Nat} (h : 1 ≤ k) : mnE X P (k + 1) = min (mnE X P k) (eiF X k (P.getD k [])) := by
  unfold mnE
  rw [show mnL X P (k + 1) = mnL X P k ++ [eiF X k (P.getD k [])] by simp [mnL, List.range_succ]]
  refine minL_snoc _ _ (fun e => ?_)
  have := congrArg List.length e
  simp [mnL] at this
  omega
theorem mnE_ear {X : Sw} (hok : XOk X) {P : List (List Int)} (hpl : plB X P = true) : mnE X P X.bs.length = minL (earL X.vz (planM P) X.vz.nb) := by
  unfold mnE
  congr 1
  show (List.range X.bs.length).map _ = (List.range X.bs.length).map _
  refine List.map_congr_left fun k hk => ear_ei hok hpl ?_
  rw [(plB_parts hpl).1]; exact List.mem_range.1 hk
theorem fair_eq {X : Sw} (hok : XOk X) : mxF (fun P => mnE X P X.bs.length) (ftL X X.bs.length []) = fairV X.vz := by
  obtain ⟨h1, h2, h3⟩ := mxF_facts (fun P => mnE X P X.bs.length) _ (ftL X X.bs.length []) rfl
  obtain ⟨g1, g2, g3⟩ := fair_max X.vz (plansV X.vz)
  refine Int.le_antisymm ?_ ?_
  · rcases h3 with h3 | ⟨P, hP, h3⟩
    · rw [h3]; exact g1
    · obtain ⟨f1, f2⟩ := ft_pl hok P hP
      rw [h3]
      show mnE X P X.bs.length ≤ _
      rw [mnE_ear hok f1]
      exact g2 _ (fit_in hok f1 (by rw [← dfB_fit hok f1]; exact f2))
  · show fairF X.vz (plansV X.vz) ≤ _
    rcases g3 with g3 | ⟨p, hp, g3⟩
    · rw [g3]; exact h1
    · obtain ⟨hpl, hpm⟩ := lists_plan hok hp
      have hin : listsL p X.bs.length ∈ ftL X X.bs.length [] := by
        have := ft_all hok hp X.bs.length (Nat.le_refl _)
        rw [Nat.sub_self, List.take_zero] at this
        exact this
      have := h2 _ hin
      rw [mnE_ear hok hpl, hpm] at this
      rw [g3]; exact this
end Go.Proofs.Ytipdohpbilabiaa
/-! The reference's Fair. -/
namespace Go.Proofs.Ytipdohpbilabiaa
set_option linter.unusedSimpArgs false
set_option linter.unusedVariables false
open Go Go.RowKit

set_option maxRecDepth 100000 in
set_option maxHeartbeats 2000000 in
theorem RFair_bad (ab ast ae ak : Option Addr) (cb cs ce ck : Nat) (X : Sw) (w : World) (hX : Swp w ab ast ae ak X) (hv : vB X = false) : Calls Try.prog 32 #[.agg #[.slice ab X.bs.length cb, .slice ast X.st.length cs, .slice ae X.er.length ce, .slice ak X.ks.length ck, .int .i64 X.ch]] w fun e w' => e = .returned (.tuple #[.int .i64 0, .int .i64 70]) ∧ Below w.heap.size w w' := by
  obtain ⟨W, hW, hb, _, x0⟩ := boxes1 w #[.slice ab X.bs.length cb, .slice ast X.st.length cs, .slice ae X.er.length ce, .slice ak X.ks.length ck, .int .i64 X.ch] 26
  have hck := fun V (h : Below w.heap.size w V) => Check_any ab ast ae ak cb cs ce ck X V (hX.below h (Nat.le_refl _))
  rw [hv, show cod false = 70 from rfl] at hck
  clear hX hv
  have c0 := x0.cell 0 rfl; have c1 := x0.cell 1 rfl; have c2 := x0.cell 2 rfl; have c3 := x0.cell 3 rfl; have c4 := x0.cell 4 rfl
  go_enter Try.func32, Try.ntmps32
  go_wp2_with fail
  refine (hck _ hb).mono ?_
  rintro e W1 ⟨rfl, hb1⟩
  replace hb := hb.trans (hb1.mono hb.size)
  clear hW c0 c1 c2 c3 c4 hb1 hck x0
  go_wp2
  go_ret2
  exact ⟨rfl, hb⟩
set_option maxRecDepth 100000 in
set_option maxHeartbeats 2000000 in
theorem RFair_zero (ab ast ae ak : Option Addr) (cb cs ce ck : Nat) (X : Sw) (w : World) (hX : Swp w ab ast ae ak X) (hv : vB X = true) (h0 : X.bs.length = 0) : Calls Try.prog 32 #[.agg #[.slice ab X.bs.length cb, .slice ast X.st.length cs, .slice ae X.er.length ce, .slice ak X.ks.length ck, .int .i64 X.ch]] w fun e w' => e = .returned (.tuple #[.int .i64 0, .int .i64 3]) ∧ Below w.heap.size w w' := by
  obtain ⟨W, hW, hb, _, x0⟩ := boxes1 w #[.slice ab X.bs.length cb, .slice ast X.st.length cs, .slice ae X.er.length ce, .slice ak X.ks.length ck, .int .i64 X.ch] 26
  have hck := fun V (h : Below w.heap.size w V) => Check_any ab ast ae ak cb cs ce ck X V (hX.below h (Nat.le_refl _))
  rw [hv, show cod true = 0 from rfl] at hck
  clear hX hv
  obtain ⟨nB, hnB⟩ : ∃ nB, nB = X.bs.length := ⟨_, rfl⟩
  rw [← hnB] at x0 hW hck h0 ⊢
  clear hnB
  subst h0
  have c0 := x0.cell 0 rfl; have c1 := x0.cell 1 rfl; have c2 := x0.cell 2 rfl; have c3 := x0.cell 3 rfl; have c4 := x0.cell 4 rfl
  go_enter Try.func32, Try.ntmps32
  go_wp2_with fail
  refine (hck _ hb).mono ?_
  rintro e W1 ⟨rfl, hb1⟩
  replace hb := hb.trans (hb1.mono hb.size)
  replace x0 := x0.below hb1
  clear hW c0 c1 c2 c3 c4 hb1 hck
  have c0 := x0.cell 0 rfl; have c1 := x0.cell 1 rfl; have c2 := x0.cell 2 rfl; have c3 := x0.cell 3 rfl; have c4 := x0.cell 4 rfl
  go_wp2
  go_ret2
  exact ⟨rfl, hb⟩
set_option maxRecDepth 100000 in
set_option maxHeartbeats 2000000 in
theorem Fair_zero (ab ast ae ak : Option Addr) (cb cs ce ck : Nat) (X : Sw) (w : World) (hX : Swp w ab ast ae ak X) (hv : vB X = true) (h0 : X.bs.length = 0) : Calls Try.prog 31 #[.agg #[.slice ab X.bs.length cb, .slice ast X.st.length cs, .slice ae X.er.length ce, .slice ak X.ks.length ck, .int .i64 X.ch]] w fun e w' => e = .returned (.tuple #[.int .i64 0, .int .i64 3]) ∧ Below w.heap.size w w' := by
  obtain ⟨p, hp⟩ : ∃ p, p = planM X.bs := ⟨_, rfl⟩
  obtain ⟨q, hq⟩ : ∃ q, q = stayF X.ks := ⟨_, rfl⟩
  obtain ⟨W, hW, hbw, _, x0⟩ := boxes1 w #[.slice ab X.bs.length cb, .slice ast X.st.length cs, .slice ae X.er.length ce, .slice ak X.ks.length ck, .int .i64 X.ch] 26
  have hvo := visitOf_ok ab ast ae ak cb cs ce ck X W (hX.below hbw (Nat.le_refl _)) hv p q hp hq
  obtain ⟨nB, hnB⟩ : ∃ nB, nB = X.bs.length := ⟨_, rfl⟩
  clear hX hp hq
  rw [← hnB] at x0 hW hvo h0 ⊢
  clear hnB
  subst h0
  have c0 := x0.cell 0 rfl; have c1 := x0.cell 1 rfl; have c2 := x0.cell 2 rfl; have c3 := x0.cell 3 rfl; have c4 := x0.cell 4 rfl
  go_enter Try.func31, Try.ntmps31
  go_wp2_with fail
  refine hvo.mono ?_
  rintro e W1 ⟨rfl, hb1⟩
  replace hbw := hbw.trans (hb1.mono hbw.size)
  obtain ⟨W2, hW2, hb2, _, x4⟩ := boxes1 W1 #[.slice ab 0 cb, .slice ast X.st.length cs, .slice ae X.er.length ce, .slice ak X.ks.length ck, .int .i64 X.ch, .int .u8 (p.a : Int), .int .u8 (p.b : Int), .int .u8 (p.c : Int), .int .u8 (q.a : Int), .int .u8 (q.b : Int), .int .u8 (q.c : Int)] 72
  replace hbw := hbw.trans (hb2.mono hbw.size)
  replace x0 := (x0.below hb1).below hb2
  clear hW c0 c1 c2 c3 c4 hvo
  have c0 := x0.cell 0 rfl; have c1 := x0.cell 1 rfl; have c2 := x0.cell 2 rfl; have c3 := x0.cell 3 rfl; have c4 := x0.cell 4 rfl
  go_wp2
  go_ret2
  exact ⟨rfl, hbw⟩

set_option maxRecDepth 100000 in
set_option maxHeartbeats 4000000 in
theorem RFair_ok (ab ast ae ak : Option Addr) (cb cs ce ck : Nat) (X : Sw) (w : World) (hX : Swp w ab ast ae ak X) (hv : vB X = true) (h1 : 1 ≤ X.bs.length) : Calls Try.prog 32 #[.agg #[.slice ab X.bs.length cb, .slice ast X.st.length cs, .slice ae X.er.length ce, .slice ak X.ks.length ck, .int .i64 X.ch]] w fun e w' => e = .returned (.tuple #[.int .i64 (fairV X.vz), .int .i64 0]) ∧ Below w.heap.size w w' := by
  have hok := vB_iff hv
  obtain ⟨W, hW, hb, _, x0⟩ := boxes1 w #[.slice ab X.bs.length cb, .slice ast X.st.length cs, .slice ae X.er.length ce, .slice ak X.ks.length ck, .int .i64 X.ch] 26
  have hck := fun V (h : Below w.heap.size w V) => Check_any ab ast ae ak cb cs ce ck X V (hX.below h (Nat.le_refl _))
  rw [hv, show cod true = 0 from rfl] at hck
  have hft := fun V (h : Below w.heap.size w V) => fitting_all ab ast ae ak cb cs ce ck X hok V (hX.below h (Nat.le_refl _))
  have HRES := hid (fair_eq hok)
  have HE : ∀ (V : World) (P : List (List Int)) (k : Nat) (al : Option Addr) (cl : Nat), P ∈ ftL X X.bs.length [] → k < X.bs.length → Below w.heap.size w V → Ints V al (P.getD k []) → Calls Try.prog 59 #[.agg #[.slice ab X.bs.length cb, .slice ast X.st.length cs, .slice ae X.er.length ce, .slice ak X.ks.length ck, .int .i64 X.ch], .int .i64 (k : Int), .slice al (P.getD k []).length cl] V fun e w' => e = .returned (.int .i64 (eiF X k (P.getD k []))) ∧ Below V.heap.size V w' := fun V P k al cl hP hk hV hI => by
    obtain ⟨hpl, _⟩ := ft_pl hok P hP
    have hm : P.getD k [] ∈ P := by rw [List.getD_eq_getElem?_getD, List.getElem?_eq_getElem (by rw [(plB_parts hpl).1]; exact hk)]; exact List.getElem_mem _
    exact EarnsIn_any ab ast ae ak cb cs ce ck X hok k hk al cl _ ((plB_title hok hpl).2 _ hm) (plB_six hok hpl _ hm) V (hX.below hV (Nat.le_refl _)) hI
  have HPL : Hid (∀ P ∈ ftL X X.bs.length [], P.length = X.bs.length) := hid fun P hP => (plB_parts (ft_pl hok P hP).1).1
  generalize fairV X.vz = be at *
  have hfl := ftL_small hok
  have hnb3 := hok.nb3
  generalize ftL X X.bs.length [] = FF at *
  clear hX hv hok
  obtain ⟨nF, hnF⟩ : ∃ nF, nF = FF.length := ⟨_, rfl⟩
  unfold FtP at hft
  rw [← hnF] at hfl hft
  have HNF := hid hnF
  clear hnF
  obtain ⟨nB, hnB⟩ : ∃ nB, nB = X.bs.length := ⟨_, rfl⟩
  rw [← hnB] at x0 hW hck hft HRES HE HPL h1 hnb3 ⊢
  have HEH := hid HE
  clear hnB HE
  have hnI : ((nB : Int) == 0) = false := by rw [Bool.eq_false_iff]; intro h; have := eq_of_beq h; omega
  have hn0 : ¬ (nB : Int) = 0 := by omega
  have c0 := x0.cell 0 rfl; have c1 := x0.cell 1 rfl; have c2 := x0.cell 2 rfl; have c3 := x0.cell 3 rfl; have c4 := x0.cell 4 rfl
  go_enter Try.func32, Try.ntmps32
  go_wp2_with fail
  refine (hck _ hb).mono ?_
  rintro e W1 ⟨rfl, hb1⟩
  replace hb := hb.trans (hb1.mono hb.size)
  replace x0 := x0.below hb1
  clear hW c0 c1 c2 c3 c4 hb1 hck
  have c0 := x0.cell 0 rfl; have c1 := x0.cell 1 rfl; have c2 := x0.cell 2 rfl; have c3 := x0.cell 3 rfl; have c4 := x0.cell 4 rfl
  go_wp2_with fail
  refine (hft _ hb).mono ?_
  rintro e W2 ⟨hb1, aF, cF, rfl, hR⟩
  replace hb := hb.trans (hb1.mono hb.size)
  replace x0 := x0.below hb1
  clear c0 c1 c2 c3 c4 hb1 hft
  go_wp2
  go_loopw [6, 7] (fun v6 v7 wr => ∃ i : Nat, i ≤ nF ∧ v7 = .int .i64 (i : Int) ∧ v6 = .int .i64 (mxF (fun P => mnE X P nB) (FF.take i)) ∧ Below W2.heap.size W2 wr) (fun _ v7 _ => nF - (intOf v7).toNat)
  case atStart => exact ⟨0, Nat.zero_le _, rfl, rfl, Below.refl _ _⟩
  case round =>
    obtain ⟨i, hi, rfl, rfl, hb1⟩ := hrel
    by_cases hlt : i < nF
    · have hbr := hb.trans (hb1.mono hb.size)
      have hR1 := hR.below hb1 (Nat.le_refl _)
      replace x0 := x0.below hb1
      obtain ⟨b, off, s, a', c', hap, hbl, hc, hI, hmem, _, htk⟩ := hR1.at (k := i) (by rw [← HNF.out]; exact hlt)
      subst hap
      have hsl := HPL.out s hmem
      have HSL := hid hsl
      rw [hsl] at hc
      obtain ⟨b2, off2, L, a2, c2, hap2, hbl2, hc2, hI2, _, hgl⟩ := hI.at (k := 0) (by omega)
      subst hap2
      have hgd : s.getD 0 [] = L := by rw [List.getD_eq_getElem?_getD, hgl.out]; rfl
      have hiI : (i : Int) < nF := by omega
      have hi0 : (0 : Int) ≤ (i : Int) := by omega
      have hB0 : (0 : Int) < nB := by omega
      have hBN : 0 < nB := h1
      have hei := fun (t : Ext wr) => HEH.out t.w s 0 a2 c2 hmem (by omega) (hbr.trans (t.below.mono hbr.size)) (by rw [hgd]; exact (hI2.below t.below (Nat.le_refl _)).1)
      have HS := hid (mxF_take (fun P => mnE X P nB) htk.out)
      have HS1 := hid (mnE_one X s)
      rw [hgd] at hei HS1
      obtain ⟨m, hm⟩ : ∃ m, m = L.length := ⟨_, rfl⟩
      rw [← hm] at hc2 hei
      obtain ⟨y, hy⟩ : ∃ y, y = eiF X 0 L := ⟨_, rfl⟩
      rw [← hy] at hei HS1
      obtain ⟨sj, hsj⟩ : ∃ sj, sj = mxF (fun P => mnE X P nB) (FF.take i) := ⟨_, rfl⟩
      rw [← hsj] at HS ⊢
      have d0 := x0.ext 0 rfl; have d1 := x0.ext 1 rfl; have d2 := x0.ext 2 rfl; have d3 := x0.ext 3 rfl; have d4 := x0.ext 4 rfl; 
      have f1 := fun t => Ext.cell hc t
      have f2 := fun t => Ext.cell hc2 t
      rw [Nat.add_zero] at f2
      replace hei := fun (t : Ext wr) => hei t
      clear hR1 hbl hbl2 htk hgl hgd hm hy hsj hI2 hsl
      go_upto_region 10 with fail
      refine wp_region_ext_lit (by kernel_rfl) (by kernel_rfl) ?_
      repeat (quiet_step (first | (go_at_call 59; exact quiet_ext (hei _))))
      refine wpQuiet_nil ?_
      intro _ hw'
      obtain ⟨t, rfl⟩ := hw'
      obtain ⟨wo, hwo⟩ : ∃ wo : World, wo = t.w := ⟨_, rfl⟩
      have hb14 := hb1.trans (t.below.mono hb1.size)
      have hbo := hb.trans (hb14.mono hb.size)
      have xo := x0.below t.below
      have hco := Ext.cell hc t
      have hIo := hI.below t.below (Nat.le_refl _)
      rw [← hwo] at hb14 hbo xo hco hIo ⊢
      clear hwo hei f1 f2 d0 d1 d2 d3 d4 hc hc2 hI x0 hb1
      go_wp2
      go_loopw [8, 9] (fun v8 v9 wr => ∃ k : Nat, 1 ≤ k ∧ k ≤ nB ∧ v9 = .int .i64 (k : Int) ∧ v8 = .int .i64 (mnE X s k) ∧ Below wo.heap.size wo wr) (fun _ v9 _ => nB - (intOf v9).toNat)
      case atStart => exact ⟨1, Nat.le_refl _, h1, rfl, by rw [HS1.out], Below.refl _ _⟩
      case round =>
        obtain ⟨k, hk1, hk, rfl, rfl, hb1⟩ := hrel
        have hbq := hbo.trans (hb1.mono hbo.size)
        have xq := xo.below hb1
        by_cases hlk : k < nB
        · have hkI : (k : Int) < nB := by omega
          have hk0 : (0 : Int) ≤ (k : Int) := by omega
          have hIq := hIo.below hb1 (Nat.le_refl _)
          obtain ⟨b3, off3, L3, a3, c3', hap3, hbl3, hc3, hI3, _, hgl3⟩ := hIq.at (k := k) (by rw [HSL.out]; exact hlk)
          simp only [Option.some.injEq, Addr.mk.injEq, and_true] at hap3
          obtain ⟨rfl, rfl⟩ := hap3
          have hgd : s.getD k [] = L3 := by rw [List.getD_eq_getElem?_getD, hgl3.out]; rfl
          have hei := fun (t : Ext wr) => HEH.out t.w s k a3 c3' hmem hlk (hbq.trans (t.below.mono hbq.size)) (by rw [hgd]; exact (hI3.below t.below (Nat.le_refl _)).1)
          have HS3 := hid (mnE_succ X s hk1)
          rw [hgd] at hei HS3
          obtain ⟨m3, hm⟩ : ∃ m, m = L3.length := ⟨_, rfl⟩
          rw [← hm] at hc3 hei
          obtain ⟨y3, hy⟩ : ∃ y, y = eiF X k L3 := ⟨_, rfl⟩
          rw [← hy] at hei HS3
          obtain ⟨z3, hz⟩ : ∃ z, z = mnE X s k := ⟨_, rfl⟩
          rw [← hz] at HS3 ⊢
          have hcq : wr.cell? ⟨b, off + i, none⟩ = some (.slice (some ⟨b2, off2, none⟩) nB c') := (hb1.cell (p := ⟨b, off + i, none⟩) (cell_lt hco)).trans hco
          have c0 := xq.cell 0 rfl; have c1 := xq.cell 1 rfl; have c2 := xq.cell 2 rfl; have c3 := xq.cell 3 rfl; have c4 := xq.cell 4 rfl
          have d0 := xq.ext 0 rfl; have d1 := xq.ext 1 rfl; have d2 := xq.ext 2 rfl; have d3 := xq.ext 3 rfl; have d4 := xq.ext 4 rfl; 
          have f1 := fun t => Ext.cell hcq t
          have f2 := fun t => Ext.cell hc3 t
          clear hIq hbl3 hgl3 hgd hm hy hz hI3 hcq
          go_upto_region 14 with fail
          refine wp_region_ext_lit (by kernel_rfl) (by kernel_rfl) ?_
          repeat (quiet_step (first | (go_at_call 59; exact quiet_ext (hei _))))
          refine wpQuiet_nil ?_
          intro _ hw'
          obtain ⟨t, rfl⟩ := hw'
          have hb15 := hb1.trans (t.below.mono hb1.size)
          go_wp2
          go_roundw
          case rel => exact ⟨k + 1, by omega, by omega, by simp, by rw [HS3.out, Int.min_def]; congr 1; split <;> split <;> omega, hb15⟩
          case measure => simp [intOf]; omega
        · obtain rfl : k = nB := by omega
          have hkI : ¬ (k : Int) < k := by omega
          have hb15 := hb14.trans (hb1.mono hb14.size)
          obtain ⟨z3, hz⟩ : ∃ z, z = mnE X s k := ⟨_, rfl⟩
          rw [← hz] at HS ⊢
          have c0 := xq.cell 0 rfl; have c1 := xq.cell 1 rfl; have c2 := xq.cell 2 rfl; have c3 := xq.cell 3 rfl; have c4 := xq.cell 4 rfl
          clear hz
          go_wp2
          go_roundw
          case rel => exact ⟨i + 1, by omega, by simp, by rw [HS.out, Int.max_def]; congr 1; split <;> split <;> omega, hb15⟩
          case measure => simp [intOf]; omega
    · obtain rfl : i = nF := by omega
      have hfin := hid (show mxF (fun P => mnE X P nB) (FF.take i) = be by rw [List.take_of_length_le (by rw [← HNF.out]; omega)]; exact HRES.out)
      generalize mxF (fun P => mnE X P nB) (FF.take i) = sj at *
      go_wp2
      go_ret2
      exact ⟨by rw [hfin.out]; rfl, hb.trans (hb1.mono hb.size)⟩
end Go.Proofs.Ytipdohpbilabiaa
