import Derived.StillTail
import Derived.Deep.Quiet
import Derived.Deep.QuietTactic
import Derived.Deep.RegionHeld3
import Derived.WalkKit
import Derived.WalkSpells
import Derived.WalkLawsBesides
import Derived.BigQuiet
/-! A region that draws its order: operations that are quiet in a class of worlds come first, whatever their order; a tail that waits for all of them follows, one by one. -/
namespace Go.Proofs.Yteianfbdhakhpaa
open Go
section
variable {P : Program} {ops : Array Oper} {md : Region.Mode} {C : World → Prop}

/-- Exactly f operations, all of the head, come up and are quiet; then L. -/
def headQ (P : Program) (md : Region.Mode) (ops : Array Oper) (C : World → Prop) (n : Nat) (L : Array Bool → Act → Prop) : Nat → Array Bool → Act → Prop
  | 0, s, a => L s a
  | f + 1, s, a => Region.ready md ops s ≠ [] ∧ ∀ i ∈ Region.ready md ops s, i < n ∧ qOp P ops C i (headQ P md ops C n L f (s.setIfInBounds i true)) a

theorem headQ_any {n g : Nat} {L : Array Bool → Act → Prop} {Q' : Exit → Act → World → Prop} (hL : ∀ s a w, C w → L s a → wpAny P md ops Q' g s a w) :
    ∀ (f : Nat) (s : Array Bool) (a : Act) (w : World), C w → headQ P md ops C n L f s a → wpAny P md ops Q' (f + g) s a w := by
  intro f
  induction f with
  | zero => intro s a w hC h; rw [Nat.zero_add]; exact hL s a w hC h
  | succ f ih =>
    intro s a w hC h
    rw [Nat.succ_add]
    refine ⟨fun h0 => absurd h0 h.1, fun i hi => ?_⟩
    exact wpOp_of_qOp hC (fun a' w' hw' h' => ih _ a' w' hw' h') (h.2 i hi).2

theorem headQ_first {n i : Nat} {oi : Oper} {v : Value} {L : Array Bool → Act → Prop} (hi : ops[i]? = some oi) (hsel : ∀ (j : Nat) (o : Oper) cs b, ops[j]? = some o → o.op ≠ .select cs b)
    (hs : Region.sinkB md ops n = true) (hc : Region.chainB md ops n = true) (hn : n < ops.size) (hin : i < n)
    (hdone : ∀ s a, L s a → ∀ j ∈ Region.ready md ops s, n ≤ j) :
    ∀ (f : Nat) (s : Array Bool) (a : Act), HeadInv md ops n s →
      (∀ j oj, ops[j]? = some oj → j ≠ i → s.getD j true = false → (∀ e ∈ oj.after, Region.binds md e = true → e.on ≠ i) → oi.apart ops oj = true) →
      i ∈ Region.ready md ops s → YieldsIn P ops C oi v a →
      headQ P md ops C n L f (s.setIfInBounds i true) (a.put oi.dst v) → headQ P md ops C n L (f + 1) s a := by
  intro f
  induction f with
  | zero =>
    intro s a inv _ hr hy H
    refine ⟨List.ne_nil_of_mem hr, fun j hj => ?_⟩
    have hjn : j < n := Nat.lt_of_not_le fun h => tail_waits hs hc hn inv _ i rfl hin (mem_ready.1 hr).1 j h hj
    refine ⟨hjn, ?_⟩
    by_cases e : j = i
    · rw [e]; exact hy.qOp hi H
    · exact absurd (hdone _ _ H j (ready_mono hj e)) (by omega)
  | succ f ih =>
    intro s a inv hfree hr hy H
    have hun := (mem_ready.1 hr).1
    refine ⟨List.ne_nil_of_mem hr, fun j hj => ?_⟩
    have hjn : j < n := Nat.lt_of_not_le fun h => tail_waits hs hc hn inv _ i rfl hin hun j h hj
    refine ⟨hjn, ?_⟩
    by_cases e : j = i
    · rw [e]; exact hy.qOp hi H
    · obtain ⟨hjun, oj, hoj, hall⟩ := mem_ready.1 hj
      have free : ∀ x ∈ oj.after, Region.binds md x = true → x.on ≠ i := by
        intro x hx hb hxi
        have := hall x hx hb
        rw [hxi, getD_both hun] at this
        cases this
      have h2 := qOp_put hoj (hfree j oj hoj e hjun free) (fun cs b => hsel i oi cs b hi) (fun cs b => hsel j oj cs b hoj) hy (H.2 j (ready_mono hj e)).2
      refine qOp_mono (fun a' h3 => ih (s.setIfInBounds j true) a' (inv.set hj hjn) ?_ (ready_mono hr (Ne.symm e)) h3.1 ?_) h2
      · intro k ok hk hki hkun hno
        refine hfree k ok hk hki ?_ hno
        by_cases ejk : j = k
        · rw [← ejk]; exact hjun
        · rw [getD_set_ne true ejk] at hkun; exact hkun
      · rw [Array.setIfInBounds_comm _ _ e]
        exact h3.2

theorem headQ_lex {n g : Nat} {T : Act → Prop} (hsel : Region.noSelect ops = true) (hs : Region.sinkB md ops n = true) (hc : Region.chainB md ops n = true) (hn : n < ops.size) :
    ∀ (l : List Oper) (k : Nat) (s : Array Bool) (a : Act), (∀ j, j < l.length → l[j]? = ops[k + j]?) → k + l.length = n → HeadInv md ops n s →
    Region.lexHead md ops g l.length k s = true → wpQuiet P ops C T l a →
    headQ P md ops C n (fun s' a' => Region.seqB md ops g n s' = true ∧ T a') l.length s a := by
  intro l
  induction l with
  | nil =>
    intro k s a _ hk _ hB h
    obtain rfl : k = n := by simpa using hk
    exact ⟨by simpa [Region.lexHead] using hB, h⟩
  | cons o l ih =>
    intro k s a hl hk inv hB h
    have h0 : ops[k]? = some o := by simpa using (hl 0 (by simp)).symm
    simp only [List.length_cons] at hk
    simp only [List.length_cons, Region.lexHead, Bool.and_eq_true] at hB
    have hr : k ∈ Region.ready md ops s := by simpa using hB.1.1
    have hq : qOp P ops C k (wpQuiet P ops C T l) a := by unfold qOp; simp only [h0]; exact h
    obtain ⟨v, hy, hK⟩ := yieldsIn_of_qOp h0 hq
    refine headQ_first h0 (Region.noSelect_spec hsel) hs hc hn (by omega) (fun s' a' hL => seqB_ready hL.1) l.length s a inv (Region.free_spec h0 hB.1.2) hr hy ?_
    refine ih (k + 1) _ _ (fun j hj => ?_) (by omega) (inv.set hr (by omega)) hB.2 hK
    have := hl (j + 1) (by simp; omega)
    simpa [Nat.add_assoc, Nat.add_comm 1 j] using this

/-- The law: a head of n operations that are quiet in the class C, a tail in its one order. -/
theorem wp_region_quiet_tail {id : Nat} {Q : Exit → Act → World → Prop} {a : Act} {w : World} {l : List Oper} (n : Nat) (hm : P.follows .mixedOrders = true) (hB : Region.lexTailB .any l.toArray n = true) (hC : C w.drew)
    (h : wpQuiet P l.toArray C (fun a' => ∀ w', C w' → wpList P l.toArray Q (l.drop n) a' w') (l.take n) a) : (Code.region id l.toArray true).wp P Q a w := by
  simp only [Region.lexTailB, Bool.and_eq_true, decide_eq_true_eq] at hB
  obtain ⟨⟨⟨⟨hsel, hn⟩, hs⟩, hc⟩, hlex⟩ := hB
  have hn' : n < l.length := by simpa using hn
  have htl : (l.take n).length = n := by rw [List.length_take]; omega
  have hdl : (l.drop n).length = l.toArray.size - n := by simp
  have inv0 : HeadInv .any l.toArray n (Array.replicate l.toArray.size false) := by
    refine ⟨by simp, fun j oj _ hl => ?_, fun t _ ht => getD_in (by simpa using ht) (getD_replicate_false _ _)⟩
    rw [getD_replicate_false] at hl; cases hl
  have H := headQ_lex (md := .any) (C := C) (g := l.toArray.size - n) hsel hs hc hn (l.take n) 0 _ a
    (fun j hj => by have : j < n := by omega
                    simp [this]) (by omega) inv0 (by rw [htl]; exact hlex) h
  refine wp_region_any hm ?_
  have := headQ_any (Q' := Q) (g := l.toArray.size - n) (fun s a' w' hw' hL => by
    have := wpAny_of_seq (md := .any) (Q' := Q) (l.drop n) n s a' w' (fun j => by simp [List.getElem?_drop]) (by rw [hdl]; exact hL.1) (hL.2 w' hw')
    rwa [hdl] at this) _ _ _ _ hC H
  rw [htl, show n + (l.toArray.size - n) = l.toArray.size by omega] at this
  exact this
end
end Go.Proofs.Yteianfbdhakhpaa
/-! A region that draws its order, with operations in its head that change the world but keep a condition S on it; a tail that waits for all of the head follows, one by one. -/
namespace Go.Proofs.Yteianfbdhakhpaa
open Go
section
variable {P : Program} {ops : Array Oper} {md : Region.Mode} {S : World → Prop} {Q : Exit → Act → World → Prop}

/-- Exactly f operations, all of the head, come up; behind each S holds; then L. -/
def headH (P : Program) (md : Region.Mode) (ops : Array Oper) (Q : Exit → Act → World → Prop) (S : World → Prop) (n : Nat) (L : Array Bool → Act → World → Prop) : Nat → Array Bool → Act → World → Prop
  | 0, s, a, w => L s a w
  | f + 1, s, a, w => Region.ready md ops s ≠ [] ∧ ∀ i ∈ Region.ready md ops s, i < n ∧ wpOp P ops Q i (fun a' w' => S w' ∧ headH P md ops Q S n L f (s.setIfInBounds i true) a' w') a w

theorem headH_any {n g : Nat} {L : Array Bool → Act → World → Prop} (hL : ∀ s a w, L s a w → wpAny P md ops Q g s a w) :
    ∀ (f : Nat) (s : Array Bool) (a : Act) (w : World), headH P md ops Q S n L f s a w → wpAny P md ops Q (f + g) s a w := by
  intro f
  induction f with
  | zero => intro s a w h; rw [Nat.zero_add]; exact hL s a w h
  | succ f ih =>
    intro s a w h
    rw [Nat.succ_add]
    exact ⟨fun h0 => absurd h0 h.1, fun i hi => wpOp_mono (fun a' w' h' => ih _ a' w' h'.2) (h.2 i hi).2⟩

theorem headH_first {n i : Nat} {oi : Oper} {v : Value} {L : Array Bool → Act → World → Prop} (hi : ops[i]? = some oi) (hsel : ∀ (j : Nat) (o : Oper) cs b, ops[j]? = some o → o.op ≠ .select cs b)
    (hs : Region.sinkB md ops n = true) (hc : Region.chainB md ops n = true) (hn : n < ops.size) (hin : i < n)
    (hQ : ∀ c a w, Q (.panic c) (a.put oi.dst v) w → Q (.panic c) a w)
    (hdone : ∀ s a w, L s a w → ∀ j ∈ Region.ready md ops s, n ≤ j) :
    ∀ (f : Nat) (s : Array Bool) (a : Act) (w : World), HeadInv md ops n s →
      (∀ j oj, ops[j]? = some oj → j ≠ i → s.getD j true = false → (∀ e ∈ oj.after, Region.binds md e = true → e.on ≠ i) → oi.apart ops oj = true) →
      i ∈ Region.ready md ops s → YieldsIf P ops S oi v a → S w →
      headH P md ops Q S n L f (s.setIfInBounds i true) (a.put oi.dst v) w → headH P md ops Q S n L (f + 1) s a w := by
  intro f
  induction f with
  | zero =>
    intro s a w inv _ hr hy hS H
    refine ⟨List.ne_nil_of_mem hr, fun j hj => ?_⟩
    have hjn : j < n := Nat.lt_of_not_le fun h => tail_waits hs hc hn inv _ i rfl hin (mem_ready.1 hr).1 j h hj
    refine ⟨hjn, ?_⟩
    by_cases e : j = i
    · rw [e]; exact hy.wpOp hi hS ⟨hS, H⟩
    · exact absurd (hdone _ _ _ H j (ready_mono hj e)) (by omega)
  | succ f ih =>
    intro s a w inv hfree hr hy hS H
    have hun := (mem_ready.1 hr).1
    refine ⟨List.ne_nil_of_mem hr, fun j hj => ?_⟩
    have hjn : j < n := Nat.lt_of_not_le fun h => tail_waits hs hc hn inv _ i rfl hin hun j h hj
    refine ⟨hjn, ?_⟩
    by_cases e : j = i
    · rw [e]; exact hy.wpOp hi hS ⟨hS, H⟩
    · obtain ⟨hjun, oj, hoj, hall⟩ := mem_ready.1 hj
      have free : ∀ x ∈ oj.after, Region.binds md x = true → x.on ≠ i := by
        intro x hx hb hxi
        have := hall x hx hb
        rw [hxi, getD_both hun] at this
        cases this
      have h2 := wpOp_putIf hoj (hfree j oj hoj e hjun free) (fun cs b => hsel i oi cs b hi) (fun cs b => hsel j oj cs b hoj) hQ hy (H.2 j (ready_mono hj e)).2
      refine wpOp_mono (fun a' w' h3 => ⟨h3.2.1, ih (s.setIfInBounds j true) a' w' (inv.set hj hjn) ?_ (ready_mono hr (Ne.symm e)) h3.1 h3.2.1 ?_⟩) h2
      · intro k ok hk hki hkun hno
        refine hfree k ok hk hki ?_ hno
        by_cases ejk : j = k
        · rw [← ejk]; exact hjun
        · rw [getD_set_ne true ejk] at hkun; exact hkun
      · rw [Array.setIfInBounds_comm _ _ e]
        exact h3.2.2

/-- What the tail asks. -/
def tailL (P : Program) (md : Region.Mode) (l : List Oper) (Q : Exit → Act → World → Prop) (n : Nat) (s : Array Bool) (a : Act) (w : World) : Prop :=
  Region.seqB md l.toArray (l.length - n) n s = true ∧ wpList P l.toArray Q (l.drop n) a w

/-- The walk of a head that stands at a state. -/
def HeadAt (P : Program) (l : List Oper) (Q : Exit → Act → World → Prop) (S : World → Prop) (n f : Nat) (s : Array Bool) (a : Act) (w : World) : Prop :=
  HeadInv .any l.toArray n s → headH P .any l.toArray (NoPanic Q) S n (tailL P .any l (NoPanic Q) n) f s a w

/-- A read may be taken first. -/
theorem HeadAt.take {l : List Oper} {n f i : Nat} {s : Array Bool} {a : Act} {w : World} {oi : Oper} (v : Value) (hi : l.toArray[i]? = some oi)
    (hb : (Region.noSelect l.toArray && (Region.sinkB .any l.toArray n && (Region.chainB .any l.toArray n && (decide (n < l.toArray.size) && (decide (i < n) && (Region.free .any l.toArray s i && (Region.ready .any l.toArray s).contains i)))))) = true)
    (hy : YieldsIf P l.toArray S oi v a) (hS : S w) (h : HeadAt P l Q S n f (s.setIfInBounds i true) (a.put oi.dst v) w) : HeadAt P l Q S n (f + 1) s a w := fun inv => by
  simp only [Bool.and_eq_true, decide_eq_true_eq] at hb
  obtain ⟨h1, h2, h3, h4, h5, h6, h7⟩ := hb
  have hr : i ∈ Region.ready .any l.toArray s := by simpa using h7
  exact headH_first hi (Region.noSelect_spec h1) h2 h3 h4 h5 (fun c a w hh => hh) (fun s a w hL => seqB_ready hL.1) f s a w inv (Region.free_spec hi h6) hr hy hS (h (inv.set hr h5))

/-- The only one that can come up. -/
theorem HeadAt.only {l : List Oper} {n f i : Nat} {s : Array Bool} {a : Act} {w : World} (hb : (decide (i < n) && decide (Region.ready .any l.toArray s = [i])) = true)
    (h : wpOp P l.toArray (NoPanic Q) i (fun a' w' => S w' ∧ HeadAt P l Q S n f (s.setIfInBounds i true) a' w') a w) : HeadAt P l Q S n (f + 1) s a w := fun inv => by
  simp only [Bool.and_eq_true, decide_eq_true_eq] at hb
  obtain ⟨h5, hr⟩ := hb
  refine ⟨by rw [hr]; simp, fun j hj => ?_⟩
  have hj' := hj
  rw [hr] at hj'
  obtain rfl : j = i := by simpa using hj'
  exact ⟨h5, wpOp_mono (fun a' w' h' => ⟨h'.1, h'.2 (inv.set hj h5)⟩) h⟩

/-- K at the normal end, Q elsewhere. -/
def Upto (K : Act → World → Prop) (Q : Exit → Act → World → Prop) : Exit → Act → World → Prop
  | .normal, a, w => K a w
  | e, a, w => Q e a w
theorem Upto.letsOut {K : Act → World → Prop} (h : LetsOut (Upto K Q)) : LetsOut Q := h
theorem wpOp_of_list {o : Oper} {i : Nat} {K : Act → World → Prop} {a : Act} {w : World} (hi : ops[i]? = some o) (h : wpList P ops (Upto K Q) [o] a w) : wpOp P ops Q i K a w := by
  unfold wpOp
  simp only [hi]
  unfold wpList at h
  split
  · rename_i hw
    simp only [hw, if_true] at h
    rcases h with h | ⟨h1, h2⟩
    · refine .inl ?_
      unfold Oper.wp at *
      generalize (execOp a.eval o).run P w = r at *
      cases r with
      | ok n w' => cases n <;> exact h
      | halt x w' => cases x <;> exact h
    · exact .inr ⟨h1, h2⟩
  · rename_i hw
    simp only [hw] at h
    exact h
theorem HeadAt.one {l : List Oper} {n f i : Nat} {s : Array Bool} {a : Act} {w : World} {o : Oper} (hi : l.toArray[i]? = some o) (hb : (decide (i < n) && decide (Region.ready .any l.toArray s = [i])) = true)
    (h : wpList P l.toArray (Upto (fun a' w' => S w' ∧ HeadAt P l Q S n f (s.setIfInBounds i true) a' w') (NoPanic Q)) [o] a w) : HeadAt P l Q S n (f + 1) s a w :=
  HeadAt.only hb (wpOp_of_list hi h)

theorem HeadAt.done {l : List Oper} {n : Nat} {s : Array Bool} {a : Act} {w : World} (hb : Region.seqB .any l.toArray (l.length - n) n s = true) (h : wpList P l.toArray (NoPanic Q) (l.drop n) a w) : HeadAt P l Q S n 0 s a w := fun _ => ⟨hb, h⟩

theorem wp_region_head {id : Nat} {a : Act} {w : World} {l : List Oper} (n : Nat) (S : World → Prop) (hm : P.follows .mixedOrders = true) (hn : decide (n < l.length) = true)
    (h : HeadAt P l Q S n n (Array.replicate l.length false) a w.drew) : (Code.region id l.toArray true).wp P Q a w := by
  simp only [decide_eq_true_eq] at hn
  have inv0 : HeadInv .any l.toArray n (Array.replicate l.length false) := by
    refine ⟨by simp, fun j oj _ hl => ?_, fun t _ ht => getD_in (by simpa using ht) (getD_replicate_false _ _)⟩
    rw [getD_replicate_false] at hl; cases hl
  refine wp_region_noPanic (wp_region_any hm ?_)
  have := headH_any (g := l.length - n) (fun s a w (hL : tailL P .any l (NoPanic Q) n s a w) => by
    have := wpAny_of_seq (md := .any) (Q' := NoPanic Q) (l.drop n) n s a w (fun j => by simp [List.getElem?_drop]) (by rw [List.length_drop]; exact hL.1) hL.2
    rwa [List.length_drop] at this) _ _ _ _ (h inv0)
  rw [show n + (l.length - n) = l.length by omega] at this
  simpa using this
end
end Go.Proofs.Yteianfbdhakhpaa
/-! A head of a region where one of two operations that change the world can come next. -/
namespace Go.Proofs.Yteianfbdhakhpaa
open Go
section
variable {P : Program} {S : World → Prop} {Q : Exit → Act → World → Prop}
theorem HeadAt.two {l : List Oper} {n f i j : Nat} {s : Array Bool} {a : Act} {w : World} {oi oj : Oper} (hi : l.toArray[i]? = some oi) (hj : l.toArray[j]? = some oj)
    (hb : (decide (i < n) && (decide (j < n) && decide (Region.ready .any l.toArray s = [i, j]))) = true)
    (h1 : wpList P l.toArray (Upto (fun a' w' => S w' ∧ HeadAt P l Q S n f (s.setIfInBounds i true) a' w') (NoPanic Q)) [oi] a w)
    (h2 : wpList P l.toArray (Upto (fun a' w' => S w' ∧ HeadAt P l Q S n f (s.setIfInBounds j true) a' w') (NoPanic Q)) [oj] a w) : HeadAt P l Q S n (f + 1) s a w := fun inv => by
  simp only [Bool.and_eq_true, decide_eq_true_eq] at hb
  obtain ⟨h5, h6, hr⟩ := hb
  refine ⟨by rw [hr]; simp, fun k hk => ?_⟩
  have hk' := hk
  rw [hr] at hk'
  simp only [List.mem_cons, List.not_mem_nil, or_false] at hk'
  rcases hk' with rfl | rfl
  · exact ⟨h5, wpOp_mono (fun a' w' h' => ⟨h'.1, h'.2 (inv.set hk h5)⟩) (wpOp_of_list hi h1)⟩
  · exact ⟨h6, wpOp_mono (fun a' w' h' => ⟨h'.1, h'.2 (inv.set hk h6)⟩) (wpOp_of_list hj h2)⟩
end
end Go.Proofs.Yteianfbdhakhpaa
/-! Words for walks over any program: slices of ints that are read, worlds after draws, worlds that agree with an older one. -/
namespace Go.Proofs.Yteianfbdhakhpaa
open Go.RowKit

theorem ret_int {k : IntKind} {a b : Int} (h : a = b) : Ending.returned (.int k a) = .returned (.int k b) := by rw [h]
theorem ret_bool {a b : Bool} (h : a = b) : Ending.returned (.bool a) = .returned (.bool b) := by rw [h]
theorem hid {p : Prop} (h : p) : Hid p := h

/-- Slice value 'v' reads as the integers 'xs' in the world 'w'. -/
def Ints (w : World) (a : Option Addr) (xs : List Int) : Prop :=
  xs.length ≤ 9223372036854775807 ∧ (∀ x ∈ xs, -9223372036854775808 ≤ x ∧ x ≤ 9223372036854775807) ∧
    (∀ i, i < xs.length → ∃ b off, a = some ⟨b, off, none⟩ ∧ b < w.heap.size ∧ w.cell? ⟨b, off + i, none⟩ = some (.int .i64 (xs.getD i 0)))

theorem Ints.at {w : World} {a : Option Addr} {xs : List Int} (h : Ints w a xs) {k : Nat} (hk : k < xs.length) :
    ∃ b off x, a = some ⟨b, off, none⟩ ∧ b < w.heap.size ∧ w.cell? ⟨b, off + k, none⟩ = some (.int .i64 x) ∧ -9223372036854775808 ≤ x ∧ x ≤ 9223372036854775807 ∧
      Hid (xs[k]? = some x) ∧ Hid (xs.drop k = x :: xs.drop (k + 1)) := by
  obtain ⟨_, h2, h3⟩ := h
  obtain ⟨b, off, ha, hb, hc⟩ := h3 k hk
  have hm := h2 xs[k] (List.getElem_mem hk)
  refine ⟨b, off, xs[k], ha, hb, by rw [hc]; simp [List.getD, hk], hm.1, hm.2, ?_, ?_⟩
  · show xs[k]? = some xs[k]; simp [hk]
  · show xs.drop k = _; simp

theorem Ints.len {w : World} {a : Option Addr} {xs : List Int} (h : Ints w a xs) : xs.length ≤ 9223372036854775807 := h.1

theorem drop_end {xs : List Int} {k : Nat} (hk : k ≤ xs.length) (h : ¬ k < xs.length) : xs.drop k = [] := by
  rw [List.drop_eq_nil_iff]; omega

theorem Ints.below {w w' : World} {a : Option Addr} {xs : List Int} (h : Ints w a xs) {B : Nat} (hb : Below B w w') (hB : w.heap.size ≤ B) : Ints w' a xs := by
  obtain ⟨h1, h2, h3⟩ := h
  refine ⟨h1, h2, fun i hi => ?_⟩
  obtain ⟨b, off, ha, hbs, hc⟩ := h3 i hi
  have hs := hb.size
  exact ⟨b, off, ha, by omega, by rw [hb.cell (p := ⟨b, off + i, none⟩) (by show b < B; omega)]; exact hc⟩

theorem Ints.alloc {w : World} {a : Option Addr} {xs : List Int} (h : Ints w a xs) (o : Obj) : Ints (w.alloc o) a xs :=
  h.below ((Below.refl w.heap.size w).alloc (Nat.le_refl _) o) (Nat.le_refl _)

theorem Ints.drew {w : World} {a : Option Addr} {xs : List Int} (h : Ints w a xs) : Ints w.drew a xs :=
  h.below (Below.refl w.heap.size w).drew (Nat.le_refl _)

/-- The world after some draws. -/
def Qd (w w' : World) : Prop := ∃ n, w' = w.drewN n
theorem Qd.refl (w : World) : Qd w w := ⟨0, rfl⟩
theorem Qd.of_eq {w w' : World} (h : w = w') : Qd w w' := ⟨0, h ▸ rfl⟩
theorem Qd.trans {a b c : World} (h : Qd a b) (k : Qd b c) : Qd a c := by
  obtain ⟨n, rfl⟩ := h; obtain ⟨m, rfl⟩ := k; exact ⟨n + m, by rw [World.drewN_drewN]⟩
theorem Qd.drewN {a b : World} (h : Qd a b) (n : Nat) : Qd a (b.drewN n) := h.trans ⟨n, rfl⟩
theorem Qd.below {a b : World} (h : Qd a b) (B : Nat) : Below B a b := by
  obtain ⟨n, rfl⟩ := h; exact below_drewN (Below.refl B a) n
theorem Ints.qd {w w' : World} {a : Option Addr} {xs : List Int} (h : Ints w a xs) (q : Qd w w') : Ints w' a xs := h.below (q.below w.heap.size) (Nat.le_refl _)
theorem quiet_qd {P : Program} {f : FuncId} {args : Array Value} {w : World} {n : Nat} {v : Value}
    (h : Calls P f args (w.drewN n) fun e w' => e = .returned v ∧ Qd (w.drewN n) w') : Calls P f args (w.drewN n) fun e w'' => e = .returned v ∧ ∃ m, w'' = w.drewN m :=
  Calls.quiet_of (h.mono fun _ _ ⟨he, hm⟩ => ⟨he, hm⟩)
theorem quiet_eq {P : Program} {f : FuncId} {args : Array Value} {w : World} {n : Nat} {v : Value}
    (h : Calls P f args (w.drewN n) fun e w' => e = .returned v ∧ w.drewN n = w') : Calls P f args (w.drewN n) fun e w'' => e = .returned v ∧ ∃ m, w'' = w.drewN m :=
  Calls.quiet_of_same (h.mono fun _ _ ⟨he, hm⟩ => ⟨he, hm.symm⟩)

/-- The worlds that agree with w on all that is there. -/
def Ext (w : World) : Type := { w' : World // Below w.heap.size w w' }
instance extOne (w : World) : Nonempty (Ext w) := ⟨⟨w, Below.refl _ _⟩⟩
def Ext.w {w : World} (t : Ext w) : World := t.val
theorem Ext.below {w : World} (t : Ext w) : Below w.heap.size w t.w := t.2
theorem cell_lt {w : World} {a : Addr} {v : Value} (h : w.cell? a = some v) : a.block < w.heap.size := by
  unfold World.cell? at h
  by_cases hb : a.block < w.heap.size
  · exact hb
  · rw [Array.getElem?_eq_none (by omega)] at h
    simp at h
theorem Ext.cell {w : World} {a : Addr} {v : Value} (h : w.cell? a = some v) (t : Ext w) : t.w.cell? a = some v :=
  (t.below.cell (p := a) (cell_lt h)).trans h
theorem wp_region_ext_lit {P : Program} {id : Nat} {Q : Exit → Act → World → Prop} {a : Act} {w : World} {l : List Oper} (hm : P.follows .mixedOrders = true) (hB : Region.lexB .any l.toArray = true)
    (h : wpQuiet P l.toArray (fun w' => ∃ t : Ext w, w' = t.w) (fun a' => ∀ w', (∃ t : Ext w, w' = t.w) → Q .normal a' w') l a) : (Code.region id l.toArray true).wp P Q a w :=
  wp_region_quiet (C := fun w' => ∃ t : Ext w, w' = t.w) hm hB ⟨⟨w.drew, (Below.refl w.heap.size w).drew⟩, rfl⟩ (by simpa using h)
theorem quiet_ext {P : Program} {f : FuncId} {args : Array Value} {w : World} {t : Ext w} {v : Value}
    (h : Calls P f args t.w fun e w' => e = .returned v ∧ Below t.w.heap.size t.w w') : Calls P f args t.w fun e w'' => e = .returned v ∧ ∃ t' : Ext w, w'' = t'.w :=
  h.mono fun _ w'' ⟨he, hb⟩ => ⟨he, ⟨w'', t.below.trans (hb.mono t.below.size)⟩, rfl⟩
theorem Below.of_eq {B : Nat} {w w' : World} (h : w = w') : Below B w w' := h ▸ Below.refl B w

/-- A fact about what is there stays in a world that agrees. -/
theorem Below.keep {W W' : World} (hb : Below W.heap.size W W') {a : Addr} {v : Value} (h : W.cell? a = some v) : W'.cell? a = some v :=
  (hb.cell (p := a) (cell_lt h)).trans h

/-- Block b is these cells, none frozen. -/
def Bx (W : World) (b : Nat) (vs : Array Value) (T : TypeId) : Prop := W.heap[b]? = some (.cells vs T (0, 0))
theorem Bx.lt {W : World} {b : Nat} {vs : Array Value} {T : TypeId} (h : Bx W b vs T) : b < W.heap.size := by
  rcases Nat.lt_or_ge b W.heap.size with h' | h'
  · exact h'
  · unfold Bx at h; rw [Array.getElem?_eq_none h'] at h; cases h
theorem Bx.cell {W : World} {b : Nat} {vs : Array Value} {T : TypeId} (h : Bx W b vs T) (i : Nat) {v : Value} (hi : vs[i]? = some v) : W.cell? ⟨b, i, none⟩ = some v := by
  unfold Bx at h; simp [World.cell?, h, hi]
theorem Bx.free {W : World} {b : Nat} {vs : Array Value} {T : TypeId} (h : Bx W b vs T) (i : Nat) : W.frozen? ⟨b, i, none⟩ = false := by
  unfold Bx at h; simp [World.frozen?, h]
theorem Bx.below {W W' : World} {b : Nat} {vs : Array Value} {T : TypeId} (h : Bx W b vs T) (hb : Below W.heap.size W W') : Bx W' b vs T := by
  unfold Bx at *; rw [hb.block b (Bx.lt h)]; exact h
theorem Bx.new (W : World) (vs : Array Value) (T : TypeId) : Bx (W.alloc (.cells vs T)) W.heap.size vs T := by
  unfold Bx; show (W.heap.push _)[_]? = _; simp
theorem Bx.alloc {W : World} {b : Nat} {vs : Array Value} {T : TypeId} (h : Bx W b vs T) (o : Obj) : Bx (W.alloc o) b vs T :=
  h.below (Below.alloc (Below.refl _ _) (Nat.le_refl _) o)
theorem Bx.drew {W : World} {b : Nat} {vs : Array Value} {T : TypeId} (h : Bx W b vs T) : Bx W.drew b vs T := h
theorem Bx.drewN {W : World} {b : Nat} {vs : Array Value} {T : TypeId} (h : Bx W b vs T) (n : Nat) : Bx (W.drewN n) b vs T := h
theorem Bx.set {W : World} {b : Nat} {vs : Array Value} {T : TypeId} (h : Bx W b vs T) (i : Nat) (v : Value) : Bx (W.setCell ⟨b, i, none⟩ v) b (vs.setIfInBounds i v) T := by
  unfold Bx at *; simp [World.setCell, Array.getElem?_modify, h]
theorem Bx.other {W : World} {b : Nat} {vs : Array Value} {T : TypeId} (h : Bx W b vs T) {a : Addr} (hne : b ≠ a.block) (v : Value) : Bx (W.setCell a v) b vs T := by
  unfold Bx at *; rw [Below.heap_setCell _ _ _ _ hne]; exact h
theorem Bx.ext {W : World} {b : Nat} {vs : Array Value} {T : TypeId} (h : Bx W b vs T) (i : Nat) {v : Value} (hi : vs[i]? = some v) : ∀ t : Ext W, t.w.cell? ⟨b, i, none⟩ = some v := Ext.cell (h.cell i hi)
/-- A store into a block that is not old. -/
theorem Below.store {B : Nat} {a W : World} (h : Below B a W) {p : Addr} (hp : B ≤ p.block) (u : Value) : Below B a (W.setCell p u) := h.setCell hp u


theorem boxes1 (w : World) (v0 : Array Value) (T0 : TypeId) : ∃ W, w.alloc (.cells v0 T0) = W ∧ Below w.heap.size w W ∧ W.heap.size = w.heap.size + 1 ∧ Bx W (w.heap.size) v0 T0 :=
  ⟨_, rfl, Below.alloc (Below.refl w.heap.size w) (by simp; try omega) _, by simp, (show Bx _ (w.heap.size) _ _ from (by simpa using Bx.new w v0 T0))⟩

theorem boxes2 (w : World) (v0 : Array Value) (T0 : TypeId) (v1 : Array Value) (T1 : TypeId) : ∃ W, (w.alloc (.cells v0 T0)).alloc (.cells v1 T1) = W ∧ Below w.heap.size w W ∧ W.heap.size = w.heap.size + 1 + 1 ∧ Bx W (w.heap.size) v0 T0 ∧ Bx W (w.heap.size + 1) v1 T1 :=
  ⟨_, rfl, Below.alloc (Below.alloc (Below.refl w.heap.size w) (by simp; try omega) _) (by simp; try omega) _, by simp, ((show Bx _ (w.heap.size) _ _ from (by simpa using Bx.new w v0 T0)).alloc _), (show Bx _ (w.heap.size + 1) _ _ from (by simpa using Bx.new (w.alloc (.cells v0 T0)) v1 T1))⟩

theorem boxes3 (w : World) (v0 : Array Value) (T0 : TypeId) (v1 : Array Value) (T1 : TypeId) (v2 : Array Value) (T2 : TypeId) : ∃ W, ((w.alloc (.cells v0 T0)).alloc (.cells v1 T1)).alloc (.cells v2 T2) = W ∧ Below w.heap.size w W ∧ W.heap.size = w.heap.size + 1 + 1 + 1 ∧ Bx W (w.heap.size) v0 T0 ∧ Bx W (w.heap.size + 1) v1 T1 ∧ Bx W (w.heap.size + 1 + 1) v2 T2 :=
  ⟨_, rfl, Below.alloc (Below.alloc (Below.alloc (Below.refl w.heap.size w) (by simp; try omega) _) (by simp; try omega) _) (by simp; try omega) _, by simp, (((show Bx _ (w.heap.size) _ _ from (by simpa using Bx.new w v0 T0)).alloc _).alloc _), ((show Bx _ (w.heap.size + 1) _ _ from (by simpa using Bx.new (w.alloc (.cells v0 T0)) v1 T1)).alloc _), (show Bx _ (w.heap.size + 1 + 1) _ _ from (by simpa using Bx.new ((w.alloc (.cells v0 T0)).alloc (.cells v1 T1)) v2 T2))⟩

theorem boxes4 (w : World) (v0 : Array Value) (T0 : TypeId) (v1 : Array Value) (T1 : TypeId) (v2 : Array Value) (T2 : TypeId) (v3 : Array Value) (T3 : TypeId) : ∃ W, (((w.alloc (.cells v0 T0)).alloc (.cells v1 T1)).alloc (.cells v2 T2)).alloc (.cells v3 T3) = W ∧ Below w.heap.size w W ∧ W.heap.size = w.heap.size + 1 + 1 + 1 + 1 ∧ Bx W (w.heap.size) v0 T0 ∧ Bx W (w.heap.size + 1) v1 T1 ∧ Bx W (w.heap.size + 1 + 1) v2 T2 ∧ Bx W (w.heap.size + 1 + 1 + 1) v3 T3 :=
  ⟨_, rfl, Below.alloc (Below.alloc (Below.alloc (Below.alloc (Below.refl w.heap.size w) (by simp; try omega) _) (by simp; try omega) _) (by simp; try omega) _) (by simp; try omega) _, by simp, ((((show Bx _ (w.heap.size) _ _ from (by simpa using Bx.new w v0 T0)).alloc _).alloc _).alloc _), (((show Bx _ (w.heap.size + 1) _ _ from (by simpa using Bx.new (w.alloc (.cells v0 T0)) v1 T1)).alloc _).alloc _), ((show Bx _ (w.heap.size + 1 + 1) _ _ from (by simpa using Bx.new ((w.alloc (.cells v0 T0)).alloc (.cells v1 T1)) v2 T2)).alloc _), (show Bx _ (w.heap.size + 1 + 1 + 1) _ _ from (by simpa using Bx.new (((w.alloc (.cells v0 T0)).alloc (.cells v1 T1)).alloc (.cells v2 T2)) v3 T3))⟩

theorem boxes5 (w : World) (v0 : Array Value) (T0 : TypeId) (v1 : Array Value) (T1 : TypeId) (v2 : Array Value) (T2 : TypeId) (v3 : Array Value) (T3 : TypeId) (v4 : Array Value) (T4 : TypeId) : ∃ W, ((((w.alloc (.cells v0 T0)).alloc (.cells v1 T1)).alloc (.cells v2 T2)).alloc (.cells v3 T3)).alloc (.cells v4 T4) = W ∧ Below w.heap.size w W ∧ W.heap.size = w.heap.size + 1 + 1 + 1 + 1 + 1 ∧ Bx W (w.heap.size) v0 T0 ∧ Bx W (w.heap.size + 1) v1 T1 ∧ Bx W (w.heap.size + 1 + 1) v2 T2 ∧ Bx W (w.heap.size + 1 + 1 + 1) v3 T3 ∧ Bx W (w.heap.size + 1 + 1 + 1 + 1) v4 T4 :=
  ⟨_, rfl, Below.alloc (Below.alloc (Below.alloc (Below.alloc (Below.alloc (Below.refl w.heap.size w) (by simp; try omega) _) (by simp; try omega) _) (by simp; try omega) _) (by simp; try omega) _) (by simp; try omega) _, by simp, (((((show Bx _ (w.heap.size) _ _ from (by simpa using Bx.new w v0 T0)).alloc _).alloc _).alloc _).alloc _), ((((show Bx _ (w.heap.size + 1) _ _ from (by simpa using Bx.new (w.alloc (.cells v0 T0)) v1 T1)).alloc _).alloc _).alloc _), (((show Bx _ (w.heap.size + 1 + 1) _ _ from (by simpa using Bx.new ((w.alloc (.cells v0 T0)).alloc (.cells v1 T1)) v2 T2)).alloc _).alloc _), ((show Bx _ (w.heap.size + 1 + 1 + 1) _ _ from (by simpa using Bx.new (((w.alloc (.cells v0 T0)).alloc (.cells v1 T1)).alloc (.cells v2 T2)) v3 T3)).alloc _), (show Bx _ (w.heap.size + 1 + 1 + 1 + 1) _ _ from (by simpa using Bx.new ((((w.alloc (.cells v0 T0)).alloc (.cells v1 T1)).alloc (.cells v2 T2)).alloc (.cells v3 T3)) v4 T4))⟩

/-- A region that draws its order, whose operations keep what is there. -/
theorem wp_region_ext_tail {P : Program} {id : Nat} {Q : Exit → Act → World → Prop} {a : Act} {w : World} {l : List Oper} (n : Nat) (hm : P.follows .mixedOrders = true) (hB : Region.lexTailB .any l.toArray n = true)
    (h : wpQuiet P l.toArray (fun w' => ∃ t : Ext w, w' = t.w) (fun a' => ∀ w', (∃ t : Ext w, w' = t.w) → wpList P l.toArray Q (l.drop n) a' w') (l.take n) a) : (Code.region id l.toArray true).wp P Q a w :=
  wp_region_quiet_tail (C := fun w' => ∃ t : Ext w, w' = t.w) n hm hB ⟨⟨w.drew, (Below.refl w.heap.size w).drew⟩, rfl⟩ h

/-! A row of ints that the call made itself. -/
def vrow (xs : List Int) : Array Value := (xs.map (Value.int .i64)).toArray
theorem vrow_at {xs : List Int} {k : Nat} {x : Int} (h : xs[k]? = some x) : (vrow xs)[k]? = some (.int .i64 x) := by simp [vrow, h]
theorem vrow_set (xs : List Int) (k : Nat) (x : Int) : (vrow xs).setIfInBounds k (.int .i64 x) = vrow (xs.set k x) := by
  simp [vrow, List.map_set]
theorem Bx.of_own {w : World} {base : Nat} {e : TypeId} {g n : Nat} {xs : List Value} (h : w.ownsRow base e 1 (.slice (some ⟨g, 0, none⟩) n n) n xs) : Bx w g xs.toArray e := by
  rcases h.2 with ⟨h', _⟩ | ⟨g', cap', cur, h', _, hg, _, _, hs, ht⟩
  · simp at h'
  · simp only [Value.slice.injEq, Option.some.injEq, Addr.mk.injEq, and_true, true_and] at h'
    obtain ⟨rfl, rfl⟩ := h'
    have : cur.toList = xs := by rw [← ht, List.take_of_length_le (by simp [hs])]
    unfold Bx
    rw [hg, ← this]
theorem Ints.of_bx {w : World} {g : Nat} {xs : List Int} {T : TypeId} (h : Bx w g (vrow xs) T) (h1 : xs.length ≤ 9223372036854775807) (h2 : ∀ x ∈ xs, -9223372036854775808 ≤ x ∧ x ≤ 9223372036854775807) : Ints w (some ⟨g, 0, none⟩) xs :=
  ⟨h1, h2, fun i hi => ⟨g, 0, rfl, h.lt, by
    have := h.cell i (vrow_at (xs := xs) (k := i) (x := xs.getD i 0) (by simp [List.getD, hi]))
    simpa using this⟩⟩

end Go.Proofs.Yteianfbdhakhpaa
namespace Go.Proofs.Yteianfbdhakhpaa
open Go.RowKit

theorem made_ints (n : Nat) : (madeCells (Value.int .i64 0).cells (n * 1)).toList.toArray = vrow (List.replicate n 0) := by
  unfold vrow
  congr 1
  have e : ∀ x : Nat, (Value.int .i64 0).cells[x % (Value.int .i64 0).cells.size]! = .int .i64 0 := fun x => by
    have : x % (Value.int .i64 0).cells.size = 0 := Nat.mod_one x
    rw [this]; rfl
  simp only [madeCells, Nat.mul_one]
  simp only [e]
  simp [List.map_const']

/-- The slice does not lie in block b. -/
def Off (b : Nat) (a : Option Addr) (n : Nat) : Prop := 0 < n → ∀ x, a = some x → x.block ≠ b
theorem Off.of_old {w : World} {a : Option Addr} {xs : List Int} (h : Ints w a xs) {b : Nat} (hb : w.heap.size ≤ b) : Off b a xs.length := fun hn x hx => by
  obtain ⟨b', off, ha, hlt, _⟩ := h.2.2 0 hn
  rw [ha] at hx; cases hx
  show b' ≠ b; omega
theorem Off.of_new {a : Option Addr} {n b B : Nat} (h : ∀ x, a = some x → B ≤ x.block) (hb : b < B) : Off b a n := fun _ x hx => by have := h x hx; omega
theorem Ints.set {w : World} {a : Option Addr} {xs : List Int} (h : Ints w a xs) {b : Nat} (ho : Off b a xs.length) (i : Nat) (v : Value) : Ints (w.setCell ⟨b, i, none⟩ v) a xs := by
  obtain ⟨h1, h2, h3⟩ := h
  refine ⟨h1, h2, fun j hj => ?_⟩
  obtain ⟨b', off, ha, hlt, hc⟩ := h3 j hj
  have hne : b' ≠ b := ho (by omega) _ ha
  refine ⟨b', off, ha, by simpa [World.setCell] using hlt, ?_⟩
  rw [← hc]
  exact World.cell?_of_block (w := w) (Below.heap_setCell _ _ _ _ hne)

end Go.Proofs.Yteianfbdhakhpaa
namespace Go.Proofs.Yteianfbdhakhpaa
open Go.RowKit

theorem Ext.free {w : World} {a : Addr} {v : Value} (h : w.cell? a = some v) (hf : w.frozen? a = false) (t : Ext w) : t.w.frozen? a = false :=
  (t.below.frozen (p := a) (cell_lt h)).trans hf
theorem Bx.new' {W : World} {n : Nat} (h : W.heap.size = n) (vs : Array Value) (T : TypeId) : Bx (W.alloc (.cells vs T)) n vs T := h ▸ Bx.new W vs T
theorem Bx.set2 {W : World} {b : Nat} {T : TypeId} {a0 a1 : Value} (h : Bx W b #[a0, a1] T) (v0 v1 : Value) : Bx ((W.setCell ⟨b, 0, none⟩ v0).setCell ⟨b, 1, none⟩ v1) b #[v0, v1] T := by
  simpa using ((h.set 0 v0).set 1 v1)
theorem Bx.put2_0 {W : World} {b : Nat} {T : TypeId} {a0 a1 : Value} (h : Bx W b #[a0, a1] T) (v : Value) : Bx (W.setCell ⟨b, 0, none⟩ v) b #[v, a1] T := by
  simpa using h.set 0 v
theorem Bx.put2_1 {W : World} {b : Nat} {T : TypeId} {a0 a1 : Value} (h : Bx W b #[a0, a1] T) (v : Value) : Bx (W.setCell ⟨b, 1, none⟩ v) b #[a0, v] T := by
  simpa using h.set 1 v
theorem Bx.set3 {W : World} {b : Nat} {T : TypeId} {a0 a1 a2 : Value} (h : Bx W b #[a0, a1, a2] T) (v0 v1 v2 : Value) : Bx (((W.setCell ⟨b, 0, none⟩ v0).setCell ⟨b, 1, none⟩ v1).setCell ⟨b, 2, none⟩ v2) b #[v0, v1, v2] T := by
  simpa using (((h.set 0 v0).set 1 v1).set 2 v2)
theorem Bx.set4 {W : World} {b : Nat} {T : TypeId} {a0 a1 a2 a3 : Value} (h : Bx W b #[a0, a1, a2, a3] T) (v0 v1 v2 v3 : Value) : Bx ((((W.setCell ⟨b, 0, none⟩ v0).setCell ⟨b, 1, none⟩ v1).setCell ⟨b, 2, none⟩ v2).setCell ⟨b, 3, none⟩ v3) b #[v0, v1, v2, v3] T := by
  simpa using ((((h.set 0 v0).set 1 v1).set 2 v2).set 3 v3)
theorem Bx.put4_0 {W : World} {b : Nat} {T : TypeId} {a0 a1 a2 a3 : Value} (h : Bx W b #[a0, a1, a2, a3] T) (v : Value) : Bx (W.setCell ⟨b, 0, none⟩ v) b #[v, a1, a2, a3] T := by
  simpa using h.set 0 v
theorem Bx.put4_1 {W : World} {b : Nat} {T : TypeId} {a0 a1 a2 a3 : Value} (h : Bx W b #[a0, a1, a2, a3] T) (v : Value) : Bx (W.setCell ⟨b, 1, none⟩ v) b #[a0, v, a2, a3] T := by
  simpa using h.set 1 v
theorem Bx.put4_2 {W : World} {b : Nat} {T : TypeId} {a0 a1 a2 a3 : Value} (h : Bx W b #[a0, a1, a2, a3] T) (v : Value) : Bx (W.setCell ⟨b, 2, none⟩ v) b #[a0, a1, v, a3] T := by
  simpa using h.set 2 v
theorem Bx.put4_3 {W : World} {b : Nat} {T : TypeId} {a0 a1 a2 a3 : Value} (h : Bx W b #[a0, a1, a2, a3] T) (v : Value) : Bx (W.setCell ⟨b, 3, none⟩ v) b #[a0, a1, a2, v] T := by
  simpa using h.set 3 v
theorem Bx.set6 {W : World} {b : Nat} {T : TypeId} {a0 a1 a2 a3 a4 a5 : Value} (h : Bx W b #[a0, a1, a2, a3, a4, a5] T) (v0 v1 v2 v3 v4 v5 : Value) : Bx ((((((W.setCell ⟨b, 0, none⟩ v0).setCell ⟨b, 1, none⟩ v1).setCell ⟨b, 2, none⟩ v2).setCell ⟨b, 3, none⟩ v3).setCell ⟨b, 4, none⟩ v4).setCell ⟨b, 5, none⟩ v5) b #[v0, v1, v2, v3, v4, v5] T := by
  simpa using ((((((h.set 0 v0).set 1 v1).set 2 v2).set 3 v3).set 4 v4).set 5 v5)
theorem Bx.put6_0 {W : World} {b : Nat} {T : TypeId} {a0 a1 a2 a3 a4 a5 : Value} (h : Bx W b #[a0, a1, a2, a3, a4, a5] T) (v : Value) : Bx (W.setCell ⟨b, 0, none⟩ v) b #[v, a1, a2, a3, a4, a5] T := by
  simpa using h.set 0 v
theorem Bx.put6_1 {W : World} {b : Nat} {T : TypeId} {a0 a1 a2 a3 a4 a5 : Value} (h : Bx W b #[a0, a1, a2, a3, a4, a5] T) (v : Value) : Bx (W.setCell ⟨b, 1, none⟩ v) b #[a0, v, a2, a3, a4, a5] T := by
  simpa using h.set 1 v
theorem Bx.put6_2 {W : World} {b : Nat} {T : TypeId} {a0 a1 a2 a3 a4 a5 : Value} (h : Bx W b #[a0, a1, a2, a3, a4, a5] T) (v : Value) : Bx (W.setCell ⟨b, 2, none⟩ v) b #[a0, a1, v, a3, a4, a5] T := by
  simpa using h.set 2 v
theorem Bx.put6_3 {W : World} {b : Nat} {T : TypeId} {a0 a1 a2 a3 a4 a5 : Value} (h : Bx W b #[a0, a1, a2, a3, a4, a5] T) (v : Value) : Bx (W.setCell ⟨b, 3, none⟩ v) b #[a0, a1, a2, v, a4, a5] T := by
  simpa using h.set 3 v
theorem Bx.put6_4 {W : World} {b : Nat} {T : TypeId} {a0 a1 a2 a3 a4 a5 : Value} (h : Bx W b #[a0, a1, a2, a3, a4, a5] T) (v : Value) : Bx (W.setCell ⟨b, 4, none⟩ v) b #[a0, a1, a2, a3, v, a5] T := by
  simpa using h.set 4 v
theorem Bx.put6_5 {W : World} {b : Nat} {T : TypeId} {a0 a1 a2 a3 a4 a5 : Value} (h : Bx W b #[a0, a1, a2, a3, a4, a5] T) (v : Value) : Bx (W.setCell ⟨b, 5, none⟩ v) b #[a0, a1, a2, a3, a4, v] T := by
  simpa using h.set 5 v

end Go.Proofs.Yteianfbdhakhpaa
