import Derived.Test.YteianfbdhakhpaaG1
import Derived.ArgAppend
/-! A head of a region where several operations that make memory can come in any order: what each makes stays true whatever the others make. -/
namespace Go.Proofs.Yteianfbdhakhpaa
open Go Go.RowKit
section
variable {P : Program} {S : World → Prop} {Q : Exit → Act → World → Prop}

/-- All orders from a state on: only operations of idx come up, and at the end the state is s1. -/
def chkRg (ops : Array Oper) (n : Nat) (idx : List Nat) (s1 : Array Bool) : Nat → Array Bool → Bool
  | 0, s => s == s1
  | f + 1, s => !(Region.ready .any ops s).isEmpty && (Region.ready .any ops s).all fun i => decide (i < n) && (idx.contains i && chkRg ops n idx s1 f (s.setIfInBounds i true))
def predB (ops : Array Oper) (j i : Nat) : Bool := match ops[i]? with
  | some o => o.after.toList.any fun e => Region.binds .any e && e.on == j
  | none => false
def updU (u : Nat → Value) (i : Nat) (v : Value) : Nat → Value := fun j => if j = i then v else u j

theorem HeadAt.rg {l : List Oper} {n f0 : Nat} {s0 : Array Bool} (idx : List Nat) (k : Nat) (A : (Nat → Value) → Act) (F : Nat → Value → World → Prop) (u0 : Nat → Value)
    (hb : (chkRg l.toArray n idx (idx.foldl (fun s i => s.setIfInBounds i true) s0) k s0 && (idx.all fun j => (idx.foldl (fun s i => s.setIfInBounds i true) s0).getD j false) && (idx.all fun j => !s0.getD j false)) = true)
    (hS : ∀ w w', S w → Below w.heap.size w w' → S w') (hF : ∀ j v w w', F j v w → Below w.heap.size w w' → F j v w')
    (hstep : ∀ i, i ∈ idx → ∀ o, l.toArray[i]? = some o → ∀ (u : Nat → Value) (w : World), S w → (∀ j, j ∈ idx → predB l.toArray j i = true → F j (u j) w) →
      wpList P l.toArray (Upto (fun a' w' => ∃ v, a' = A (updU u i v) ∧ Below w.heap.size w w' ∧ F i v w') (NoPanic Q)) [o] (A u) w)
    (hdone : ∀ (u : Nat → Value) (w : World), S w → (∀ j, j ∈ idx → F j (u j) w) → HeadAt P l Q S n f0 (idx.foldl (fun s i => s.setIfInBounds i true) s0) (A u) w)
    {w : World} (hw : S w) : HeadAt P l Q S n (f0 + k) s0 (A u0) w := by
  simp only [Bool.and_eq_true] at hb
  obtain ⟨⟨hb, hall1⟩, hall0⟩ := hb
  generalize idx.foldl (fun s i => s.setIfInBounds i true) s0 = s1 at *
  suffices h : ∀ (k : Nat) (s : Array Bool) (u : Nat → Value) (w : World), chkRg l.toArray n idx s1 k s = true → S w → (∀ j, j ∈ idx → s.getD j false = true → F j (u j) w) → HeadAt P l Q S n (f0 + k) s (A u) w from
    h k s0 u0 w hb hw (fun j hj hs => by
      have := List.all_eq_true.1 hall0 j hj
      rw [hs] at this; cases this)
  intro k
  induction k with
  | zero =>
    intro s u w hc hSw hFs
    have e : s = s1 := by simpa [chkRg] using hc
    subst e
    exact hdone u w hSw (fun j hj => hFs j hj (List.all_eq_true.1 hall1 j hj))
  | succ k ih =>
    intro s u w hc hSw hFs
    unfold chkRg at hc
    simp only [Bool.and_eq_true, Bool.not_eq_true', List.all_eq_true, decide_eq_true_eq] at hc
    obtain ⟨hne, hall⟩ := hc
    intro inv
    refine ⟨fun e => by rw [e] at hne; simp at hne, fun i hi => ?_⟩
    obtain ⟨hin, hid, hck⟩ := hall i hi
    have hid' : i ∈ idx := by simpa using hid
    obtain ⟨hun, oi, hoi, hpre⟩ := mem_ready.1 hi
    refine ⟨hin, wpOp_mono (fun a' w' h' => ?_) (wpOp_of_list hoi (hstep i hid' oi hoi u w hSw (fun j hj hp => hFs j hj ?_)))⟩
    · obtain ⟨v, rfl, hbl, hFi⟩ := h'
      have hSw' := hS _ _ hSw hbl
      refine ⟨hSw', ih _ _ _ hck hSw' (fun j hj hsj => ?_) (inv.set hi hin)⟩
      unfold updU
      by_cases e : j = i
      · rw [if_pos e, e]; exact hFi
      · rw [if_neg e]
        rw [getD_set_ne false (Ne.symm e)] at hsj
        exact hF _ _ _ _ (hFs j hj hsj) hbl
    · unfold predB at hp
      rw [hoi] at hp
      simp only [List.any_eq_true, Bool.and_eq_true, beq_iff_eq] at hp
      obtain ⟨e, he, h1, h2⟩ := hp
      rw [← h2]
      exact hpre e (by simpa using he) h1

/-- append to an empty literal. -/
theorem wpList_appLit {ops : Array Oper} {rest : List Oper} {o : Oper} {a : Act} {w : World} (hgd : o.guard = none) (s x : Operand) (t : TypeId)
    (ho : o.op = .call { callee := .builtin .append, args := #[s, x], argTypes := #[t, t] })
    (base : Nat) (e : TypeId) (i : TypeInfo) (z : Value) (size bytes : Nat) (ht : P.underlying t = some (.slice e)) (hi : P.info? e = some i) (hz : i.zero = some z)
    (hsize : i.size = size) (hby : i.bytes = bytes) (hzs : z.cells.size = size) (hsz : 0 < size)
    (g : Nat) (hs : a.eval s = .slice (some ⟨g, 0, none⟩) 0 0) (hown : w.ownsRow base e size (.slice (some ⟨g, 0, none⟩) 0 0) 0 [])
    (A : Option Addr) (m c : Nat) (news : List Value) (hx : a.eval x = .slice A m c) (hl : news.length = m * size) (hr : Cls w A news) (h1 : ∀ u ∈ news, u.oneCell' = true)
    (h63 : m ≤ maxLen) (hbytes : m * bytes ≤ 140737488355328) (hbase : base ≤ w.heap.size)
    (h : ∀ v' w', w'.ownsRow base e size v' m news → Below w.heap.size w w' → (∀ q, v'.ownBlock = some q → (m = 0 ∧ q = g) ∨ w.heap.size ≤ q) → wpList P ops Q rest (a.put o.dst v') w') : wpList P ops Q (o :: rest) a w := by
  rcases A with _ | ad
  · have hn := hr.nil
    subst hn
    have hm : m = 0 := by
      rcases Nat.eq_zero_or_pos m with h0 | h0
      · exact h0
      · have := Nat.mul_pos h0 hsz
        simp at hl; omega
    subst hm
    refine wpList_plain hgd fun K hK => ?_
    have hrun := run_app_nil (P := P) base t o.type e i size ht hi (.slice (some ⟨g, 0, none⟩) 0 0) 0 [] hown c
    unfold Oper.wp
    simp [execOp, ho, resolve, invoke, builtin, hs, hx, hrun, Result.andThen]
    exact hK _ _ (h _ w hown (Below.refl _ _) (fun q hq => .inl ⟨rfl, by simpa [Value.ownBlock] using hq.symm⟩))
  · have hc : ∀ j u, news[j]? = some u → w.cell? (ad.add j) = some u := fun j u hj => by
      obtain ⟨b, off, ha, _, hc⟩ := hr j u hj
      cases ha
      have e1 : (⟨b, off, none⟩ : Addr).add j = ⟨b, off + j, none⟩ := by unfold Addr.add; split <;> simp_all
      rw [e1]
      exact hc
    refine wpList_append_arg w hgd s x t ho e i z size bytes ht hi hz hsize hby hzs hsz g 0 0 0 [] hs (by simp) (fun j u hj => by simp at hj) ad m c news hx hl hc h1 (fun hle j hj => by
        have : m = 0 := by omega
        subst this
        simp at hl; rw [hl] at hj; simp at hj) (by omega) (by rw [Nat.zero_add]; exact hbytes) (fun hle => ?_) (fun hlt v' w' ho' hg' => ?_)
    · have hm : m = 0 := by omega
      subst hm
      have hn : news = [] := List.eq_nil_of_length_eq_zero (by simpa using hl)
      subst hn
      have e : w.setCells g (0 + 0 * size) [] = w := by simp [World.setCells]
      rw [e]
      exact h _ w hown (Below.refl _ _) (fun q hq => .inl ⟨rfl, by simpa [Value.ownBlock] using hq.symm⟩)
    · have hb : Below w.heap.size w w' := ⟨hg'.os, hg'.tape, hg'.output, hg'.size, fun k hk => hg'.block k hk (by simp)⟩
      rw [Nat.zero_add, List.nil_append] at ho'
      refine h v' w' ?_ hb (fun q hq => .inr (own_ge2 ho' q hq))
      refine ⟨ho'.1, ?_⟩
      rcases ho'.2 with h' | ⟨g', cap, cur, h2, h3, h4⟩
      · exact .inl h'
      · exact .inr ⟨g', cap, cur, h2, by omega, h4⟩
end
end Go.Proofs.Yteianfbdhakhpaa
