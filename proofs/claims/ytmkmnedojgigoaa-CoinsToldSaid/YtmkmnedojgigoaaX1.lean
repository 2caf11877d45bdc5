import Derived.Test.YtmkmnedojgigoaaV1
import Derived.Maps.OwnOps
import Derived.Maps.OwnSet
import Derived.DeepKeys4
import Derived.Laws.EntriesVeiled
import Derived.Test.YtmkmnedojgigoaaC4
namespace Go.Proofs.Ytmkmnedojgigoaa
open Go.RowKit

/-- A look-up in the call's own map of bools, without 'ok'. -/
theorem wpList_lookup_own_bool {H : Type} {P : Program} (w : World) {ops : Array Oper} {rest : List Oper} {o : Oper} {a : Act} {Q : Exit → Act → World → Prop}
    (hg : o.guard = none) (m x : Operand) (t : TypeId) (hop : o.op = Op.lookup t m x false)
    (k e : TypeId) (K : Go.Maps.Keyed P k) (ht : P.underlying t = some (.map k e)) (he : P.underlying e = some .bool) (hz : (zeroValue e).run P w = .ok (.bool false) w) (b n : Nat) (D : DataW H)
    (hm : a.eval m = .map (some b)) (hown : w.ownsMap P k (plainElem P e) b n D) (key : Value) (kl : Lit) (hx : a.eval x = key) (hkey : keyOf P k key = some kl)
    (hK : ∀ c : Bool, D.atKey kl (.lit (.bool false)) = .lit (.bool c) → wpList P ops Q rest (a.put o.dst (.bool c)) w) :
    wpList P ops Q (o :: rest) a w := by
  refine wpList_plain hg fun K' hK' => ?_
  obtain ⟨v, ps, hrun, hv⟩ := hown.lookup K ht hz (plainElem_bool he false) hkey
  have hc : ∃ c, v = .bool c ∧ D.atKey kl (.lit (.bool false)) = .lit (.bool c) := by
    unfold plainElem at hv
    rw [he] at hv
    cases v <;> simp at hv
    exact ⟨_, rfl, hv.1.symm⟩
  obtain ⟨c, rfl, hat⟩ := hc
  unfold Oper.wp
  simp [execOp, hop, hm, hx, hrun, Result.andThen]
  exact hK' _ _ (hK c hat)

theorem law91 : Go.Maps.Keyed Try.prog 91 :=
  Go.Maps.Keyed.of_law (deep_law_laid laidOut (m := 4) (by omega) (of_decide_eq_true (by kernel_rfl)) (by kernel_rfl) (by kernel_rfl))
theorem zero4 (w : World) : (zeroValue 4).run Try.prog w = .ok (.bool false) w := by kernel_rfl
theorem cells91 : Try.prog.cellsOf 91 = 4 := by kernel_rfl
theorem kt91 : Try.prog.keyType 91 = true := by kernel_rfl
theorem key91 (x0 x1 x2 x3 : Nat) (h0 : x0 ≤ 1000000) (h1 : x1 ≤ 1000000) (h2 : x2 ≤ 1000000) (h3 : x3 ≤ 1000000) :
    ∃ l, keyOf Try.prog 91 (.agg #[.int .i64 x0, .int .i64 x1, .int .i64 x2, .int .i64 x3]) = some l := by
  have w0 := wf64 (x := (x0 : Int)) (by omega)
  have w1 := wf64 (x := (x1 : Int)) (by omega)
  have w2 := wf64 (x := (x2 : Int)) (by omega)
  have w3 := wf64 (x := (x3 : Int)) (by omega)
  unfold keyOf
  simp only [Try.underlying91, kt91, tsize]
  refine ⟨.string (keyBytes [.int .i64 x0, .int .i64 x1, .int .i64 x2, .int .i64 x3]), ?_⟩
  rw [if_pos (by simp [Value.formed, Try.underlying91, cells91])]
  have e : Try.prog.keyLits (177 + 1) 91 (Value.agg #[.int .i64 x0, .int .i64 x1, .int .i64 x2, .int .i64 x3]).cells.toList = some [.int .i64 x0, .int .i64 x1, .int .i64 x2, .int .i64 x3] := by
    have k91 : ∀ n : Nat, Try.prog.keyLits (n + 2) 91 [.int .i64 x0, .int .i64 x1, .int .i64 x2, .int .i64 x3] = some [.int .i64 x0, .int .i64 x1, .int .i64 x2, .int .i64 x3] := by
      intro n
      simp [Program.keyLits, Try.underlying91, Try.underlying3, cells91, cells3, List.range_succ, w0, w1, w2, w3]
    exact k91 176
  rw [e]
  rfl
theorem bgEq {q q' : Bg} (h : (Value.agg #[.int .i64 q.a, .int .i64 q.b, .int .i64 q.c, .int .i64 q.d]) = .agg #[.int .i64 q'.a, .int .i64 q'.b, .int .i64 q'.c, .int .i64 q'.d]) : q = q' := by
  cases q; cases q'
  simp at h
  simp; omega
theorem under142 : Try.prog.underlying 142 = some (.map 91 4) := by kernel_rfl

/-- The plays that coins give, as an array of four. -/
def kB (L : List (Int × Int)) : Bg := ⟨(L.getD 0 (0, 0)).2.toNat, (L.getD 1 (0, 0)).2.toNat, (L.getD 2 (0, 0)).2.toNat, (L.getD 3 (0, 0)).2.toNat⟩
theorem kB_snoc : ∀ (L : List (Int × Int)) (x : Int) (g : Nat), L.length < 4 → kB (L ++ [(x, (g : Int))]) = (kB L).set L.length g
  | [], x, g, _ => by simp [kB, Bg.set]
  | [a], x, g, _ => by simp [kB, Bg.set]
  | [a, b], x, g, _ => by simp [kB, Bg.set]
  | [a, b, c], x, g, _ => by simp [kB, Bg.set]
  | a :: b :: c :: d :: L, x, g, h => by simp at h; omega
/-- The plays that tell a place. -/
def plB (R : Nat) (N C : List Int) (ks : List Int) (p : Nat) : Bg := kB (whatS R N C p ks)
/-- Each place gives something else. -/
def TellsB (R : Nat) (N C : List Int) (ks : List Int) : Prop := ∀ p q, p < R → q < R → plB R N C ks p = plB R N C ks q → p = q
def OwnB (w : World) (mb k : Nat) (D : DataW Unit) : Prop := w.ownsMap Try.prog 91 (plainElem Try.prog 4) mb k D
/-- The map has just the plays of the first places, which are all different. -/
def MapB (R : Nat) (N C : List Int) (ks : List Int) (i : Nat) (D : DataW Unit) : Prop :=
  Go.Maps.IsMap D ∧ (∀ p, p < i → ∀ l, keyOf Try.prog 91 (.agg (plB R N C ks p).vs) = some l → D.atKey l (.lit (.bool false)) = .lit (.bool true)) ∧
    ∀ p q, p < i → q < i → plB R N C ks p = plB R N C ks q → p = q
theorem MapB.next {R : Nat} {N C ks : List Int} {i : Nat} {D : DataW Unit} (h : MapB R N C ks i D) {l : Lit} (hl : keyOf Try.prog 91 (.agg (plB R N C ks i).vs) = some l) (hn : D.atKey l (.lit (.bool false)) = .lit (.bool false)) :
    MapB R N C ks (i + 1) (D.put l (.lit (.bool true))) := by
  obtain ⟨h1, h2, h3⟩ := h
  have hne : ∀ p, p < i → plB R N C ks p ≠ plB R N C ks i := fun p hp e => by
    have := h2 p hp l (by rw [e]; exact hl)
    rw [hn] at this
    simp at this
  refine ⟨?_, fun p hp l' hl' => ?_, fun p q hp hq e => ?_⟩
  · obtain ⟨es, rfl⟩ := h1
    exact ⟨_, rfl⟩
  · by_cases e : p = i
    · subst e
      have e2 : l' = l := by rw [hl] at hl'; cases hl'; rfl
      subst e2
      exact Go.Maps.atKey_put_same h1 (law91.key hl) _ _
    · have e2 : l' ≠ l := fun e2 => by
        subst e2
        exact hne p (by omega) (bgEq (law91.inj hl' hl))
      rw [Go.Maps.atKey_put_other e2]
      exact h2 p (by omega) l' hl'
  · by_cases e1 : p = i
    · by_cases e2 : q = i
      · omega
      · subst e1; exact absurd e.symm (hne q (by omega))
    · by_cases e2 : q = i
      · subst e2; exact absurd e (hne p (by omega))
      · exact h3 p q (by omega) (by omega) e
theorem kB_le {R : Nat} {N C : List Int} (hv : Vw R N C) (ks : List Int) (p : Nat) (hk : ks.all (isKindB C) = true) (_hp : p < R) : (plB R N C ks p).a ≤ 2400 ∧ (plB R N C ks p).b ≤ 2400 ∧ (plB R N C ks p).c ≤ 2400 ∧ (plB R N C ks p).d ≤ 2400 := by
  have h := List.all_eq_true.1 (seen_what (N := N) hv ks p hk)
  have hx : ∀ i, ((whatS R N C p ks).getD i (0, 0)).2.toNat ≤ 2400 := fun i => by
    rcases Nat.lt_or_ge i (whatS R N C p ks).length with hi | hi
    · have := h _ (List.getElem_mem hi)
      simp only [isSeenB, Bool.and_eq_true, inR_iff] at this
      simp [List.getD, hi]
      omega
    · simp [List.getD, List.getElem?_eq_none hi]
  exact ⟨hx 0, hx 1, hx 2, hx 3⟩
end Go.Proofs.Ytmkmnedojgigoaa
