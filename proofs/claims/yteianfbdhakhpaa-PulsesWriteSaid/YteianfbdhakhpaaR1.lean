import Derived.Test.YteianfbdhakhpaaB2
import Derived.Maps.AppendAt
import Derived.Lib.SmallJoins
import Derived.Lib.SliceRun
import Derived.Deep.DeepCutAuto
import Derived.Maps.OwnOps
import Derived.DeepKeys4
import Derived.ChangeKeysEq
import Derived.RangeFuncLeaves
import Derived.RangeFuncSeq
import Derived.RangeFuncCalls
import Derived.RangeFuncNested
import Derived.OrdersIn
import Derived.TacticsIn
/-! Words for slices of pairs, rows of the call's own, appends. -/
namespace Go.Proofs.Yteianfbdhakhpaa
open Go.RowKit

theorem below_one {w : World} (o : Obj) : Below w.heap.size w (w.alloc o) := (Below.refl _ _).alloc (Nat.le_refl _) o
theorem own_ge {w : World} {base : Nat} {e : TypeId} {v : Value} {n : Nat} {xs : List Value} (h : w.ownsRow base e 1 v n xs) : ∀ k, v.ownBlock = some k → base ≤ k := by
  intro k hk
  rcases h.2 with ⟨h', _⟩ | ⟨g, cap, cur, h', hb, _⟩
  · rw [h'] at hk; simp [Value.ownBlock] at hk
  · rw [h'] at hk; simp [Value.ownBlock] at hk; omega
theorem own_new {w : World} {base : Nat} {e : TypeId} {a : Option Addr} {n m c : Nat} {xs : List Value} (h : w.ownsRow base e 1 (.slice a n c) m xs) : ∀ x, a = some x → base ≤ x.block := by
  intro x hx
  subst hx
  exact own_ge h x.block (by simp [Value.ownBlock])
theorem own_ge2 {w : World} {base size : Nat} {e : TypeId} {v : Value} {n : Nat} {xs : List Value} (h : w.ownsRow base e size v n xs) : ∀ k, v.ownBlock = some k → base ≤ k := by
  intro k hk
  rcases h.2 with ⟨h', _⟩ | ⟨g, cap, cur, h', hb, _⟩
  · rw [h'] at hk; simp [Value.ownBlock] at hk
  · rw [h'] at hk; simp [Value.ownBlock] at hk; omega
theorem own_new2 {w : World} {base size : Nat} {e : TypeId} {a : Option Addr} {n m c : Nat} {xs : List Value} (h : w.ownsRow base e size (.slice a n c) m xs) : ∀ x, a = some x → base ≤ x.block := by
  intro x hx
  subst hx
  exact own_ge2 h x.block (by simp [Value.ownBlock])
theorem own_below2 {w w' : World} {base size : Nat} {e : TypeId} {v : Value} {n : Nat} {xs : List Value} (h : w.ownsRow base e size v n xs) (hb : Below w.heap.size w w') : w'.ownsRow base e size v n xs := by
  refine ⟨h.1, ?_⟩
  rcases h.2 with h' | ⟨g, cap, cur, h1, h2, hg, h3⟩
  · exact .inl h'
  · exact .inr ⟨g, cap, cur, h1, h2, by rw [hb.block g (Array.getElem?_eq_some_iff.1 hg).1]; exact hg, h3⟩
theorem own_slice2 {w : World} {base size : Nat} {e : TypeId} {v : Value} {n : Nat} {xs : List Value} (h : w.ownsRow base e size v n xs) : ∃ a c, v = .slice a n c := by
  rcases h.2 with ⟨rfl, hz⟩ | ⟨g, cap, cur, rfl, _⟩
  · exact ⟨none, 0, by rw [hz]⟩
  · exact ⟨_, _, rfl⟩
theorem Ints.of_own {w : World} {base : Nat} {v : Value} {xs : List Int} (h : w.ownsRow base 3 1 v xs.length (xs.map (Value.int .i64))) (h1 : xs.length ≤ 9223372036854775807) (h2 : ∀ x ∈ xs, -9223372036854775808 ≤ x ∧ x ≤ 9223372036854775807) :
    ∃ a ca, v = .slice a xs.length ca ∧ Ints w a xs := by
  rcases h.2 with ⟨h', h0⟩ | ⟨g, cap, cur, h', hb, hg, hc1, _, hs, ht⟩
  · exact ⟨none, 0, by rw [h', h0], h1, h2, fun i hi => by omega⟩
  · refine ⟨some ⟨g, 0, none⟩, cap, h', h1, h2, fun i hi => ⟨g, 0, rfl, (Array.getElem?_eq_some_iff.1 hg).1, ?_⟩⟩
    rw [h'] at h
    have := World.ownsRow.cellAt h i (by omega)
    rw [Nat.zero_add, this]
    simp [List.getD, hi]
/-- A slice reads as these cells. -/
def Cls (w : World) (A : Option Addr) (vs : List Value) : Prop := ∀ j u, vs[j]? = some u → ∃ b off, A = some ⟨b, off, none⟩ ∧ b < w.heap.size ∧ w.cell? ⟨b, off + j, none⟩ = some u
theorem Cls.below {w w' : World} {A : Option Addr} {vs : List Value} (h : Cls w A vs) {B : Nat} (hb : Below B w w') (hB : w.heap.size ≤ B) : Cls w' A vs := fun j u hj => by
  obtain ⟨b, off, ha, hlt, hc⟩ := h j u hj
  have hs := hb.size
  exact ⟨b, off, ha, by omega, by rw [hb.cell (p := ⟨b, off + j, none⟩) (by show b < B; omega)]; exact hc⟩
theorem Cls.nil {w : World} {vs : List Value} (h : Cls w none vs) : vs = [] := by
  rcases vs with _ | ⟨u, us⟩
  · rfl
  · obtain ⟨b, off, ha, _⟩ := h 0 u rfl
    cases ha
theorem Ints.cls {w : World} {A : Option Addr} {xs : List Int} (h : Ints w A xs) : Cls w A (xs.map (Value.int .i64)) := fun j u hj => by
  rw [List.getElem?_map] at hj
  have hlt : j < xs.length := by
    rcases Nat.lt_or_ge j xs.length with hl | hl
    · exact hl
    · rw [List.getElem?_eq_none hl] at hj; cases hj
  obtain ⟨b, off, ha, hb, hc⟩ := h.2.2 j hlt
  refine ⟨b, off, ha, hb, ?_⟩
  rw [hc, ← hj]
  simp [List.getD, hlt]
theorem ints_one (xs : List Int) : ∀ u ∈ xs.map (Value.int .i64), u.oneCell' = true := fun u hu => by
  obtain ⟨x, _, rfl⟩ := List.mem_map.1 hu
  rfl

section
variable {P : Program} {w : World}
/-- append of nothing. -/
theorem run_app_nil (base : Nat) (t ty e : TypeId) (i : TypeInfo) (size : Nat) (ht : P.underlying t = some (.slice e)) (hi : P.info? e = some i)
    (v : Value) (n : Nat) (xs : List Value) (hown : w.ownsRow base e size v n xs) (c : Nat) : (Builtin.append_ #[t, t] ty #[v, .slice none 0 c]).run P w = .ok v w := by
  rcases hown.2 with ⟨rfl, rfl⟩ | ⟨g, cap, cur, rfl, _, _, hnc, _⟩
  · simp [Builtin.append_, run_underlying ht, sizeOf, typeInfo, hi, Builtin.lenOf, Builtin.firstCells]
  · simp [Builtin.append_, run_underlying ht, sizeOf, typeInfo, hi, Builtin.lenOf, Builtin.firstCells, hnc, storeCells]
/-- append of a slice that is read, nil or not, to a row of the call's own. -/
theorem wpList_app {ops : Array Oper} {rest : List Oper} {o : Oper} {a : Act} {Q : Exit → Act → World → Prop} (hgd : o.guard = none) (s x : Operand) (t : TypeId)
    (ho : o.op = .call { callee := .builtin .append, args := #[s, x], argTypes := #[t, t] })
    (base : Nat) (e : TypeId) (i : TypeInfo) (z : Value) (size bytes : Nat) (ht : P.underlying t = some (.slice e)) (hi : P.info? e = some i) (hz : i.zero = some z)
    (hsize : i.size = size) (hby : i.bytes = bytes) (hzs : z.cells.size = size) (hsz : 0 < size)
    (v : Value) (n : Nat) (xs : List Value) (hs : a.eval s = v) (hown : w.ownsRow base e size v n xs)
    (A : Option Addr) (m c : Nat) (news : List Value) (hx : a.eval x = .slice A m c) (hl : news.length = m * size) (hr : Cls w A news) (h1 : ∀ u ∈ news, u.oneCell' = true)
    (h63 : n + m ≤ maxLen) (hbytes : (n + m) * bytes ≤ 140737488355328) (hbase : base ≤ w.heap.size)
    (h : ∀ v' w', w'.ownsRow base e size v' (n + m) (xs ++ news) → w.grownBy w' v.ownBlock → wpList P ops Q rest (a.put o.dst v') w') : wpList P ops Q (o :: rest) a w := by
  rcases A with _ | ad
  · have hn := hr.nil
    subst hn
    have hm : m = 0 := by
      rcases Nat.eq_zero_or_pos m with h0 | h0
      · exact h0
      · have := Nat.mul_pos h0 hsz
        simp at hl; omega
    subst hm
    refine wpList_plain hgd fun K hK => ?_
    have hrun := run_app_nil (P := P) base t o.type e i size ht hi v n xs hown c
    unfold Oper.wp
    simp [execOp, ho, resolve, invoke, builtin, hs, hx, hrun, Result.andThen]
    exact hK _ _ (h v w (by simpa using hown) (World.grownBy.refl w _))
  · refine wpList_append_own _ hgd s x t ho base e i z size bytes ht hi hz hsize hby hzs hsz v n xs hs hown ad m c news hx hl (fun j u hj => ?_) h1 h63 hbytes hbase (fun v' w' h2 h3 _ => h v' w' h2 h3)
    obtain ⟨b, off, ha, _, hc⟩ := hr j u hj
    cases ha
    have e1 : (⟨b, off, none⟩ : Addr).add j = ⟨b, off + j, none⟩ := by unfold Addr.add; split <;> simp_all
    rw [e1]
    exact hc
/-- append of a slice that is read, nil or not, to a row of the call's own; where the new row lies. -/
theorem wpList_appAt {ops : Array Oper} {rest : List Oper} {o : Oper} {a : Act} {Q : Exit → Act → World → Prop} (hgd : o.guard = none) (s x : Operand) (t : TypeId)
    (ho : o.op = .call { callee := .builtin .append, args := #[s, x], argTypes := #[t, t] })
    (base : Nat) (e : TypeId) (i : TypeInfo) (z : Value) (size bytes : Nat) (ht : P.underlying t = some (.slice e)) (hi : P.info? e = some i) (hz : i.zero = some z)
    (hsize : i.size = size) (hby : i.bytes = bytes) (hzs : z.cells.size = size) (hsz : 0 < size)
    (v : Value) (n : Nat) (xs : List Value) (hs : a.eval s = v) (hown : w.ownsRow base e size v n xs)
    (A : Option Addr) (m c : Nat) (news : List Value) (hx : a.eval x = .slice A m c) (hl : news.length = m * size) (hr : Cls w A news) (h1 : ∀ u ∈ news, u.oneCell' = true)
    (h63 : n + m ≤ maxLen) (hbytes : (n + m) * bytes ≤ 140737488355328) (hbase : base ≤ w.heap.size)
    (h : ∀ v' w', w'.ownsRow base e size v' (n + m) (xs ++ news) → w.grownBy w' v.ownBlock → (v'.ownBlock = v.ownBlock ∨ v'.ownBlock = some w.heap.size) → wpList P ops Q rest (a.put o.dst v') w') : wpList P ops Q (o :: rest) a w := by
  rcases A with _ | ad
  · have hn := hr.nil
    subst hn
    have hm : m = 0 := by
      rcases Nat.eq_zero_or_pos m with h0 | h0
      · exact h0
      · have := Nat.mul_pos h0 hsz
        simp at hl; omega
    subst hm
    refine wpList_plain hgd fun K hK => ?_
    have hrun := run_app_nil (P := P) base t o.type e i size ht hi v n xs hown c
    unfold Oper.wp
    simp [execOp, ho, resolve, invoke, builtin, hs, hx, hrun, Result.andThen]
    exact hK _ _ (h v w (by simpa using hown) (World.grownBy.refl w _) (.inl rfl))
  · refine wpList_append_own_at _ hgd s x t ho base e i z size bytes ht hi hz hsize hby hzs hsz v n xs hs hown ad m c news hx hl (fun j u hj => ?_) h1 h63 hbytes hbase (fun v' w' h2 h3 _ h5 => h v' w' h2 h3 h5)
    obtain ⟨b, off, ha, _, hc⟩ := hr j u hj
    cases ha
    have e1 : (⟨b, off, none⟩ : Addr).add j = ⟨b, off + j, none⟩ := by unfold Addr.add; split <;> simp_all
    rw [e1]
    exact hc
end

/-- The empty slice that a literal makes. -/
theorem own_lit0 (w : World) (e : TypeId) (size : Nat) : (w.alloc (.cells #[] e)).ownsRow w.heap.size e size (.slice (some ⟨w.heap.size, 0, none⟩) 0 0) 0 [] :=
  World.ownsRow_lit w #[] 0 (Nat.le_refl _) (by unfold maxLen; omega) (by simp)
theorem own_litB (w : World) (e : TypeId) (size : Nat) {B : Nat} (hB : B ≤ w.heap.size) : (w.alloc (.cells #[] e)).ownsRow B e size (.slice (some ⟨w.heap.size, 0, none⟩) 0 0) 0 [] :=
  World.ownsRow_lit w #[] 0 hB (by unfold maxLen; omega) (by simp)
theorem Below.gr' {w w' : World} (h : Below w.heap.size w w') : w.grownBy w' none := ⟨h.os, h.tape, h.output, h.size, fun k hk _ => h.block k hk⟩
theorem Ints.gro {w w' : World} {r : Option Nat} {a : Option Addr} {xs : List Int} (h : Ints w a xs) (hg : w.grownBy w' r) (hne : ∀ ad, a = some ad → r ≠ some ad.block) : Ints w' a xs := by
  refine ⟨h.1, h.2.1, fun i hi => ?_⟩
  obtain ⟨b, off, ha, hb, hc⟩ := h.2.2 i hi
  refine ⟨b, off, ha, Nat.lt_of_lt_of_le hb hg.size, ?_⟩
  have hk := hg.block b hb (fun e => hne _ ha (by first | exact e | exact e.symm))
  rw [← hc]
  unfold World.cell?
  simp only [hk]
/-- Slice value reads as pairs of integers. -/
def Prs (w : World) (a : Option Addr) (xs : List (Int × Int)) : Prop :=
  xs.length ≤ 4611686018427387903 ∧ (∀ x ∈ xs, -9223372036854775808 ≤ x.1 ∧ x.1 ≤ 9223372036854775807 ∧ -9223372036854775808 ≤ x.2 ∧ x.2 ≤ 9223372036854775807) ∧
    (∀ i, i < xs.length → ∃ b off, a = some ⟨b, off, none⟩ ∧ b < w.heap.size ∧ w.cell? ⟨b, off + i * 2, none⟩ = some (.int .i64 (xs.getD i (0, 0)).1) ∧ w.cell? ⟨b, off + i * 2 + 1, none⟩ = some (.int .i64 (xs.getD i (0, 0)).2))
theorem Prs.at {w : World} {a : Option Addr} {xs : List (Int × Int)} (h : Prs w a xs) {k : Nat} (hk : k < xs.length) :
    ∃ b off x y, a = some ⟨b, off, none⟩ ∧ b < w.heap.size ∧ w.cell? ⟨b, off + k * 2, none⟩ = some (.int .i64 x) ∧ w.cell? ⟨b, off + k * 2 + 1, none⟩ = some (.int .i64 y) ∧ (-9223372036854775808 ≤ x ∧ x ≤ 9223372036854775807) ∧ (-9223372036854775808 ≤ y ∧ y ≤ 9223372036854775807) ∧
      Hid (xs[k]? = some (x, y)) ∧ Hid (xs.drop k = (x, y) :: xs.drop (k + 1)) := by
  obtain ⟨_, h2, h3⟩ := h
  obtain ⟨b, off, ha, hb, hc, hd⟩ := h3 k hk
  have hm := h2 xs[k] (List.getElem_mem hk)
  refine ⟨b, off, xs[k].1, xs[k].2, ha, hb, by rw [hc]; simp [List.getD, hk], by rw [hd]; simp [List.getD, hk], ⟨hm.1, hm.2.1⟩, ⟨hm.2.2.1, hm.2.2.2⟩, ?_, ?_⟩
  · show xs[k]? = some xs[k]; simp [hk]
  · show xs.drop k = xs[k] :: _; simp
theorem Prs.below {w w' : World} {a : Option Addr} {xs : List (Int × Int)} (h : Prs w a xs) {B : Nat} (hb : Below B w w') (hB : w.heap.size ≤ B) : Prs w' a xs := by
  obtain ⟨h1, h2, h3⟩ := h
  refine ⟨h1, h2, fun i hi => ?_⟩
  obtain ⟨b, off, ha, hbs, hc, hd⟩ := h3 i hi
  have hs := hb.size
  exact ⟨b, off, ha, by omega, by rw [hb.cell (p := ⟨b, off + i * 2, none⟩) (by show b < B; omega)]; exact hc, by rw [hb.cell (p := ⟨b, off + i * 2 + 1, none⟩) (by show b < B; omega)]; exact hd⟩
theorem drop_endP {xs : List (Int × Int)} {k : Nat} (hk : k ≤ xs.length) (h : ¬ k < xs.length) : xs.drop k = [] := by
  rw [List.drop_eq_nil_iff]; omega
def pcells (xs : List (Int × Int)) : List Value := xs.flatMap fun x => [.int .i64 x.1, .int .i64 x.2]
theorem pcells_cons (x : Int × Int) (xs : List (Int × Int)) : pcells (x :: xs) = .int .i64 x.1 :: .int .i64 x.2 :: pcells xs := rfl
theorem pcells_app (xs ys : List (Int × Int)) : pcells (xs ++ ys) = pcells xs ++ pcells ys := by simp [pcells]
theorem pcells_len : ∀ xs : List (Int × Int), (pcells xs).length = xs.length * 2
  | [] => rfl
  | x :: xs => by rw [pcells_cons, List.length_cons, List.length_cons, List.length_cons, pcells_len xs]; omega
theorem pcells_at : ∀ (xs : List (Int × Int)) (i : Nat), i < xs.length → (pcells xs)[i * 2]? = some (.int .i64 (xs.getD i (0, 0)).1) ∧ (pcells xs)[i * 2 + 1]? = some (.int .i64 (xs.getD i (0, 0)).2)
  | [], i, h => by simp at h
  | x :: xs, 0, _ => ⟨rfl, rfl⟩
  | x :: xs, i + 1, h => by
    have := pcells_at xs i (by simpa using h)
    rw [pcells_cons, show (i + 1) * 2 = i * 2 + 1 + 1 by omega]
    exact ⟨by rw [List.getElem?_cons_succ, List.getElem?_cons_succ]; simpa using this.1, by rw [List.getElem?_cons_succ, List.getElem?_cons_succ]; simpa using this.2⟩
theorem Cls.of_bx {w : World} {b : Nat} {vs : Array Value} {T : TypeId} (h : Bx w b vs T) : Cls w (some ⟨b, 0, none⟩) vs.toList := fun j u hj =>
  ⟨b, 0, rfl, h.lt, by rw [Nat.zero_add]; exact h.cell j (by simpa using hj)⟩
theorem pcells_one (xs : List (Int × Int)) : ∀ u ∈ pcells xs, u.oneCell' = true := fun u hu => by
  simp only [pcells, List.mem_flatMap, List.mem_cons, List.not_mem_nil, or_false] at hu
  obtain ⟨x, _, rfl | rfl⟩ := hu <;> rfl
theorem Prs.cls {w : World} {A : Option Addr} {xs : List (Int × Int)} (h : Prs w A xs) : Cls w A (pcells xs) := fun j u hj => by
  have hlt : j < (pcells xs).length := by
    rcases Nat.lt_or_ge j (pcells xs).length with hl | hl
    · exact hl
    · rw [List.getElem?_eq_none hl] at hj; cases hj
  rw [pcells_len] at hlt
  obtain ⟨i, hi, e⟩ : ∃ i, i < xs.length ∧ (j = i * 2 ∨ j = i * 2 + 1) := ⟨j / 2, by omega, by omega⟩
  obtain ⟨b, off, ha, hb, h1, h2⟩ := h.2.2 i hi
  obtain ⟨p1, p2⟩ := pcells_at xs i hi
  rcases e with rfl | rfl
  · exact ⟨b, off, ha, hb, by rw [h1, ← p1, hj]⟩
  · exact ⟨b, off, ha, hb, by rw [← Nat.add_assoc, h2, ← p2, hj]⟩
theorem Prs.of_own {w : World} {base : Nat} {e : TypeId} {v : Value} {xs : List (Int × Int)} (h : w.ownsRow base e 2 v xs.length (pcells xs)) (h1 : xs.length ≤ 4611686018427387903) (h2 : ∀ x ∈ xs, -9223372036854775808 ≤ x.1 ∧ x.1 ≤ 9223372036854775807 ∧ -9223372036854775808 ≤ x.2 ∧ x.2 ≤ 9223372036854775807) :
    ∃ a ca, v = .slice a xs.length ca ∧ Prs w a xs := by
  rcases h.2 with ⟨h', h0⟩ | ⟨g, cap, cur, h', hb, hg, hc1, _, hs, ht⟩
  · exact ⟨none, 0, by rw [h', h0], h1, h2, fun i hi => by omega⟩
  · refine ⟨some ⟨g, 0, none⟩, cap, h', h1, h2, fun i hi => ⟨g, 0, rfl, (Array.getElem?_eq_some_iff.1 hg).1, ?_⟩⟩
    rw [h'] at h
    have e1 := World.ownsRow.cellAt h (i * 2) (by omega)
    have e2 := World.ownsRow.cellAt h (i * 2 + 1) (by omega)
    rw [Nat.zero_add, e1, e2]
    exact pcells_at xs i hi
theorem Prs.gro {w w' : World} {r : Option Nat} {a : Option Addr} {xs : List (Int × Int)} (h : Prs w a xs) (hg : w.grownBy w' r) (hne : xs ≠ [] → ∀ ad, a = some ad → r ≠ some ad.block) : Prs w' a xs := by
  refine ⟨h.1, h.2.1, fun i hi => ?_⟩
  obtain ⟨b, off, ha, hb, hc, hd⟩ := h.2.2 i hi
  have hn : xs ≠ [] := fun e => by rw [e] at hi; simp at hi
  have hk := hg.block b hb (fun e => hne hn _ ha (by first | exact e | exact e.symm))
  refine ⟨b, off, ha, Nat.lt_of_lt_of_le hb hg.size, ?_, ?_⟩
  · rw [← hc]; unfold World.cell?; simp only [hk]
  · rw [← hd]; unfold World.cell?; simp only [hk]
end Go.Proofs.Yteianfbdhakhpaa
/-! Trains of pulses: what is valid, parts, groups, lists of selections, sets of sparks, readings. -/
namespace Go.Proofs.Yteianfbdhakhpaa
set_option linter.unusedSimpArgs false
set_option linter.unusedVariables false
open Go.RowKit

def fromI (lo n hi : Int) : Bool := decide (lo ≤ n) && decide (n ≤ hi)
/-- A train. -/
structure Pu where
  l : Int
  n : Int
  pi : Int
  sl : Int
  ga : Int
  pa : Int
  sp : Int
  ts : List Int
def distB (X : Pu) : Bool := fromI 1 X.pi 99 && (fromI 0 X.sl (X.pi - 1) && (decide (X.pi + X.sl < X.ga) && (decide (X.ga < X.pa) && decide (X.pa ≤ 999))))
/-- A time that can come at a place. -/
def timeOk (ts : List Int) (i : Nat) : Bool := fromI 0 (ts.getD i 0) 99999 && (decide (i = 0) || decide (ts.getD (i - 1) 0 < ts.getD i 0))
def timesB (ts : List Int) : Bool := (List.range ts.length).all (timeOk ts) && decide (ts.length ≤ 24)
/-- Whether a train is valid. -/
def vB (X : Pu) : Bool := fromI 1 X.l 5 && (fromI 1 X.n 5 && (distB X && (fromI 0 X.sp 3 && timesB X.ts)))
/-- What a valid train is. -/
structure POk (X : Pu) : Prop where
  l : 1 ≤ X.l ∧ X.l ≤ 5
  n : 1 ≤ X.n ∧ X.n ≤ 5
  pi : 1 ≤ X.pi ∧ X.pi ≤ 99
  sl : 0 ≤ X.sl ∧ X.sl < X.pi
  ga : X.pi + X.sl < X.ga
  pa : X.ga < X.pa ∧ X.pa ≤ 999
theorem vB_ok {X : Pu} (h : vB X = true) : POk X ∧ (0 ≤ X.sp ∧ X.sp ≤ 3) ∧ timesB X.ts = true := by
  simp only [vB, distB, fromI, Bool.and_eq_true, decide_eq_true_eq] at h
  obtain ⟨h1, h2, h3, h4, h5⟩ := h
  exact ⟨⟨h1, h2, h3.1, by omega, h3.2.2.1, by omega⟩, h4, h5⟩
theorem all_range_no (f : Nat → Bool) {n k : Nat} (hk : k < n) (h : f k = false) : (List.range n).all f = false := by
  rw [← Bool.not_eq_true, List.all_eq_true]
  intro hh
  rw [hh k (List.mem_range.2 hk)] at h; cases h
theorem all_range_succ (f : Nat → Bool) (k : Nat) : (List.range (k + 1)).all f = ((List.range k).all f && f k) := by
  rw [List.range_succ, List.all_append]; simp
theorem timesB_rng {ts : List Int} (h : timesB ts = true) : ts.length ≤ 24 ∧ ∀ x ∈ ts, 0 ≤ x ∧ x ≤ 99999 := by
  simp only [timesB, Bool.and_eq_true, decide_eq_true_eq, List.all_eq_true, List.mem_range] at h
  refine ⟨h.2, fun x hx => ?_⟩
  obtain ⟨i, hi, rfl⟩ := List.getElem_of_mem hx
  have := h.1 i hi
  simp only [timeOk, fromI, Bool.and_eq_true, decide_eq_true_eq] at this
  rw [List.getD_eq_getElem?_getD, List.getElem?_eq_getElem hi] at this
  exact this.1

/-- Times whose distances are those of a group. -/
def adjB (X : Pu) : List Int → Bool
  | x :: y :: r => fromI (X.pi - X.sl) (y - x) (X.pi + X.sl) && adjB X (y :: r)
  | _ => true
def grB (X : Pu) (g : List Int) (m : Int) : Bool := adjB X g && decide ((g.length : Int) ≤ m)
/-- Parts between which distances are at least d; cur has begun. -/
def prt (d : Int) : List Int → List Int → List (List Int)
  | _, [] => []
  | cur, [x] => [cur ++ [x]]
  | cur, x :: y :: r => if d ≤ y - x then (cur ++ [x]) :: prt d [] (y :: r) else prt d (cur ++ [x]) (y :: r)
def prtL (d : Int) (ts : List Int) : List (List Int) := prt d [] ts
/-- The selection that a part is. -/
def selO (X : Pu) (p : List Int) : Option Int :=
  match prtL X.ga p with
  | [g0, g1] => if grB X g0 X.l && grB X g1 X.n then some (((g0.length : Int) - 1) * X.n + ((g1.length : Int) - 1)) else none
  | _ => none
def lofA (X : Pu) : List (List Int) → List Int → Option (List Int)
  | [], acc => some acc
  | p :: ps, acc => match selO X p with
    | none => none
    | some v => lofA X ps (acc ++ [v])
/-- The list of clean pulses. -/
def lof (X : Pu) (ts : List Int) : Option (List Int) := lofA X (prtL X.pa ts) []

theorem prt_len (d : Int) : ∀ (r cur : List Int), (prt d cur r).length ≤ r.length
  | [], _ => by simp [prt]
  | [x], _ => by simp [prt]
  | x :: y :: r, cur => by
    rw [prt]
    have h1 := prt_len d (y :: r) []
    have h2 := prt_len d (y :: r) (cur ++ [x])
    simp only [List.length_cons] at *
    split
    · simp only [List.length_cons]; omega
    · omega
theorem prt_sum (d : Int) : ∀ (r cur : List Int), ∀ p ∈ prt d cur r, p.length ≤ cur.length + r.length ∧ p ≠ []
  | [], _, p, h => by simp [prt] at h
  | [x], cur, p, h => by
    simp only [prt, List.mem_singleton] at h; subst h; simp
  | x :: y :: r, cur, p, h => by
    rw [prt] at h
    split at h
    · rcases List.mem_cons.1 h with rfl | h
      · simp
      · have := prt_sum d (y :: r) [] p h
        simp only [List.length_cons, List.length_nil] at *; exact ⟨by omega, this.2⟩
    · have := prt_sum d (y :: r) (cur ++ [x]) p h
      simp only [List.length_cons, List.length_append, List.length_nil] at *; exact ⟨by omega, this.2⟩
theorem selO_rng {X : Pu} (ok : POk X) {p : List Int} {v : Int} (h : selO X p = some v) : 0 ≤ v ∧ v < X.l * X.n ∧ v ≤ 24 := by
  unfold selO at h
  split at h
  next g0 g1 e =>
    split at h
    next hg =>
      simp only [grB, Bool.and_eq_true, decide_eq_true_eq] at hg
      simp only [Option.some.injEq] at h
      have h0 := (prt_sum X.ga p [] g0 (by unfold prtL at e; rw [e]; simp)).2
      have h1 := (prt_sum X.ga p [] g1 (by unfold prtL at e; rw [e]; simp)).2
      have h0' : 0 < g0.length := List.length_pos_iff.2 h0
      have h1' : 0 < g1.length := List.length_pos_iff.2 h1
      obtain ⟨l1, l2⟩ := ok.l
      obtain ⟨n1, n2⟩ := ok.n
      have e1 := hg.1.2
      have e2 := hg.2.2
      obtain ⟨a, ha⟩ : ∃ a, a = (g0.length : Int) - 1 := ⟨_, rfl⟩
      obtain ⟨b, hb⟩ : ∃ b, b = (g1.length : Int) - 1 := ⟨_, rfl⟩
      rw [← ha, ← hb] at h
      have m1 : a * X.n ≤ (X.l - 1) * X.n := Int.mul_le_mul_of_nonneg_right (by omega) (by omega)
      have m2 : 0 ≤ a * X.n := Int.mul_nonneg (by omega) (by omega)
      have m3 : X.l * X.n ≤ 5 * 5 := Int.mul_le_mul l2 n2 (by omega) (by omega)
      rw [Int.sub_mul, Int.one_mul] at m1
      generalize a * X.n = q at *
      generalize X.l * X.n = q2 at *
      omega
    next => cases h
  next => cases h
theorem lofA_len {X : Pu} : ∀ (ps : List (List Int)) (acc l : List Int), lofA X ps acc = some l → l.length = acc.length + ps.length
  | [], acc, l, h => by simp only [lofA, Option.some.injEq] at h; subst h; simp
  | p :: ps, acc, l, h => by
    rw [lofA] at h
    split at h
    · cases h
    · have := lofA_len ps _ l h
      simp only [List.length_append, List.length_cons, List.length_nil] at *; omega
theorem lofA_rng {X : Pu} (ok : POk X) : ∀ (ps : List (List Int)) (acc l : List Int), (∀ v ∈ acc, 0 ≤ v ∧ v < X.l * X.n ∧ v ≤ 24) → lofA X ps acc = some l → ∀ v ∈ l, 0 ≤ v ∧ v < X.l * X.n ∧ v ≤ 24
  | [], acc, l, ha, h => by simp only [lofA, Option.some.injEq] at h; subst h; exact ha
  | p :: ps, acc, l, ha, h => by
    rw [lofA] at h
    split at h
    · cases h
    next v hv =>
      refine lofA_rng ok ps _ l (fun u hu => ?_) h
      rcases List.mem_append.1 hu with hu | hu
      · exact ha u hu
      · rw [List.mem_singleton.1 hu]; exact selO_rng ok hv
theorem lof_rng {X : Pu} (ok : POk X) {ts l : List Int} (h : lof X ts = some l) : l.length ≤ ts.length ∧ ∀ v ∈ l, 0 ≤ v ∧ v < X.l * X.n ∧ v ≤ 24 := by
  refine ⟨?_, lofA_rng ok _ [] l (by simp) h⟩
  have := lofA_len _ _ _ h
  have h2 := prt_len X.pa ts []
  unfold prtL at this
  simp only [List.length_nil] at *; omega

def inL (x : Int) (l : List Int) : Bool := l.any fun y => x == y
/-- Times without some pulses; k is the number of the first one. -/
def woA (sp : List Int) : Nat → List Int → List Int
  | _, [] => []
  | k, x :: r => if inL (k : Int) sp = true then woA sp (k + 1) r else x :: woA sp (k + 1) r
def woL (ts sp : List Int) : List Int := woA sp 0 ts
theorem woA_len (sp : List Int) : ∀ (r : List Int) (k : Nat), (woA sp k r).length ≤ r.length
  | [], _ => by simp [woA]
  | x :: r, k => by
    rw [woA]
    have := woA_len sp r (k + 1)
    split
    · simp only [List.length_cons]; omega
    · simp only [List.length_cons]; omega
theorem woA_mem (sp : List Int) : ∀ (r : List Int) (k : Nat), ∀ x ∈ woA sp k r, x ∈ r
  | [], _, x, h => by simp [woA] at h
  | y :: r, k, x, h => by
    rw [woA] at h
    split at h
    · exact List.mem_cons_of_mem _ (woA_mem sp r (k + 1) x h)
    · rcases List.mem_cons.1 h with rfl | h
      · exact List.mem_cons_self
      · exact List.mem_cons_of_mem _ (woA_mem sp r (k + 1) x h)
theorem woA_nil : ∀ (r : List Int) (k : Nat), woA [] k r = r
  | [], _ => rfl
  | x :: r, k => by rw [woA, woA_nil r (k + 1)]; simp [inL]

/-- A set, and all into which it grows by at most m numbers from low on. -/
def setsG (e : Nat) : Nat → Nat → List Int → List (List Int)
  | 0, _, f => [f]
  | m + 1, low, f => f :: (List.range' low (e - low)).flatMap fun n => setsG e m (n + 1) (f ++ [(n : Int)])
/-- What comes of the numbers below k. -/
def setsN (e m low : Nat) (f : List Int) (k : Nat) : List (List Int) := (List.range' low (k - low)).flatMap fun n => setsG e m (n + 1) (f ++ [(n : Int)])
theorem setsG_succ (e m low : Nat) (f : List Int) : setsG e (m + 1) low f = [f] ++ setsN e m low f e := rfl
theorem setsN_zero (e m low : Nat) (f : List Int) : setsN e m low f low = [] := by simp [setsN]
theorem setsN_next {e m low k : Nat} {f : List Int} (h : low ≤ k) : setsN e m low f (k + 1) = setsN e m low f k ++ setsG e m (k + 1) (f ++ [(k : Int)]) := by
  unfold setsN
  rw [show k + 1 - low = (k - low) + 1 by omega, List.range'_concat, List.flatMap_append]
  simp only [List.flatMap_cons, List.flatMap_nil, List.append_nil]
  rw [show low + 1 * (k - low) = k by omega]
theorem setsN_split {e m low k : Nat} {f : List Int} (h : low ≤ k) (hk : k < e) : ∃ post, setsN e m low f e = setsN e m low f k ++ setsG e m (k + 1) (f ++ [(k : Int)]) ++ post := by
  have hh : ∀ j, k + 1 ≤ j → ∃ post, setsN e m low f j = setsN e m low f (k + 1) ++ post := fun j hj => by
    induction j with
    | zero => omega
    | succ j ih =>
      by_cases he : j = k
      · subst he; exact ⟨[], by simp⟩
      · obtain ⟨post, hp⟩ := ih (by omega)
        exact ⟨post ++ setsG e m (j + 1) (f ++ [(j : Int)]), by rw [setsN_next (by omega), hp, List.append_assoc]⟩
  obtain ⟨post, hp⟩ := hh e (by omega)
  exact ⟨post, by rw [hp, setsN_next h]⟩
theorem setsG_len (e : Nat) : ∀ (m low : Nat) (f : List Int), (setsG e m low f).length ≤ (e + 1) ^ m
  | 0, low, f => by simp [setsG]
  | m + 1, low, f => by
    have hN : ∀ k, (setsN e m low f (low + k)).length ≤ k * (e + 1) ^ m := fun k => by
      induction k with
      | zero => rw [Nat.add_zero, setsN_zero]; simp
      | succ k ih =>
        rw [show low + (k + 1) = low + k + 1 by omega, setsN_next (by omega), List.length_append, Nat.succ_mul]
        have := setsG_len e m (low + k + 1) (f ++ [((low + k : Nat) : Int)])
        omega
    rw [setsG_succ, List.length_append, Nat.pow_succ, Nat.mul_comm]
    have h0 : 0 < (e + 1) ^ m := Nat.pow_pos (by omega)
    by_cases hl : low ≤ e
    · have := hN (e - low)
      rw [show low + (e - low) = e by omega] at this
      have h2 : (e - low) * (e + 1) ^ m ≤ e * (e + 1) ^ m := Nat.mul_le_mul_right _ (by omega)
      rw [Nat.succ_mul]
      simp only [List.length_cons, List.length_nil]; omega
    · have : setsN e m low f e = [] := by unfold setsN; rw [show e - low = 0 by omega]; rfl
      rw [this, Nat.succ_mul]
      simp only [List.length_cons, List.length_nil]; omega
/-- Rising numbers from low on and below e. -/
def risF (e : Nat) : Nat → List Int → Prop
  | _, [] => True
  | low, x :: r => ∃ n : Nat, x = (n : Int) ∧ low ≤ n ∧ n < e ∧ risF e (n + 1) r
theorem setsG_mem (e : Nat) : ∀ (m low : Nat) (f s : List Int), s ∈ setsG e m low f ↔ ∃ t, s = f ++ t ∧ t.length ≤ m ∧ risF e low t
  | 0, low, f, s => by
    simp only [setsG, List.mem_singleton]
    constructor
    · rintro rfl; exact ⟨[], by simp, by simp, trivial⟩
    · rintro ⟨t, rfl, h, _⟩
      have : t = [] := List.eq_nil_of_length_eq_zero (by omega)
      subst this; simp
  | m + 1, low, f, s => by
    rw [setsG, List.mem_cons, List.mem_flatMap]
    constructor
    · rintro (rfl | ⟨n, hn, hs⟩)
      · exact ⟨[], by simp, by simp, trivial⟩
      · rw [List.mem_range'_1] at hn
        obtain ⟨t, rfl, ht, hr⟩ := (setsG_mem e m (n + 1) _ s).1 hs
        exact ⟨(n : Int) :: t, by simp, by simp; omega, n, rfl, hn.1, by omega, hr⟩
    · rintro ⟨t, rfl, ht, hr⟩
      cases t with
      | nil => exact .inl (by simp)
      | cons x r =>
        obtain ⟨n, rfl, h1, h2, h3⟩ := hr
        refine .inr ⟨n, by rw [List.mem_range'_1]; omega, (setsG_mem e m (n + 1) _ _).2 ⟨r, by simp, by simpa using ht, h3⟩⟩
/-- The reading that a set of sparks is. -/
def rdO (X : Pu) (s : List Int) : Option (List Int × List Int) := (lof X (woL X.ts s)).map fun l => (s, l)
/-- All readings with at most m sparks, in the order of the sets. -/
def rdL (X : Pu) (m : Nat) : List (List Int × List Int) := (setsG X.ts.length m 0 []).filterMap (rdO X)
theorem rdL_len (X : Pu) (m : Nat) (h : X.ts.length ≤ 24) (hm : m ≤ 3) : (rdL X m).length ≤ 15625 := by
  refine Nat.le_trans (List.length_filterMap_le _ _) (Nat.le_trans (setsG_len _ _ _ _) ?_)
  refine Nat.le_trans (Nat.pow_le_pow_left (show X.ts.length + 1 ≤ 25 by omega) m) (Nat.le_trans (Nat.pow_le_pow_right (by omega) hm) (by decide))
theorem rdL_mem {X : Pu} {m : Nat} {r : List Int × List Int} (h : r ∈ rdL X m) : r.1.length ≤ m ∧ risF X.ts.length 0 r.1 ∧ lof X (woL X.ts r.1) = some r.2 := by
  unfold rdL at h
  rw [List.mem_filterMap] at h
  obtain ⟨s, hs, hr⟩ := h
  obtain ⟨t, rfl, h1, h2⟩ := (setsG_mem _ _ _ _ _).1 hs
  unfold rdO at hr
  rw [Option.map_eq_some_iff] at hr
  obtain ⟨l, hl, rfl⟩ := hr
  exact ⟨by simpa using h1, by simpa using h2, hl⟩
end Go.Proofs.Yteianfbdhakhpaa
/-! A range over a function whose body goes on to its end, at the fence that lets all by: the iterator may be a method value, may keep state in cells that it lays itself; regions of a round walked as they are walked elsewhere. -/
namespace Go.Proofs.Yteianfbdhakhpaa
open Go Go.RowKit
section
variable {P : Program}

/-- The fence that lets all by, within a round. -/
abbrev RF (l : Nat) : Fence := Fence.wide.inRound l

def noDef (o : Oper) : Bool := match o.op with | .defer _ => false | _ => true
theorem noDef_spec {o : Oper} (h : noDef o = true) : ∀ c, o.op ≠ .defer c := by
  intro c e; simp [noDef, e] at h

theorem rowsIn_of {l n : Nat} {row : String} {args : Array Value} {w : World} {R : Value → World → Prop} (h : Rows P row args w R) : RowsIn (RF l) n P row args w R := fun c cs _ => by
  obtain ⟨v, w', r, s⟩ := h c cs
  exact ⟨v, w', r, stepsIn_wide.2 s⟩

theorem operIn_of {l n : Nat} {o : Oper} {a : Act} {w : World} {next : Act → World → Prop} {Q : Exit → Act → World → Prop} (hd : noDef o = true) (h : o.wp P a w next Q) : o.wpIn (RF l) n P a w next Q := by
  refine ⟨fun _ _ => trivial, ?_⟩
  show o.uponIn (RF l) n P a next Q ((o.semAt (some l) a.eval).run P w)
  rw [Oper.semAt_some l _ _ (noDef_spec hd)]
  unfold Oper.wp at h
  generalize (execOp a.eval o).run P w = r at *
  cases r with
  | ok x w' =>
    cases x <;> simp only [Oper.upon] at h <;> simp only [Oper.uponIn]
    case value u => exact h
    case skip => exact h
    case defer d => exact h
    case enter f args => exact ⟨fun e => (by cases e), CallsIn.inRound l (callsIn_wide.2 h)⟩
    case row row args => exact ⟨fun e => (by cases e), rowsIn_of h⟩
  | halt x w' => cases x <;> simp only [Oper.upon] at h <;> simp only [Oper.uponIn]; exact h

section
variable {ops : Array Oper} {Q : Exit → Act → World → Prop} {l n : Nat}

theorem opIn_of (hd : ops.toList.all noDef = true) (hlo : ¬ LetsOut Q) {i : Nat} {K K' : Act → World → Prop} {a : Act} {w : World} (hK : ∀ a w, K a w → K' a w) (h : wpOp P ops Q i K a w) : wpOpIn (RF l) n P ops Q i K' a w := by
  unfold wpOp at h
  unfold wpOpIn
  cases ho : ops[i]? with
  | none => simp only [ho] at h ⊢; exact hK _ _ h
  | some o =>
    simp only [ho] at h ⊢
    have hdo : noDef o = true := by
      obtain ⟨hlt, rfl⟩ := Array.getElem?_eq_some_iff.1 ho
      exact List.all_eq_true.1 hd _ (by simp)
    by_cases hw : Region.wanted o (yielded ops a.tmps) = true
    · simp only [hw, if_true] at h ⊢
      rcases h with h | ⟨_, h⟩
      · exact Oper.wpIn_mono hK (operIn_of hdo h)
      · exact absurd h hlo
    · simp only [hw, if_false, Bool.false_eq_true] at h ⊢
      exact ⟨fun _ _ => trivial, hK _ _ h⟩

theorem anyIn_of (hd : ops.toList.all noDef = true) (hlo : ¬ LetsOut Q) {md : Region.Mode} : ∀ (fuel : Nat) (s : Array Bool) (a : Act) (w : World), wpAny P md ops Q fuel s a w → wpAnyIn (RF l) n P md ops Q fuel s a w
  | 0, _, _, _, h => h
  | fuel + 1, _, _, _, h => ⟨h.1, fun i hi => opIn_of hd hlo (fun a w hh => anyIn_of hd hlo fuel _ a w hh) (h.2 i hi)⟩

theorem listIn_of (hlo : ¬ LetsOut Q) : ∀ (L : List Oper) (a : Act) (w : World), L.all noDef = true → wpList P ops Q L a w → wpListIn (RF l) n P ops Q L a w
  | [], _, _, _, h => h
  | o :: L, a, w, hd, h => by
    simp only [List.all_cons, Bool.and_eq_true] at hd
    unfold wpList at h
    unfold wpListIn
    by_cases hw : Region.wanted o (yielded ops a.tmps) = true
    · simp only [hw, if_true] at h ⊢
      rcases h with h | ⟨_, h⟩
      · exact Oper.wpIn_mono (fun a w hh => listIn_of hlo L a w hd.2 hh) (operIn_of hd.1 h)
      · exact absurd h hlo
    · simp only [hw, if_false, Bool.false_eq_true] at h ⊢
      exact ⟨fun _ _ => trivial, listIn_of hlo L _ w hd.2 h⟩
end

theorem only_lets {K : Act → World → Prop} : ¬ LetsOut (Exit.then K fun _ _ _ => False) := fun ⟨_, _, h⟩ => h
theorem only_lets2 {K : Act → World → Prop} : ¬ LetsOut (NoPanic (Exit.then K fun _ _ _ => False)) := fun ⟨_, _, h⟩ => h
theorem only_imp {Q : Exit → Act → World → Prop} : ∀ (e : Exit) (a : Act) (w : World), Exit.then (Q .normal) (fun _ _ _ => False) e a w → Q e a w := fun e a w h => by
  cases e <;> first | exact h | exact h.elim
theorem only_imp2 {Q : Exit → Act → World → Prop} : ∀ (e : Exit) (a : Act) (w : World), NoPanic (Exit.then (Q .normal) (fun _ _ _ => False)) e a w → Q e a w := fun e a w h => by
  cases e <;> first | exact h | exact (h : False).elim

/-- A region of a round, in its order. -/
theorem wpIn_region_plain {id l n : Nat} {Q : Exit → Act → World → Prop} {a : Act} {w : World} {L : List Oper} (hd : L.all noDef = true)
    (h : wpList P L.toArray (Exit.then (Q .normal) fun _ _ _ => False) L a w) : (Code.region id L.toArray false).wpIn (RF l) n P Q a w :=
  wpIn_mono (wpIn_region_lit (listIn_of only_lets L a w hd h)) only_imp

/-- A region of a round that draws its order, by its head. -/
theorem wpIn_region_head {id l m : Nat} {Q : Exit → Act → World → Prop} {a : Act} {w : World} {L : List Oper} (n : Nat) (S : World → Prop) (hm : P.follows .mixedOrders = true) (hn : (L.all noDef && decide (n < L.length)) = true)
    (h : HeadAt P L (Exit.then (Q .normal) fun _ _ _ => False) S n n (Array.replicate L.length false) a w.drew) : (Code.region id L.toArray true).wpIn (RF l) m P Q a w := by
  simp only [Bool.and_eq_true, decide_eq_true_eq] at hn
  obtain ⟨hd, hn⟩ := hn
  have inv0 : HeadInv .any L.toArray n (Array.replicate L.length false) := by
    refine ⟨by simp, fun j oj _ hl => ?_, fun t _ ht => getD_in (by simpa using ht) (getD_replicate_false _ _)⟩
    rw [getD_replicate_false] at hl; cases hl
  have := headH_any (g := L.length - n) (fun s a w (hL : tailL P .any L (NoPanic (Exit.then (Q .normal) fun _ _ _ => False)) n s a w) => by
    have := wpAny_of_seq (md := .any) (Q' := NoPanic (Exit.then (Q .normal) fun _ _ _ => False)) (L.drop n) n s a w (fun j => by simp [List.getElem?_drop]) (by rw [List.length_drop]; exact hL.1) hL.2
    rwa [List.length_drop] at this) _ _ _ _ (h inv0)
  rw [show n + (L.length - n) = L.length by omega] at this
  refine wpIn_mono (wpIn_region_any hm (anyIn_of (by simpa using hd) only_lets2 _ _ _ _ ?_)) only_imp2
  simpa using this

/-! ### The law -/

/-- All that is there stays, but for the blocks B and B + 1. -/
structure Sta (B : Nat) (W W' : World) : Prop where
  os : W'.os = W.os
  tape : W'.tape = W.tape
  output : W'.output = W.output
  size : W.heap.size ≤ W'.heap.size
  block : ∀ k, k < W.heap.size → k ≠ B → k ≠ B + 1 → W'.heap[k]? = W.heap[k]?

theorem Sta.below {B : Nat} {W W' : World} (h : Sta B W W') (hB : B ≤ W.heap.size) : Below B W W' := ⟨h.os, h.tape, h.output, h.size, fun k hk => h.block k (by omega) (by omega) (by omega)⟩
theorem Sta.of_below {B : Nat} {W W' : World} (h : Below W.heap.size W W') : Sta B W W' := ⟨h.os, h.tape, h.output, h.size, fun k hk _ _ => h.block k hk⟩
theorem Sta.putObj {B l : Nat} {W : World} {o : Obj} (hl : l = B ∨ l = B + 1) : Sta B W (W.putObj l o) :=
  ⟨rfl, rfl, rfl, by simp, fun k _ h1 h2 => World.putObj_heap_other (by rcases hl with rfl | rfl <;> assumption)⟩

/-- What a round leaves alone: all below n0, and all at or beyond B. -/
structure Kept (n0 B : Nat) (W W' : World) : Prop where
  below : Below n0 W W'
  over : ∀ k, B ≤ k → k < W.heap.size → W'.heap[k]? = W.heap[k]?
theorem Kept.refl (n0 B : Nat) (W : World) : Kept n0 B W W := ⟨Below.refl _ _, fun _ _ _ => rfl⟩
theorem Kept.trans {n0 B : Nat} {a b c : World} (h : Kept n0 B a b) (k : Kept n0 B b c) : Kept n0 B a c :=
  ⟨h.below.trans k.below, fun i h1 h2 => (k.over i h1 (Nat.lt_of_lt_of_le h2 h.below.size)).trans (h.over i h1 h2)⟩
theorem Kept.of_below {n0 B : Nat} {a b : World} (h : Below a.heap.size a b) (hn : n0 ≤ a.heap.size) : Kept n0 B a b := ⟨h.mono hn, fun k _ hk => h.block k hk⟩
theorem Kept.more {n0 B B' : Nat} {a b : World} (h : Kept n0 B a b) (hB : B ≤ B') : Kept n0 B' a b := ⟨h.below, fun k h1 h2 => h.over k (by omega) h2⟩
theorem Kept.set {n0 B : Nat} {a : World} {p : Addr} (h1 : n0 ≤ p.block) (h2 : p.block < B) (v : Value) : Kept n0 B a (a.setCell p v) :=
  ⟨(Below.refl n0 a).setCell h1 v, fun k hk _ => Below.heap_setCell _ _ _ _ (by omega)⟩
theorem Kept.bx {n0 B : Nat} {a b : World} (h : Kept n0 B a b) {k : Nat} {vs : Array Value} {T : TypeId} (hx : Bx a k vs T) (hk : B ≤ k) : Bx b k vs T := by
  unfold Bx at *; rw [h.over k hk (Bx.lt hx)]; exact hx
theorem Kept.bx0 {n0 B : Nat} {a b : World} (h : Kept n0 B a b) {k : Nat} {vs : Array Value} {T : TypeId} (hx : Bx a k vs T) (hk : k < n0) : Bx b k vs T := by
  unfold Bx at *; rw [h.below.block k hk]; exact hx

/-- What an iterator does: it hands over all of xs, one by one, if each round goes on; its own steps are of the kind StI. -/
def Iter {α : Type} (P : Program) (gf : Nat) (bd lb : Array Value) (encs : α → Array Value) (xs : List α) (StI : World → World → Prop) (n0 B : Nat) (w : World) : Prop :=
  ∀ (l : Nat) (J : List α → World → Prop) (W : World), Below w.heap.size w W → W.heap.size = B →
    (∀ pre W1 W2, J pre W1 → StI W1 W2 → J pre W2) →
    (∀ pre x, (∃ rest, xs = pre ++ x :: rest) → ∀ W1, J pre W1 → YieldAt Fence.wide 0 P l (encs x) W1 fun e W' => e = .returned (.bool true) ∧ J (pre ++ [x]) W' ∧ Kept n0 B W1 W') →
    J [] W → Calls P gf (bd ++ #[.func (.yield l) #[] #[]] ++ lb) W fun e W' => (∃ v, e = .returned v) ∧ J xs W'

theorem wp_rangeFuncB {α : Type} {g : Operand} {ps : Array Tmp} {assign body : Code} {Q : Exit → Act → World → Prop} {a : Act} {w : World} {gf : Nat} {bd lb : Array Value} (n0 : Nat) (hn0 : n0 ≤ w.heap.size) {encs : α → Array Value} {xs : List α} {StI St : World → World → Prop}
    (hg : a.eval g = .func (.func gf) bd lb) (eg : ∀ args w, (callFunc gf args).run P w = .ok (.enter gf args) w) (hps : ∀ x, (encs x).size = ps.size)
    (hIt : Iter P gf bd lb encs xs StI n0 (w.heap.size + 2) w)
    (hSt : ∀ W W', Sta w.heap.size W W' → St W W') (hI1 : ∀ W W', w.heap.size + 2 ≤ W.heap.size → StI W W' → Below (w.heap.size + 2) W W') (hI2 : ∀ W W', StI W W' → St W W')
    (I : List α → World → Prop) (hI : ∀ pre W W', I pre W → St W W' → I pre W') (h0 : I [] w)
    (Ax : α → Act → World → Prop) (hAx : ∀ x a' W W', Ax x a' W → Sta w.heap.size W W' → Ax x a' W')
    (hassign : ∀ (l : Nat) (pre : List α) (x : α) (W : World) (K : Act → World → Prop), (∃ rest, xs = pre ++ x :: rest) → I pre W → w.heap.size + 2 ≤ W.heap.size →
      (∀ a' W', Kept n0 w.heap.size W W' → I pre W' → Ax x a' W' → K a' W') →
      assign.wpIn (RF l) 0 P (Exit.then K fun _ _ _ => False) { tmps := (ps.zip (encs x)).foldl (fun t (p, v) => t.setIfInBounds p v) a.tmps, defers := [] } W)
    (hbody : ∀ (l : Nat) (pre : List α) (x : α) (a' : Act) (W : World), (∃ rest, xs = pre ++ x :: rest) → I pre W → Ax x a' W → w.heap.size + 2 ≤ W.heap.size →
      body.wpIn (RF l) 0 P (Exit.then (fun _ W' => Kept n0 w.heap.size W W' ∧ I (pre ++ [x]) W') fun _ _ _ => False) a' W)
    (hdone : ∀ W, I xs W → W.heap[w.heap.size]? = some (.deferred (some [])) → w.heap.size + 2 ≤ W.heap.size → Q .normal { a with defers := { target := .collected w.heap.size, args := #[] } :: a.defers } W) :
    (Code.rangeFunc g ps assign body).wp P Q a w := by
  refine wpIn_wide (n := 1).1 (wpIn_rangeFunc ?_)
  intro fn _
  obtain ⟨rec, hrec⟩ : ∃ rec : LoopState → Option Code → Loop, rec = fun st pe => { state := st, pending := pe, fn, tmps := a.tmps, params := ps, assign, body, defers := w.heap.size } := ⟨_, rfl⟩
  obtain ⟨W1, hW1⟩ : ∃ W1, (w.alloc (.deferred (some []))).alloc (.loop (rec .ready none)) = W1 := ⟨_, rfl⟩
  have hs1 : W1.heap.size = w.heap.size + 2 := by rw [← hW1]; simp
  have hL1 : W1.heap[w.heap.size + 1]? = some (.loop (rec .ready none)) := by
    rw [← hW1]; have := World.alloc_heap_new (w.alloc (.deferred (some []))) (.loop (rec .ready none)); rwa [World.size_alloc] at this
  have hK1 : W1.heap[w.heap.size]? = some (.deferred (some [])) := by
    rw [← hW1]; exact (Below.heap_alloc _ _ _ (by simp)).trans (World.alloc_heap_new w _)
  have hb1 : Below w.heap.size w W1 := by
    rw [← hW1]; exact ((Below.refl _ w).alloc (Nat.le_refl _) _).alloc (by simp) _
  have hI0 : I [] W1 := hI _ _ _ h0 (hSt _ _ (Sta.of_below hb1))
  refine ⟨w.heap.size + 1, [{ target := .collected w.heap.size, args := #[] }], W1, { target := .fn (.func gf) lb, args := bd ++ #[.func (.yield (w.heap.size + 1)) #[] #[]] }, W1, gf,
    bd ++ #[.func (.yield (w.heap.size + 1)) #[] #[]] ++ lb, W1, ?_, ?_, fun _ _ => trivial, ?_, fun e => (by cases e), ?_⟩
  · rw [← hW1, hrec]; exact run_enterLoop_outer _ _ _ _ _
  · simp only [resolve, hg]
    simp [go_sem]
  · simp [invoke, go_sem, eg]
  refine callsIn_wide.2 ((hIt (w.heap.size + 1)
    (fun pre W => I pre W ∧ W.heap[w.heap.size + 1]? = some (.loop (rec .ready none)) ∧ W.heap[w.heap.size]? = some (.deferred (some [])) ∧ w.heap.size + 2 ≤ W.heap.size)
    W1 hb1 hs1 ?_ ?_ ⟨hI0, hL1, hK1, by omega⟩).mono ?_)
  · rintro pre V1 V2 ⟨i1, i2, i3, i4⟩ hst
    have hb := hI1 _ _ i4 hst
    exact ⟨hI _ _ _ i1 (hI2 _ _ hst), (hb.block _ (by omega)).trans i2, (hb.block _ (by omega)).trans i3, Nat.le_trans i4 hb.size⟩
  · rintro pre x hx V ⟨i1, i2, i3, i4⟩
    have hy := run_yield (P := P) (args := encs x) i2 (by rw [hrec]; exact hps x)
    rw [hrec] at hy
    refine ⟨fn, _, assign, body, hy, roundIn_of_wpIn trivial (hassign _ pre x V _ hx i1 i4 ?_)⟩
    intro a' Va hka ia hax
    have l1 := (hka.over _ (by omega) (by omega)).trans i2
    have k1 := (hka.over _ (Nat.le_refl _) (by omega)).trans i3
    have z1 : w.heap.size + 2 ≤ Va.heap.size := Nat.le_trans i4 hka.below.size
    refine ⟨_, run_beginRound l1 (by rw [hrec]), ?_⟩
    have hsp : ∀ (W : World) (o : Obj), Sta w.heap.size W (W.putObj (w.heap.size + 1) o) := fun W o => Sta.putObj (.inr rfl)
    have hkp : ∀ (W : World) (o : Obj), Kept n0 (w.heap.size + 2) W (W.putObj (w.heap.size + 1) o) := fun W o =>
      ⟨⟨rfl, rfl, rfl, by simp, fun k hk => World.putObj_heap_other (by omega)⟩, fun k hk _ => World.putObj_heap_other (by omega)⟩
    have l2 : (Va.putObj (w.heap.size + 1) (.loop { rec .ready none with state := .busy })).heap[w.heap.size + 1]? = some (.loop { rec .ready none with state := .busy }) := World.putObj_heap_same (by omega)
    have k2 : (Va.putObj (w.heap.size + 1) (.loop { rec .ready none with state := .busy })).heap[w.heap.size]? = some (.deferred (some [])) := (World.putObj_heap_other (by omega)).trans k1
    refine Go.wpIn_mono (hbody _ pre x a' _ hx (hI _ _ _ ia (hSt _ _ (hsp _ _))) (hAx _ _ _ _ hax (hsp _ _)) (by simpa using z1)) ?_
    rintro e a3 V3 hp
    cases e with
    | normal =>
      obtain ⟨hk3, hi3⟩ := hp
      have l3 := (hk3.over (w.heap.size + 1) (by omega) (by simp; omega)).trans l2
      have k3 := (hk3.over w.heap.size (Nat.le_refl _) (by simp; omega)).trans k2
      have hs3 : w.heap.size + 2 ≤ V3.heap.size := by have := hk3.below.size; simp at this; omega
      have he := run_endRound (P := P) none l3
      rw [hrec] at he
      refine ⟨_, _, he, rfl, ⟨hI _ _ _ hi3 (hSt _ _ (hsp _ _)), ?_, (World.putObj_heap_other (by omega)).trans k3, by simpa using hs3⟩, ?_⟩
      · rw [hrec]; exact World.putObj_heap_same (by omega)
      · exact ((hka.more (by omega)).trans (hkp _ _)).trans ((hk3.more (by omega)).trans (hkp _ _))
    | ret => exact hp.elim
    | exit id => exact hp.elim
    | goto t => exact hp.elim
    | panic ch => exact hp.elim
    | outgrown => exact hp.elim
  · rintro e V ⟨⟨v, rfl⟩, i1, i2, i3, i4⟩
    refine ⟨none, _, (by have := run_endLoop (P := P) i2 (by rw [hrec]; simp); rw [hrec] at this; exact this), ?_⟩
    exact hdone _ (hI _ _ _ i1 (hSt _ _ (Sta.putObj (.inr rfl)))) ((World.putObj_heap_other (by omega)).trans i3) (by simpa using i4)

/-! ### The function's end -/

/-- Marks of loops that are over: blocks at or beyond B, each another one. -/
def Marks (B : Nat) (w : World) : List Deferred → Prop
  | [] => True
  | d :: ds => (∃ D, d = { target := .collected D, args := #[] } ∧ B ≤ D ∧ w.heap[D]? = some (.deferred (some [])) ∧ Marks B w ds ∧ ∀ d' ∈ ds, d'.target ≠ .collected D)

/-- All cells stay: what is no block of marks. -/
def Cel (B : Nat) (W W' : World) : Prop := Below B W W' ∧ ∀ (k : Nat) (vs : Array Value) (T : TypeId) (z : Nat × Nat), W.heap[k]? = some (Obj.cells vs T z) → W'.heap[k]? = some (Obj.cells vs T z)
theorem Cel.refl (B : Nat) (W : World) : Cel B W W := ⟨Below.refl _ _, fun _ _ _ _ h => h⟩
theorem Cel.trans {B : Nat} {a b c : World} (h : Cel B a b) (k : Cel B b c) : Cel B a c := ⟨h.1.trans k.1, fun _ _ _ _ hh => k.2 _ _ _ _ (h.2 _ _ _ _ hh)⟩
theorem Cel.bx {B : Nat} {a b : World} (h : Cel B a b) {k : Nat} {vs : Array Value} {T : TypeId} (hx : Bx a k vs T) : Bx b k vs T := h.2 _ _ _ _ hx

theorem Marks.keep {B : Nat} {W W' : World} : ∀ {ds : List Deferred}, Marks B W ds → (∀ D, (∃ d ∈ ds, d.target = .collected D) → W'.heap[D]? = W.heap[D]?) → Marks B W' ds
  | [], _, _ => trivial
  | d :: ds, ⟨D, hd, hB, hD, hm, hne⟩, h => ⟨D, hd, hB, (h D ⟨d, List.mem_cons_self, by rw [hd]⟩).trans hD, Marks.keep hm (fun D' ⟨d', hm', e⟩ => h D' ⟨d', List.mem_cons_of_mem _ hm', e⟩), hne⟩

theorem leaves_marks {fn : Func} {tmps : Array Value} {R : Ending → World → Prop} {B : Nat} : ∀ (ds : List Deferred) (w : World), Marks B w ds →
    (∀ w', Cel B w w' → LeavesIn Fence.wide 0 P fn tmps R [] .returning w') → LeavesInM Fence.wide 0 P fn tmps R ds .returning w
  | [], w, _, h => h w (Cel.refl _ _)
  | d :: ds, w, ⟨D, hd, hB, hD, hm, hne⟩, h => by
    refine ⟨by simp, .inl ⟨D, _, by rw [hd], run_takeDeferred hD, ?_⟩⟩
    have hc0 : Cel B w (w.putObj D (.deferred none)) := ⟨⟨rfl, rfl, rfl, by simp, fun k hk => World.putObj_heap_other (by omega)⟩, fun k vs T z hk => by
      by_cases e : k = D
      · subst e; rw [hD] at hk; cases hk
      · exact (World.putObj_heap_other e).trans hk⟩
    exact leaves_marks ds _ (Marks.keep hm fun D' ⟨d', hm', e⟩ => World.putObj_heap_other (fun e2 => hne d' hm' (by rw [e, e2]))) fun w' hc => h w' (hc0.trans hc)

/-- A function's contract, where its body holds a range over a function. -/
theorem calls_of_wp_marks {f : FuncId} {fn : Func} {c : Code} {args : Array Value} {w : World} {R : Ending → World → Prop}
    (hf : P.funcs[f]? = some fn) (hb : fn.body = some c)
    (h : c.wp P (bodyPostM Fence.wide 0 P fn R) { tmps := args ++ Array.replicate (fn.ntmps - args.size) undef, defers := [] } w) : Calls P f args w R :=
  callsIn_wide.1 (callsIn_of_wp_marks hf hb trivial (wpIn_wide.2 h))
end
end Go.Proofs.Yteianfbdhakhpaa
