import Derived.Test.YthgjjlkdekfdbaaT26
import Derived.Test.YthgjjlkdekfdbaaT20
/-! Words for slices of splits; several weeks. -/
namespace Go.Proofs.Ythgjjlkdekfdbaa
set_option linter.unusedSimpArgs false
set_option linter.unusedVariables false
open Go Go.RowKit

theorem results_tmp3 {fn : Func} {t u s : Tmp} (h : fn.results = #[.tmp t, .tmp u, .tmp s]) (tmps : Array Value) (P : Program) (w : World) :
    (results fn tmps).run P w = .ok (.tuple #[tmps.getD t undef, tmps.getD u undef, tmps.getD s undef]) w := by
  simp [results, h]
def wk0 : Wk := ⟨0, 0, 0, 0, 0⟩
/-- A split lies at a place. -/
def At3 (w : World) (b o : Nat) (x : Wk) : Prop := w.cell? ⟨b, o, none⟩ = some (.int .i64 x.op) ∧ w.cell? ⟨b, o + 1, none⟩ = some (.int .i64 x.ow) ∧ w.cell? ⟨b, o + 2, none⟩ = some (.int .i64 x.rp)
theorem At3.eq {w w' : World} {b o : Nat} {x : Wk} (h : At3 w b o x) (he : w'.heap[b]? = w.heap[b]?) : At3 w' b o x := by
  unfold At3 World.cell? at *
  simp only [he]; exact h
/-- A slice value reads as splits. -/
def Spl (w : World) (a : Option Addr) (xs : List Wk) : Prop :=
  xs.length ≤ 1000 ∧ (∀ i, i < xs.length → ∃ b off, a = some ⟨b, off, none⟩ ∧ b < w.heap.size ∧ At3 w b (off + i * 3) (xs.getD i wk0))
theorem Spl.len {w : World} {a : Option Addr} {xs : List Wk} (h : Spl w a xs) : xs.length ≤ 1000 := h.1
theorem Spl.at {w : World} {a : Option Addr} {xs : List Wk} (h : Spl w a xs) {k : Nat} (hk : k < xs.length) :
    ∃ b off x, a = some ⟨b, off, none⟩ ∧ b < w.heap.size ∧ At3 w b (off + k * 3) x ∧ Hid (xs[k]? = some x) := by
  obtain ⟨_, h3⟩ := h
  obtain ⟨b, off, ha, hb, hc⟩ := h3 k hk
  refine ⟨b, off, xs[k], ha, hb, ?_, ?_⟩
  · have e : xs.getD k wk0 = xs[k] := by simp [List.getD, hk]
    rw [e] at hc; exact hc
  · show xs[k]? = some xs[k]; simp [hk]
theorem Spl.of {w w' : World} {a : Option Addr} {xs : List Wk} (h : Spl w a xs) (hs : w.heap.size ≤ w'.heap.size) (hk : ∀ ad, a = some ad → ad.block < w.heap.size → w'.heap[ad.block]? = w.heap[ad.block]?) : Spl w' a xs := by
  obtain ⟨h1, h3⟩ := h
  refine ⟨h1, fun i hi => ?_⟩
  obtain ⟨b, off, ha, hbs, hc⟩ := h3 i hi
  exact ⟨b, off, ha, by omega, hc.eq (hk _ ha hbs)⟩
theorem Spl.below {w w' : World} {a : Option Addr} {xs : List Wk} (h : Spl w a xs) {B : Nat} (hb : Below B w w') (hB : w.heap.size ≤ B) : Spl w' a xs :=
  h.of hb.size fun ad _ hl => hb.block _ (by omega)
theorem Spl.nil (w : World) (a : Option Addr) : Spl w a [] := ⟨by simp, fun i hi => by simp at hi⟩
theorem Spl.take {w : World} {a : Option Addr} {xs : List Wk} (h : Spl w a xs) (j : Nat) : Spl w a (xs.take j) := by
  obtain ⟨h1, h3⟩ := h
  refine ⟨by rw [List.length_take]; omega, fun i hi => ?_⟩
  rw [List.length_take] at hi
  obtain ⟨b, off, ha, hb, hc⟩ := h3 i (by omega)
  refine ⟨b, off, ha, hb, ?_⟩
  have e : (xs.take j).getD i wk0 = xs.getD i wk0 := by
    rw [List.getD_eq_getElem?_getD, List.getD_eq_getElem?_getD, List.getElem?_take, if_pos (by omega)]
  rw [e]; exact hc
theorem Spl.drop {w : World} {b off : Nat} {xs : List Wk} (h : Spl w (some ⟨b, off, none⟩) xs) (j : Nat) : Spl w (some ⟨b, off + j * 3, none⟩) (xs.drop j) := by
  obtain ⟨h1, h3⟩ := h
  refine ⟨by rw [List.length_drop]; omega, fun i hi => ?_⟩
  rw [List.length_drop] at hi
  obtain ⟨b', off', ha, hb, hc⟩ := h3 (j + i) (by omega)
  cases ha
  refine ⟨b, off + j * 3, rfl, hb, ?_⟩
  have e : (xs.drop j).getD i wk0 = xs.getD (j + i) wk0 := by
    rw [List.getD_eq_getElem?_getD, List.getD_eq_getElem?_getD, List.getElem?_drop]
  rw [e, show off + j * 3 + i * 3 = off + (j + i) * 3 by omega]; exact hc
def scells (xs : List Wk) : List Value := xs.flatMap fun x => [.int .i64 x.op, .int .i64 x.ow, .int .i64 x.rp]
theorem scells_cons (x : Wk) (xs : List Wk) : scells (x :: xs) = .int .i64 x.op :: .int .i64 x.ow :: .int .i64 x.rp :: scells xs := rfl
theorem scells_app (xs ys : List Wk) : scells (xs ++ ys) = scells xs ++ scells ys := by simp [scells]
theorem scells_len : ∀ xs : List Wk, (scells xs).length = xs.length * 3
  | [] => rfl
  | x :: xs => by rw [scells_cons]; simp only [List.length_cons]; rw [scells_len xs]; omega
theorem scells_at : ∀ (xs : List Wk) (i : Nat), i < xs.length → (scells xs)[i * 3]? = some (.int .i64 (xs.getD i wk0).op) ∧ (scells xs)[i * 3 + 1]? = some (.int .i64 (xs.getD i wk0).ow) ∧ (scells xs)[i * 3 + 2]? = some (.int .i64 (xs.getD i wk0).rp)
  | [], i, h => by simp at h
  | x :: xs, 0, _ => ⟨rfl, rfl, rfl⟩
  | x :: xs, i + 1, h => by
    have := scells_at xs i (by simpa using h)
    rw [scells_cons, show (i + 1) * 3 = i * 3 + 1 + 1 + 1 by omega]
    have e : ∀ (j : Nat) (v0 v1 v2 : Value) (l : List Value), (v0 :: v1 :: v2 :: l)[j + 3]? = l[j]? := fun j v0 v1 v2 l => rfl
    refine ⟨?_, ?_, ?_⟩
    · rw [show i * 3 + 1 + 1 + 1 = i * 3 + 3 by omega, e]; simpa using this.1
    · rw [show i * 3 + 1 + 1 + 1 + 1 = (i * 3 + 1) + 3 by omega, e]; simpa using this.2.1
    · rw [show i * 3 + 1 + 1 + 1 + 2 = (i * 3 + 2) + 3 by omega, e]; simpa using this.2.2
theorem scells_one (xs : List Wk) : ∀ u ∈ scells xs, u.oneCell' = true := fun u hu => by
  simp only [scells, List.mem_flatMap, List.mem_cons, List.not_mem_nil, or_false] at hu
  obtain ⟨x, _, rfl | rfl | rfl⟩ := hu <;> rfl
theorem Spl.of_own {w : World} {base : Nat} {e : TypeId} {v : Value} {xs : List Wk} (h : w.ownsRow base e 3 v xs.length (scells xs)) (h1 : xs.length ≤ 1000) :
    ∃ a ca, v = .slice a xs.length ca ∧ Spl w a xs ∧ xs.length ≤ ca ∧ (∀ ad, a = some ad → ad = ⟨ad.block, 0, none⟩) := by
  rcases h.2 with ⟨h', h0⟩ | ⟨g, cap, cur, h', hb, hg, hc1, hc2, hs, ht⟩
  · exact ⟨none, 0, by rw [h', h0], ⟨h1, fun i hi => by omega⟩, by omega, fun ad e => by cases e⟩
  · have hgs := (Array.getElem?_eq_some_iff.1 hg).1
    refine ⟨some ⟨g, 0, none⟩, cap, h', ⟨h1, fun i hi => ⟨g, 0, rfl, hgs, ?_⟩⟩, by omega, fun ad e => by cases e; rfl⟩
    rw [h'] at h
    have e1 := World.ownsRow.cellAt h (i * 3) (by omega)
    have e2 := World.ownsRow.cellAt h (i * 3 + 1) (by omega)
    have e3 := World.ownsRow.cellAt h (i * 3 + 2) (by omega)
    obtain ⟨p1, p2, p3⟩ := scells_at xs i hi
    unfold At3
    rw [Nat.zero_add, e1, e2, e3]
    exact ⟨p1, p2, p3⟩

/-- The weeks one after another, and what is owed after them. -/
def wkL (cs : List Cl) : Int → List Int → List Wk
  | _, [] => []
  | L, t :: ts => settledW L cs t :: wkL cs (settledW L cs t).owed ts
def wkO (cs : List Cl) : Int → List Int → Int
  | L, [] => L
  | L, t :: ts => wkO cs (settledW L cs t).owed ts
theorem wkO_app (cs : List Cl) : ∀ (L : Int) (a b : List Int), wkO cs L (a ++ b) = wkO cs (wkO cs L a) b
  | _, [], _ => rfl
  | L, t :: a, b => by simp only [List.cons_append, wkO]; exact wkO_app cs _ a b
theorem wkL_app (cs : List Cl) : ∀ (L : Int) (a b : List Int), wkL cs L (a ++ b) = wkL cs L a ++ wkL cs (wkO cs L a) b
  | _, [], _ => rfl
  | L, t :: a, b => by simp only [List.cons_append, wkO, wkL]; rw [wkL_app cs _ a b]
theorem wkL_len (cs : List Cl) : ∀ (L : Int) (a : List Int), (wkL cs L a).length = a.length
  | _, [] => rfl
  | L, t :: a => by simp only [wkL, List.length_cons]; rw [wkL_len cs _ a]
theorem wkO_rng {cs : List Cl} : ∀ (L : Int) (a : List Int), (∀ x ∈ cs, x.ok) → (0 ≤ L ∧ L ≤ 1000000) → (∀ t ∈ a, 0 ≤ t ∧ t ≤ 1000000) → 0 ≤ wkO cs L a ∧ wkO cs L a ≤ L
  | L, [], _, hL, _ => ⟨hL.1, Int.le_refl _⟩
  | L, t :: a, hc, hL, ha => by
    have ho : Ok cs L t := ⟨hc, hL, ha t (by simp)⟩
    have hf := ho.fin
    have e1 := hf.owed; have e2 := hf.loan; have e3 := hf.rp
    have := wkO_rng (settledW L cs t).owed a hc (by omega) (fun x hx => ha x (by simp [hx]))
    simp only [wkO]
    omega
/-- What is wrong with some weeks. -/
def wkE (cs : List Cl) (L : Int) (ts : List Int) : Int := if shB cs L = false then 90 else if 6 < ts.length then 2 else if ts.all cenB = false then 1 else 0
def wkLs (cs : List Cl) (L : Int) (ts : List Int) : List Wk := if wkE cs L ts = 0 then wkL cs L ts else []
def wkOs (cs : List Cl) (L : Int) (ts : List Int) : Int := if wkE cs L ts = 0 then wkO cs L ts else 0
theorem wkE_zero {cs : List Cl} {L : Int} {ts : List Int} : wkE cs L ts = 0 ↔ shB cs L = true ∧ ts.length ≤ 6 ∧ ts.all cenB = true := by
  unfold wkE
  cases shB cs L
  · simp
  · by_cases h : 6 < ts.length
    · simp [h]; omega
    · cases ts.all cenB
      · simp [h]
      · simp [h]; omega
/-- Weeks and its reference answer so. -/
def WeeksP (f : Nat) (cs : List Cl) (L : Int) (ts : List Int) : Prop := ∀ (ac : Option Addr) (cc : Nat) (a : Option Addr) (c : Nat) (V : World), Clz V ac cs → Ints V a ts → Calls Try.prog f #[.agg #[.slice ac cs.length cc, .int .i64 L], .slice a ts.length c] V fun e w' =>
  ∃ (a2 : Option Addr) (c2 : Nat), e = .returned (.tuple #[.slice a2 (wkLs cs L ts).length c2, .int .i64 (wkOs cs L ts), .int .i64 (wkE cs L ts)]) ∧ Spl w' a2 (wkLs cs L ts) ∧ (wkLs cs L ts).length ≤ c2 ∧ Below V.heap.size V w'
end Go.Proofs.Ythgjjlkdekfdbaa
