import Derived.Test.YtakodllejndfeaaM4
import Derived.Test.YtakodllejndfeaaT24
/-! A copied royal whose sides are changed. -/
namespace Go.Proofs.Ytakodllejndfeaa
set_option linter.unusedSimpArgs false
set_option linter.unusedVariables false
open Go Go.RowKit

/-- The cells of a row of sides in block g, whose parts lie elsewhere, below hi. -/
def WR (V : World) (g hi : Nat) (cs : List Value) (S : List Sd) : Prop := ∀ i s, S[i]? = some s → cs[i * 2]? = some (.int .i64 s.pl) ∧ ∃ (a' : Option Addr) (c' : Nat), cs[i * 2 + 1]? = some (.slice a' s.ps.length c') ∧ Prs V a' s.ps ∧ s.ps.length ≤ 1000 ∧ i64R s.pl ∧ (s.ps ≠ [] → ∀ ad, a' = some ad → ad.block ≠ g ∧ ad.block < hi)
theorem WR.ofS {V : World} {g lo : Nat} {cs : List Value} {S : List Sd} (h : SRow V (some g) lo cs S) : WR V g V.heap.size cs S := fun i s hi => by
  obtain ⟨h0, a', c', h1, h2, h3, h4, h5⟩ := h i s hi
  exact ⟨h0, a', c', h1, h2, h3, h4, fun hn ad e => ⟨fun e2 => (h5 hn ad e).1 (by rw [e2]), (h5 hn ad e).2.1⟩⟩
theorem WR.gro {V V' : World} {g hi : Nat} {r : Option Nat} {cs : List Value} {S : List Sd} (h : WR V g hi cs S) (hg : V.grownBy V' r) (hr : ∀ k, r = some k → k = g ∨ hi ≤ k) : WR V' g hi cs S := fun i s hi => by
  obtain ⟨h0, a', c', h1, h2, h3, h4, h5⟩ := h i s hi
  refine ⟨h0, a', c', h1, h2.gro hg (fun hn ad e hh => ?_), h3, h4, h5⟩
  obtain ⟨h6, h7⟩ := h5 hn ad e
  rcases hr _ hh with h | h
  · exact h6 h
  · omega
theorem WR.move {V : World} {g g' hi : Nat} {cs : List Value} {S : List Sd} (h : WR V g hi cs S) (hg : g' = g ∨ hi ≤ g') : WR V g' hi cs S := fun i s hi => by
  obtain ⟨h0, a', c', h1, h2, h3, h4, h5⟩ := h i s hi
  refine ⟨h0, a', c', h1, h2, h3, h4, fun hn ad e => ?_⟩
  obtain ⟨h6, h7⟩ := h5 hn ad e
  refine ⟨fun e2 => ?_, h7⟩
  rcases hg with h | h
  · exact h6 (e2.trans h)
  · omega
theorem WR.set {V : World} {g hi : Nat} {cs : List Value} {S : List Sd} (h : WR V g hi cs S) (hl : cs.length = S.length * 2) {k : Nat} (hk : k < S.length) {s : Sd} {a' : Option Addr} {c' : Nat} (h2 : Prs V a' s.ps) (h3 : s.ps.length ≤ 1000) (h4 : i64R s.pl) (h5 : s.ps ≠ [] → ∀ ad, a' = some ad → ad.block ≠ g ∧ ad.block < hi) :
    WR V g hi ((cs.set (k * 2) (.int .i64 s.pl)).set (k * 2 + 1) (.slice a' s.ps.length c')) (S.set k s) := fun i t hi' => by
  rw [List.getElem?_set] at hi'
  by_cases e : k = i
  · subst e
    rw [if_pos rfl, if_pos hk] at hi'
    cases hi'
    refine ⟨?_, a', c', ?_, h2, h3, h4, h5⟩
    · rw [List.getElem?_set_ne (by omega), List.getElem?_set_self (by omega)]
    · rw [List.getElem?_set_self (by rw [List.length_set]; omega)]
  · rw [if_neg e] at hi'
    rw [List.getElem?_set_ne (by omega), List.getElem?_set_ne (by omega), List.getElem?_set_ne (by omega), List.getElem?_set_ne (by omega)]
    exact h i t hi'
theorem WR.snoc {V : World} {g hi : Nat} {cs : List Value} {S : List Sd} (h : WR V g hi cs S) (hl : cs.length = S.length * 2) {s : Sd} {a' : Option Addr} {c' : Nat} (h2 : Prs V a' s.ps) (h3 : s.ps.length ≤ 1000) (h4 : i64R s.pl) (h5 : s.ps ≠ [] → ∀ ad, a' = some ad → ad.block ≠ g ∧ ad.block < hi) :
    WR V g hi (cs ++ [.int .i64 s.pl, .slice a' s.ps.length c']) (S ++ [s]) := fun i t hi' => by
  rcases Nat.lt_or_ge i S.length with hlt | hge
  · rw [List.getElem?_append_left hlt] at hi'
    rw [List.getElem?_append_left (by omega), List.getElem?_append_left (by omega)]
    exact h i t hi'
  · rw [List.getElem?_append_right hge] at hi'
    have h0 : i - S.length = 0 := by
      rcases Nat.eq_zero_or_pos (i - S.length) with h0 | h0
      · exact h0
      · rw [List.getElem?_eq_none (by simp; omega)] at hi'; cases hi'
    have hi2 : i = S.length := by omega
    subst hi2
    rw [Nat.sub_self] at hi'
    cases hi'
    rw [List.getElem?_append_right (by omega), List.getElem?_append_right (by omega), show S.length * 2 - cs.length = 0 by omega, show S.length * 2 + 1 - cs.length = 1 by omega]
    exact ⟨rfl, a', c', rfl, h2, h3, h4, h5⟩
theorem WR.sds {V : World} {g hi : Nat} {cs : List Value} {S : List Sd} {base c : Nat} (h : WR V g hi cs S) (ho : V.ownsRow base 39 2 (.slice (some ⟨g, 0, none⟩) S.length c) S.length cs) (hl : S.length ≤ 1000) : Sds V (some ⟨g, 0, none⟩) S := by
  refine ⟨hl, fun i hi' => ?_⟩
  obtain ⟨h0, a', c', h1, h2, h3, h4, _⟩ := h i _ (get_of_lt sd0 hi')
  exact ⟨g, 0, rfl, (ho.lt g rfl).2, a', c', by rw [Nat.zero_add]; exact own_cell ho _ h0, by rw [Nat.zero_add]; exact own_cell ho _ h1, h2, h3, h4⟩

/-- A copy of a royal whose sides are changed: they lie in block g. -/
structure CuM (V : World) (B g hi : Nat) (b : Option Addr) (c d : Nat) (S : List Sd) (O : List Int) : Prop where
  ex : ∃ cs, V.ownsRow B 39 2 (.slice (some ⟨g, 0, none⟩) S.length c) S.length cs ∧ WR V g hi cs S
  ow : Ints V b O
  own : O ≠ [] → ∀ ad, b = some ad → ad.block ≠ g ∧ ad.block < hi
  hi : hi ≤ V.heap.size
theorem CuM.ofC {V : World} {B lo : Nat} {a b : Option Addr} {c d : Nat} {S : List Sd} {O : List Int} (h : CpM V B lo a b c d S O) (hn : 0 < S.length) : ∃ g, a = some ⟨g, 0, none⟩ ∧ B ≤ g ∧ CuM V B g V.heap.size b c d S O := by
  obtain ⟨cs, h1, h2, h3⟩ := h.ex
  obtain ⟨g, cap, e⟩ := Go.Joins.ownsRow_form h1 hn
  simp only [Value.slice.injEq] at e
  obtain ⟨rfl, _, rfl⟩ := e
  exact ⟨g, rfl, own_ge2 h1 g rfl, ⟨cs, h1, WR.ofS h2⟩, h3.1, fun hne ad e => ⟨fun e2 => (h3.2 hne ad e).1 (by rw [e2]; rfl), (h3.2 hne ad e).2.1⟩, Nat.le_refl _⟩
theorem ints_gro {V V' : World} {r : Option Nat} {b : Option Addr} {O : List Int} (h : Ints V b O) (hg : V.grownBy V' r) (hne : O ≠ [] → ∀ ad, b = some ad → r ≠ some ad.block) : Ints V' b O := by
  by_cases hn : O = []
  · subst hn; exact Ints.nil _ _
  · exact h.gro hg (hne hn)
theorem CuM.gro {V V' : World} {B g hi : Nat} {b : Option Addr} {c d : Nat} {S : List Sd} {O : List Int} {r : Option Nat} (h : CuM V B g hi b c d S O) (hg : V.grownBy V' r) (hr : ∀ k, r = some k → k ≠ g ∧ hi ≤ k) : CuM V' B g hi b c d S O := by
  obtain ⟨cs, h1, h2⟩ := h.ex
  refine ⟨⟨cs, own_keep h1 hg (fun k hk e => ?_), h2.gro hg (fun k hk => .inr (hr k hk).2)⟩, ints_gro h.ow hg (fun hne ad e e2 => ?_), h.own, Nat.le_trans h.hi hg.size⟩
  · have h3 := (hr k e).1
    simp [Value.ownBlock] at hk
    omega
  · have h3 := (hr _ e2).2
    have h4 := (h.own hne ad e).2
    omega
theorem CuM.below {V V' : World} {B g hi : Nat} {b : Option Addr} {c d : Nat} {S : List Sd} {O : List Int} (h : CuM V B g hi b c d S O) (hb : Below V.heap.size V V') : CuM V' B g hi b c d S O := h.gro (r := none) (Below.grN hb none) (fun k hk => by cases hk)
theorem CuM.ry {V : World} {B g hi : Nat} {b : Option Addr} {c d : Nat} {S : List Sd} {O : List Int} (h : CuM V B g hi b c d S O) (hl : S.length ≤ 1000) (ho : O.length ≤ 1000) {p : Int} (hp : i64R p) : Ry V (some ⟨g, 0, none⟩) b p S O := by
  obtain ⟨cs, h1, h2⟩ := h.ex
  exact ⟨h2.sds h1 hl, h.ow, ho, hp⟩
/-- A whole side is stored. -/
theorem CuM.setSd {V : World} {B g hi : Nat} {b : Option Addr} {c d : Nat} {S : List Sd} {O : List Int} (h : CuM V B g hi b c d S O) {k : Nat} (hk : k < S.length) {s : Sd} {a' : Option Addr} {c' : Nat} (h2 : Prs V a' s.ps) (h3 : s.ps.length ≤ 1000) (h4 : i64R s.pl) (h5 : s.ps ≠ [] → ∀ ad, a' = some ad → ad.block ≠ g ∧ ad.block < hi) :
    (∃ v, V.cell? ⟨g, k * 2, none⟩ = some v) ∧ V.frozen? ⟨g, k * 2, none⟩ = false ∧ (∃ v, (V.setCell ⟨g, k * 2, none⟩ (.int .i64 s.pl)).cell? ⟨g, k * 2 + 1, none⟩ = some v) ∧ (V.setCell ⟨g, k * 2, none⟩ (.int .i64 s.pl)).frozen? ⟨g, k * 2 + 1, none⟩ = false ∧
    CuM ((V.setCell ⟨g, k * 2, none⟩ (.int .i64 s.pl)).setCell ⟨g, k * 2 + 1, none⟩ (.slice a' s.ps.length c')) B g hi b c d (S.set k s) O := by
  obtain ⟨cs, h1, hw⟩ := h.ex
  obtain ⟨q0, _, _, q1, _⟩ := hw k _ (get_of_lt sd0 hk)
  have hl : cs.length = S.length * 2 := h1.1
  have z1 := own_set h1 (j := k * 2) (v := .int .i64 s.pl) (by omega)
  have z2 := own_set z1 (j := k * 2 + 1) (v := .slice a' s.ps.length c') (by omega)
  have hg1 := gsetR V ⟨g, k * 2, none⟩ (.int .i64 s.pl)
  have hg2 := gsetR (V.setCell ⟨g, k * 2, none⟩ (.int .i64 s.pl)) ⟨g, k * 2 + 1, none⟩ (.slice a' s.ps.length c')
  have hg : V.grownBy ((V.setCell ⟨g, k * 2, none⟩ (.int .i64 s.pl)).setCell ⟨g, k * 2 + 1, none⟩ (.slice a' s.ps.length c')) (some g) := hg1.trans hg2
  have h2' : Prs ((V.setCell ⟨g, k * 2, none⟩ (.int .i64 s.pl)).setCell ⟨g, k * 2 + 1, none⟩ (.slice a' s.ps.length c')) a' s.ps := h2.gro hg (fun hn ad e hh => by
    injection hh with hh
    exact (h5 hn ad e).1 hh.symm)
  refine ⟨⟨_, own_cell h1 _ q0⟩, own_free h1 _, ⟨_, own_cell z1 _ (by rw [List.getElem?_set_ne (by omega)]; exact q1)⟩, own_free z1 _, ⟨⟨_, by rw [List.length_set]; exact z2, (hw.gro hg (fun k hk => .inl (by injection hk with hk; exact hk.symm))).set hl hk h2' h3 h4 h5⟩, ints_gro h.ow hg (fun hne ad e e2 => ?_), h.own, Nat.le_trans h.hi hg.size⟩⟩
  injection e2 with e2
  exact (h.own hne ad e).1 e2.symm
end Go.Proofs.Ytakodllejndfeaa
