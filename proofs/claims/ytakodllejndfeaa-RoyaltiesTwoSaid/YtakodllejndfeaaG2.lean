import Derived.Test.YtakodllejndfeaaM1
/-! Royals in memory. -/
namespace Go.Proofs.Ytakodllejndfeaa
set_option linter.unusedSimpArgs false
set_option linter.unusedVariables false
open Go.RowKit

def i64R (x : Int) : Prop := -9223372036854775808 ≤ x ∧ x ≤ 9223372036854775807
theorem getD_of {α : Type} {l : List α} {i : Nat} {d x : α} (h : l[i]? = some x) : l.getD i d = x := by rw [List.getD_eq_getElem?_getD, h]; rfl
theorem get_of_lt {α : Type} {l : List α} {i : Nat} (d : α) (h : i < l.length) : l[i]? = some (l.getD i d) := by rw [List.getD_eq_getElem?_getD, List.getElem?_eq_getElem h]; rfl
/-- A side in memory, at an address. -/
def SdAt (w : World) (b o : Nat) (s : Sd) : Prop :=
  ∃ (a' : Option Addr) (c : Nat), w.cell? ⟨b, o, none⟩ = some (.int .i64 s.pl) ∧ w.cell? ⟨b, o + 1, none⟩ = some (.slice a' s.ps.length c) ∧ Prs w a' s.ps ∧ s.ps.length ≤ 1000 ∧ i64R s.pl
/-- A slice that reads as sides. -/
def Sds (w : World) (a : Option Addr) (S : List Sd) : Prop :=
  S.length ≤ 1000 ∧ ∀ i, i < S.length → ∃ b off, a = some ⟨b, off, none⟩ ∧ b < w.heap.size ∧ SdAt w b (off + i * 2) (S.getD i sd0)
theorem SdAt.below {w w' : World} {b o : Nat} {s : Sd} (h : SdAt w b o s) {B : Nat} (hb : Below B w w') (hB : w.heap.size ≤ B) : SdAt w' b o s := by
  obtain ⟨a', c, h1, h2, h3, h4, h5⟩ := h
  have l1 := cell_lt h1
  exact ⟨a', c, by rw [hb.cell (p := ⟨b, o, none⟩) (by show b < B; simp at l1; omega)]; exact h1, by rw [hb.cell (p := ⟨b, o + 1, none⟩) (by show b < B; simp at l1; omega)]; exact h2, h3.below hb hB, h4, h5⟩
theorem Sds.below {w w' : World} {a : Option Addr} {S : List Sd} (h : Sds w a S) {B : Nat} (hb : Below B w w') (hB : w.heap.size ≤ B) : Sds w' a S :=
  ⟨h.1, fun i hi => by
    obtain ⟨b, off, h1, h2, h3⟩ := h.2 i hi
    have hs := hb.size
    exact ⟨b, off, h1, by omega, h3.below hb hB⟩⟩
theorem Sds.len {w : World} {a : Option Addr} {S : List Sd} (h : Sds w a S) : S.length ≤ 1000 := h.1
theorem Sds.at {w : World} {a : Option Addr} {S : List Sd} (h : Sds w a S) {k : Nat} (hk : k < S.length) :
    ∃ (b off : Nat) (s : Sd) (a' : Option Addr) (c : Nat), a = some ⟨b, off, none⟩ ∧ b < w.heap.size ∧ w.cell? ⟨b, off + k * 2, none⟩ = some (.int .i64 s.pl) ∧ w.cell? ⟨b, off + k * 2 + 1, none⟩ = some (.slice a' s.ps.length c) ∧ Prs w a' s.ps ∧ s.ps.length ≤ 1000 ∧ i64R s.pl ∧ s ∈ S ∧ Hid (S[k]? = some s) := by
  obtain ⟨b, off, h1, h2, a', c, h3, h4, h5, h6, h7⟩ := h.2 k hk
  have hg := get_of_lt sd0 hk
  exact ⟨b, off, S.getD k sd0, a', c, h1, h2, h3, h4, h5, h6, h7, List.mem_of_getElem? hg, hid hg⟩
/-- A royal in memory. -/
structure Ry (w : World) (aS aO : Option Addr) (p : Int) (S : List Sd) (O : List Int) : Prop where
  sd : Sds w aS S
  ow : Ints w aO O
  ol : O.length ≤ 1000
  pr : i64R p
theorem Ry.below {w w' : World} {aS aO : Option Addr} {p : Int} {S : List Sd} {O : List Int} (h : Ry w aS aO p S O) {B : Nat} (hb : Below B w w') (hB : w.heap.size ≤ B) : Ry w' aS aO p S O := ⟨h.sd.below hb hB, h.ow.below hb hB, h.ol, h.pr⟩
end Go.Proofs.Ytakodllejndfeaa
