import Derived.Test.YtakodllejndfeaaT29
import Derived.Test.YtakodllejndfeaaT11
import Derived.Test.YtakodllejndfeaaT13
/-! RoyaltiesCut: what is the same of the sides in another order, and of a side that is cut in two; the stores. -/
namespace Go.Proofs.Ytakodllejndfeaa
set_option linter.unusedSimpArgs false
set_option linter.unusedVariables false
open Go Go.RowKit

/-- Two lists of sides of which each writer has the same. -/
structure SameS (S T : List Sd) : Prop where
  cl : ∀ w, clS T w = clS S w
  al : alS T = alS S
theorem SameS.clL {S T : List Sd} (h : SameS S T) (n : Nat) : clL T n = clL S n := by
  unfold Go.Proofs.Ytakodllejndfeaa.clL
  exact List.map_congr_left fun i _ => h.cl _
theorem SameS.ask {S T : List Sd} (h : SameS S T) {p : Int} {O : List Int} (hS : vB p S O = true) (hT : vB p T O = true) (o : Bool) : askE p T O o = askE p S O o := by
  unfold askE; rw [hS, hT, h.al]
theorem SameS.sh {S T : List Sd} (h : SameS S T) {p : Int} {O : List Int} (hS : vB p S O = true) (hT : vB p T O = true) : shR p T O = shR p S O := by
  unfold shR
  rw [h.ask hS hT, h.clL, h.al]
theorem SameS.exN {S T : List Sd} (h : SameS S T) (p who : Int) : exN p T who = exN p S who := by
  unfold Go.Proofs.Ytakodllejndfeaa.exN; rw [h.cl]
theorem SameS.exD {S T : List Sd} (h : SameS S T) : exD T = exD S := by
  unfold Go.Proofs.Ytakodllejndfeaa.exD; rw [h.al]
theorem SameS.exU {S T : List Sd} (h : SameS S T) {p : Int} {O : List Int} (hS : vB p S O = true) (hT : vB p T O = true) (who : Int) : exU p T O who = exU p S O who := by
  unfold Go.Proofs.Ytakodllejndfeaa.exU
  rw [h.ask hS hT, h.exN, h.exD]
theorem SameS.exL {S T : List Sd} (h : SameS S T) {p : Int} {O : List Int} (hS : vB p S O = true) (hT : vB p T O = true) (who : Int) : exL p T O who = exL p S O who := by
  unfold Go.Proofs.Ytakodllejndfeaa.exL
  rw [h.ask hS hT, h.exN, h.exD]
theorem rot_same (S : List Sd) (b : Nat) : SameS S (rotL S b) := ⟨fun w => rot_cl S b w, rot_al S b⟩
theorem cut_same {S : List Sd} {i : Nat} {s : Sd} (h : S[i]? = some s) (off : Int) : SameS S (cutL S i s off) := ⟨fun w => cut_cl h off w, cut_al h off⟩
theorem rot_lost {p : Int} {S : List Sd} {O : List Int} (hS : vB p S O = true) (b : Nat) : lostV p (rotL S b) O = lostV p S O := by
  unfold lostV
  rw [(rot_same S b).ask hS (rot_vB hS b), rot_al, rot_alone]
/-- What is lost: between 0 and the Pool; of a side cut in two, no less. -/
theorem lost_rng {p : Int} {S : List Sd} {O : List Int} (hV : VOk p S O) (ha : 0 < alS S) (hE : askE p S O true = 0) : lostV p S O ≤ p := by
  rw [lostV_ok hE]
  have := (aloneS_rng hV ha S.length).1
  rw [List.take_length] at this
  omega
theorem cut_lost {p : Int} {S : List Sd} {O : List Int} (hS : vB p S O = true) {i : Nat} {s : Sd} (hi : S[i]? = some s) {off : Int} (hT : vB p (cutL S i s off) O = true) : lostV p S O ≤ lostV p (cutL S i s off) O := by
  have hV := vB_ok hS
  have hs := hV.sd s (List.mem_of_getElem? hi)
  unfold lostV
  rw [(cut_same hi off).ask hS hT]
  by_cases h : askE p S O true = 0
  · rw [if_pos h, if_pos h, cut_al hi]
    have hal := VOk.al hV
    have hne := (askE_0 h).2.2
    have := alone_cut (p := p) (show 0 < alS S by omega) hi hs.pct off
    omega
  · rw [if_neg h, if_neg h]; exact Int.le_refl _
/-- The sides when the first k are those of the other order. -/
def midL (S : List Sd) (b k : Nat) : List Sd := (rotL S b).take k ++ S.drop k
theorem mid_zero (S : List Sd) (b : Nat) : midL S b 0 = S := by simp [midL]
theorem mid_len (S : List Sd) (b : Nat) {k : Nat} (hk : k ≤ S.length) : (midL S b k).length = S.length := by
  unfold midL
  rw [List.length_append, List.length_take, List.length_drop, rot_len]; omega
theorem mid_end (S : List Sd) (b : Nat) : midL S b S.length = rotL S b := by
  unfold midL
  rw [List.drop_length, List.append_nil, ← rot_len S b, List.take_length]
theorem mid_set (S : List Sd) (b : Nat) {k : Nat} (hk : k < S.length) {s : Sd} (hs : S[(k + b) % S.length]? = some s) : (midL S b k).set k s = midL S b (k + 1) := by
  have hr : (rotL S b)[k]? = some s := by rw [rot_at S b hk]; exact hs
  have hl := rot_len S b
  unfold midL
  rw [take_snoc hr, List.append_assoc]
  have e : k = ((rotL S b).take k).length := by rw [List.length_take]; omega
  have hd : S.drop k = S[k] :: S.drop (k + 1) := List.drop_eq_getElem_cons hk
  rw [hd]
  conv => lhs; arg 2; rw [e]
  rw [List.set_append_right _ _ (Nat.le_refl _), Nat.sub_self]
  rfl
theorem prs_lt {w : World} {a : Option Addr} {xs : List (Int × Int)} (h : Prs w a xs) (hn : xs ≠ []) : ∀ ad, a = some ad → ad.block < w.heap.size := fun ad e => by
  have h0 : 0 < xs.length := List.length_pos_iff.2 hn
  obtain ⟨b, off, x, y, e2, hb, _⟩ := h.at h0
  rw [e] at e2
  cases e2
  exact hb
/-- The plays of a side are stored. -/
theorem CuM.setPl {V : World} {B g hi : Nat} {b : Option Addr} {c d : Nat} {S : List Sd} {O : List Int} (h : CuM V B g hi b c d S O) {k : Nat} {s : Sd} (hk : S[k]? = some s) {x : Int} (hx : i64R x) :
    V.cell? ⟨g, k * 2, none⟩ = some (.int .i64 s.pl) ∧ V.frozen? ⟨g, k * 2, none⟩ = false ∧ CuM (V.setCell ⟨g, k * 2, none⟩ (.int .i64 x)) B g hi b c d (S.set k ⟨x, s.ps⟩) O := by
  obtain ⟨cs, h1, hw⟩ := h.ex
  have hlt : k < S.length := (List.getElem?_eq_some_iff.1 hk).1
  obtain ⟨q0, a', c', q1, hP, hl1, _, hown⟩ := hw k s hk
  have hl : cs.length = S.length * 2 := h1.1
  have z1 := own_set h1 (j := k * 2) (v := .int .i64 x) (by omega)
  have hg := gsetR V ⟨g, k * 2, none⟩ (.int .i64 x)
  have hP' : Prs (V.setCell ⟨g, k * 2, none⟩ (.int .i64 x)) a' s.ps := hP.gro hg (fun hn ad e hh => by
    injection hh with hh
    exact (hown hn ad e).1 hh.symm)
  have hw2 := (hw.gro hg (fun k hk => .inl (by injection hk with hk; exact hk.symm))).set (s := ⟨x, s.ps⟩) (c' := c') hl hlt hP' hl1 hx hown
  have e2 : (cs.set (k * 2) (.int .i64 x)).set (k * 2 + 1) (.slice a' s.ps.length c') = cs.set (k * 2) (.int .i64 x) := by
    apply List.ext_getElem?
    intro j
    by_cases e : k * 2 + 1 = j
    · subst e
      rw [List.getElem?_set_self (by rw [List.length_set]; omega), List.getElem?_set_ne (by omega), q1]
    · rw [List.getElem?_set_ne e]
  simp only at hw2
  rw [e2] at hw2
  refine ⟨own_cell h1 _ q0, own_free h1 _, ⟨⟨_, by rw [List.length_set]; exact z1, hw2⟩, ints_gro h.ow hg (fun hne ad e e2 => ?_), h.own, Nat.le_trans h.hi hg.size⟩⟩
  injection e2 with e2
  exact (h.own hne ad e).1 e2.symm
end Go.Proofs.Ytakodllejndfeaa
