import Derived.Test.YtmpihcencnkpbaaTY
import Derived.Test.YtmpihcencnkpbaaTW
import Derived.Test.YtmpihcencnkpbaaTG
/-! What the reference answers is what the program answers: its sets come in another order. -/
namespace Go.Proofs.Ytmpihcencnkpbaa
set_option linter.unusedSimpArgs false
set_option linter.unusedVariables false
open Go Go.RowKit

/-- The reference's sets that explain. -/
def xpR (L N : Int) (P : List F3) (m : Nat) : List (List F3) := (rsL m [] (allF L N)).filter fun s => exB N s P
theorem exR_perm {L N F : Int} (hL : 1 ≤ L ∧ L ≤ 5) (hN : 1 ≤ N ∧ N ≤ 5) (P : List F3) : (xpR L N P F.toNat).Perm (truL L N P F) := (rs_perm hL hN _).filter _
theorem exR_mem {L N : Int} (hL : 1 ≤ L ∧ L ≤ 5) (hN : 1 ≤ N ∧ N ≤ 5) {P : List F3} {m : Nat} {s : List F3} : s ∈ xpR L N P m ↔ s ∈ setsL L N m ∧ exB N s P = true := by
  unfold xpR
  rw [List.mem_filter, rs_mem hL hN]
theorem set_nodup {L N : Int} {s : List F3} (h : setB L N s = true) : s.Nodup := (setB_iff.1 h).2.imp fun {a b} hab e => by
  subst e
  exact cmpF_asymm (offB_iff.1 hab).1 (offB_iff.1 hab).1
theorem cntH_flat {f : F3} : ∀ {T : List (List F3)}, (∀ s ∈ T, s.Nodup) → T.flatten.count f = cntH f T
  | [], _ => rfl
  | s :: T, h => by
    have h1 := cntH_flat (f := f) (T := T) (fun t ht => h t (List.mem_cons_of_mem _ ht))
    have h2 := List.nodup_iff_count.1 (h s List.mem_cons_self) f
    rw [List.flatten_cons, List.count_append, h1]
    unfold cntH hasF
    rw [List.filter_cons]
    by_cases hm : f ∈ s
    · have h3 := List.count_pos_iff.2 hm
      rw [if_pos (by simpa using hm), List.length_cons]; omega
    · rw [if_neg (by simpa using hm), List.count_eq_zero.2 hm]; omega
theorem cntH_perm {f : F3} {T T' : List (List F3)} (h : T.Perm T') : cntH f T = cntH f T' := (h.filter _).length_eq
theorem plL_perm {N l n : Int} {T T' : List (List F3)} (h : T.Perm T') : (plL N T l n).Perm (plL N T' l n) := h.map _
theorem mxL_perm {l l' : List Int} (h : l.Perm l') : mxL l = mxL l' := by
  refine mxL_eq (fun x hx => ?_) ?_
  · rw [← h.count_eq x]; exact mxL_ge' l x
  · rcases mxL_at l with e | ⟨x, hx, e⟩
    · exact .inl e
    · exact .inr ⟨x, (h.mem_iff).1 hx, by rw [← h.count_eq x]; exact e⟩
theorem shV_perm {Q Q' : List Int} (h : Q.Perm Q') : shV Q = shV Q' := by
  unfold shV
  congr 1
  funext v
  simp only [h.mem_iff]
theorem nxIn_perm {N : Int} {T T' : List (List F3)} (h : T.Perm T') (i : Nat) : ∀ (j : Nat) (st : Int × Int × Nat), nxIn N T i j st = nxIn N T' i j st
  | 0, st => rfl
  | j + 1, st => by rw [nxIn, nxIn, nxIn_perm h i j st, nxS, nxS, mxL_perm (plL_perm h)]
theorem nxO_perm {N : Int} {T T' : List (List F3)} (h : T.Perm T') : ∀ i, nxO N T i = nxO N T' i
  | 0 => by rw [nxO, nxO, h.length_eq]
  | i + 1 => by rw [nxO, nxO, nxO_perm h i, nxIn_perm h]
/-- How often each selection is played. -/
def tlV (K : Nat) (Q : List Int) : List Int := (List.range (K + 1)).map fun (i : Nat) => ((Q.count ((i : Int) - 1) : Nat) : Int)
theorem tlV_len (K : Nat) (Q : List Int) : (tlV K Q).length = K + 1 := by simp [tlV]
theorem tlV_get {K : Nat} {Q : List Int} {i : Nat} (h : i < K + 1) : (tlV K Q)[i]? = some ((Q.count ((i : Int) - 1) : Nat) : Int) := by simp [tlV, h]
theorem foldmax_ge : ∀ (xs : List Int) (a : Int), a ≤ xs.foldl max a ∧ ∀ x ∈ xs, x ≤ xs.foldl max a
  | [], a => ⟨Int.le_refl _, fun x hx => by simp at hx⟩
  | y :: xs, a => by
    obtain ⟨h1, h2⟩ := foldmax_ge xs (max a y)
    rw [List.foldl_cons]
    refine ⟨by omega, fun x hx => ?_⟩
    rcases List.mem_cons.1 hx with e | e
    · rw [e]; omega
    · exact h2 x e
theorem foldmax_at : ∀ (xs : List Int) (a : Int), xs.foldl max a = a ∨ xs.foldl max a ∈ xs
  | [], a => .inl rfl
  | y :: xs, a => by
    rw [List.foldl_cons]
    rcases foldmax_at xs (max a y) with e | e
    · rw [e]
      rcases Int.le_total a y with h | h
      · right; rw [Int.max_eq_right h]; exact List.mem_cons_self
      · left; rw [Int.max_eq_left h]
    · exact .inr (List.mem_cons_of_mem _ e)
theorem mxI_tl {K : Nat} {Q : List Int} (hr : ∀ x ∈ Q, -1 ≤ x ∧ x < (K : Int)) : mxI (tlV K Q) = (mxL Q : Nat) := by
  obtain ⟨h1, h2⟩ := foldmax_ge (tlV K Q) 0
  have hge : ∀ x ∈ Q, ((Q.count x : Nat) : Int) ≤ mxI (tlV K Q) := fun x hx => by
    obtain ⟨a, b⟩ := hr x hx
    have hg := tlV_get (K := K) (Q := Q) (i := (x + 1).toNat) (by omega)
    rw [show (((x + 1).toNat : Nat) : Int) - 1 = x by omega] at hg
    exact h2 _ (List.mem_of_getElem? hg)
  have hm : mxL Q = (mxI (tlV K Q)).toNat := (mxL_eq (m := (mxI (tlV K Q)).toNat) (fun x hx => by have := hge x hx; omega) (by
    rcases foldmax_at (tlV K Q) 0 with e | e
    · left; show (mxI _).toNat = 0; rw [mxI, e]; rfl
    · obtain ⟨i, hi, e2⟩ := List.mem_map.1 e
      rcases Nat.eq_zero_or_pos (mxI (tlV K Q)).toNat with e0 | e0
      · exact .inl e0
      · right
        have e3 : ((Q.count ((i : Int) - 1) : Nat) : Int) = mxI (tlV K Q) := e2
        exact ⟨(i : Int) - 1, List.count_pos_iff.1 (by omega), by omega⟩)).symm
  have h0 : 0 ≤ mxI (tlV K Q) := h1
  omega
/-- The selections that are played at all, in order. -/
def shT (K j : Nat) (Q : List Int) : List Int := ((List.range j).filter fun (i : Nat) => decide (0 < Q.count ((i : Int) - 1))).map fun (i : Nat) => (i : Int) - 1
theorem shT_succ (K j : Nat) (Q : List Int) : shT K (j + 1) Q = shT K j Q ++ (if 0 < Q.count ((j : Int) - 1) then [(j : Int) - 1] else []) := by
  unfold shT
  rw [List.range_succ, List.filter_append, List.map_append]
  congr 1
  by_cases h : 0 < Q.count ((j : Int) - 1)
  · rw [if_pos h, List.filter_cons, if_pos (by simpa using h)]; rfl
  · rw [if_neg h, List.filter_cons, if_neg (by simpa using h)]; rfl
theorem shT_all {K : Nat} (hK : K ≤ 25) {Q : List Int} (hr : ∀ x ∈ Q, -1 ≤ x ∧ x < (K : Int)) : shT K (K + 1) Q = shV Q := by
  refine eq_rising ?_ (shV_rising Q) fun x => ?_
  · unfold shT
    rw [List.pairwise_map]
    exact ((List.pairwise_lt_range (n := K + 1)).filter _).imp fun {a b} h => by omega
  · rw [shV_mem]
    simp only [shT, List.mem_map, List.mem_filter, List.mem_range, decide_eq_true_eq, List.count_pos_iff]
    constructor
    · rintro ⟨i, ⟨h1, h2⟩, rfl⟩
      exact ⟨h2, by omega, by omega⟩
    · rintro ⟨h1, h2, h3⟩
      obtain ⟨a, b⟩ := hr x h1
      exact ⟨(x + 1).toNat, ⟨by omega, by rw [show (((x + 1).toNat : Nat) : Int) - 1 = x by omega]; exact h1⟩, by omega⟩
/-- The least length of some lists, at most so much. -/
def mnL (n : Nat) (T : List (List F3)) : Nat := T.foldl (fun m s => min m s.length) n
theorem mnL_snoc (n : Nat) (T : List (List F3)) (s : List F3) : mnL n (T ++ [s]) = min (mnL n T) s.length := by simp [mnL, List.foldl_append]
theorem mnL_eq : ∀ {T : List (List F3)} {n k : Nat}, k ≤ n → (∀ s ∈ T, k ≤ s.length) → (n = k ∨ ∃ s ∈ T, s.length = k) → mnL n T = k
  | [], n, k, h1, _, h3 => by
    rcases h3 with e | ⟨s, hs, _⟩
    · exact e
    · simp at hs
  | s :: T, n, k, h1, h2, h3 => by
    have hs := h2 s List.mem_cons_self
    show mnL (min n s.length) T = k
    refine mnL_eq (by omega) (fun t ht => h2 t (List.mem_cons_of_mem _ ht)) ?_
    rcases h3 with e | ⟨t, ht, e⟩
    · left; omega
    · rcases List.mem_cons.1 ht with e2 | e2
      · subst e2; left; omega
      · exact .inr ⟨t, e2, e⟩
theorem fw_eq {L N : Int} (hL : 1 ≤ L ∧ L ≤ 5) (hN : 1 ≤ N ∧ N ≤ 5) (P : List F3) : (xpR L N P 3 = [] ∧ fwS L N P = none) ∨ (∃ s u, fwS L N P = some s ∧ (xpR L N P 3)[0]? = some u ∧ mnL u.length (xpR L N P 3) = s.length) := by
  cases hf : fwS L N P with
  | none =>
    left
    refine ⟨List.eq_nil_iff_forall_not_mem.2 fun s hs => ?_, rfl⟩
    obtain ⟨h1, h2⟩ := (exR_mem hL hN).1 hs
    have := List.find?_eq_none.1 hf s h1
    exact this h2
  | some s =>
    right
    have hm := List.mem_of_find?_eq_some hf
    have hs := List.find?_some hf
    have hin : s ∈ xpR L N P 3 := (exR_mem hL hN).2 ⟨hm, hs⟩
    have hle : ∀ t ∈ xpR L N P 3, s.length ≤ t.length := fun t ht => by
      obtain ⟨h1, h2⟩ := (exR_mem hL hN).1 ht
      exact find_min (setsL_sorted hL hN 3) hf h1 h2
    cases hX : xpR L N P 3 with
    | nil => rw [hX] at hin; simp at hin
    | cons u X =>
      rw [hX] at hle hin
      exact ⟨s, u, rfl, rfl, mnL_eq (hle u List.mem_cons_self) hle (.inr ⟨s, hin, rfl⟩)⟩
theorem ex_some {L N : Int} (hL : 1 ≤ L ∧ L ≤ 5) (hN : 1 ≤ N ∧ N ≤ 5) (P : List F3) (m : Nat) : exSome N (setsL L N m) P = !(xpR L N P m).isEmpty := by
  unfold exSome
  rw [Bool.eq_iff_iff, List.any_eq_true]
  simp only [Bool.not_eq_true', List.isEmpty_eq_false_iff]
  constructor
  · rintro ⟨s, h1, h2⟩ e
    have : s ∈ xpR L N P m := (exR_mem hL hN).2 ⟨h1, h2⟩
    rw [e] at this; simp at this
  · intro h
    obtain ⟨s, hs⟩ := List.exists_mem_of_ne_nil _ h
    obtain ⟨h1, h2⟩ := (exR_mem hL hN).1 hs
    exact ⟨s, h1, h2⟩
theorem tru_nil {L N F : Int} {P : List F3} (hL : 1 ≤ L ∧ L ≤ 5) (hN : 1 ≤ N ∧ N ≤ 5) : xpR L N P F.toNat = [] ↔ truL L N P F = [] := by
  have h := exR_perm hL hN P (F := F)
  constructor
  · intro e; rw [e] at h; exact h.symm.eq_nil
  · intro e; rw [e] at h; exact h.eq_nil
theorem ctL_eq {L N F : Int} {P : List F3} (hL : 1 ≤ L ∧ L ≤ 5) (hN : 1 ≤ N ∧ N ≤ 5) (so : Nat → Nat → Bool) : ctL so L N (truL L N P F) = (allF L N).filter fun f => so (cntH f (xpR L N P F.toNat)) (xpR L N P F.toNat).length := by
  unfold ctL
  congr 1
  funext f
  rw [cntH_flat (fun s hs => set_nodup ((truL_mem hL hN).1 hs).1.1), ← (exR_perm hL hN P (F := F)).length_eq, ← cntH_perm (exR_perm hL hN P (F := F))]
end Go.Proofs.Ytmpihcencnkpbaa
