import Derived.Test.YtipdohpbilabiaaWD
import Derived.Test.YtipdohpbilabiaaM5
import Derived.Test.YtipdohpbilabiaaM6
import Derived.Test.YtipdohpbilabiaaNC
/-! Boxes the other way round: all that is asked for is the same. -/
namespace Go.Proofs.Ytipdohpbilabiaa
set_option linter.unusedSimpArgs false
set_option linter.unusedVariables false
open Go Go.RowKit

/-- The other end's place. -/
def mI (n k : Nat) : Nat := if k < n then n - 1 - k else k
theorem mI_lt {n k : Nat} (hn : n ≤ 3) (hk : k < 3) : mI n k < 3 := by unfold mI; split <;> omega
theorem mI_mI (n k : Nat) : mI n (mI n k) = k := by
  unfold mI
  by_cases h : k < n
  · rw [if_pos h, if_pos (by omega)]; omega
  · rw [if_neg h, if_neg h]
theorem mI_in {n k : Nat} (hk : k < n) : mI n k = n - 1 - k := by unfold mI; rw [if_pos hk]
def mirP (n : Nat) (p : Pl) : Pl := ⟨p.get (mI n 0), p.get (mI n 1), p.get (mI n 2)⟩
theorem mirP_get (n : Nat) (p : Pl) {k : Nat} (hk : k < 3) : (mirP n p).get k = p.get (mI n k) := by
  match k, hk with
  | 0, _ => rfl
  | 1, _ => rfl
  | 2, _ => rfl
theorem mirP_mirP {n : Nat} (hn : n ≤ 3) (p : Pl) : mirP n (mirP n p) = p :=
  Pl.ext_get fun j hj => by rw [mirP_get _ _ hj, mirP_get _ _ (mI_lt hn hj), mI_mI]
structure Mir (V U : Vz) : Prop where
  n3 : V.nb ≤ 3
  nb : U.nb = V.nb
  st : U.st = V.st
  ch : U.ch = V.ch
  now : U.now = mirP V.nb V.now
  stay : U.stay = mirP V.nb V.stay
  er : ∀ k i, k < V.nb → earI U k i = earI V (V.nb - 1 - k) i
theorem Mir.symm {V U : Vz} (h : Mir V U) : Mir U V := by
  refine ⟨by rw [h.nb]; exact h.n3, h.nb.symm, h.st.symm, h.ch.symm, ?_, ?_, fun k i hk => ?_⟩
  · rw [h.nb, h.now, mirP_mirP h.n3]
  · rw [h.nb, h.stay, mirP_mirP h.n3]
  · rw [h.nb] at hk ⊢
    rw [h.er _ i (by omega), show V.nb - 1 - (V.nb - 1 - k) = k by omega]
theorem mir_earB {V U : Vz} (h : Mir V U) (p : Pl) {k : Nat} (hk : k < V.nb) : earB U (mirP V.nb p) k = earB V p (V.nb - 1 - k) := by
  have h3 := h.n3
  unfold earB sumE
  rw [mirP_get _ _ (by omega), mI_in hk]
  congr 1
  funext s i
  rw [h.er k i hk]
theorem mir_earL {V U : Vz} (h : Mir V U) (p : Pl) : earL U (mirP V.nb p) U.nb = (earL V p V.nb).reverse := by
  have hb : ∀ k, k < V.nb → earB U (mirP V.nb p) k = earB V p (V.nb - 1 - k) := fun k hk => mir_earB h p hk
  have h3 := h.n3
  rw [h.nb]
  refine List.ext_getElem? fun i => ?_
  by_cases hi : i < V.nb
  · rw [List.getElem?_reverse (by rw [earL_len]; exact hi), earL_len]
    unfold earL
    rw [List.getElem?_map, List.getElem?_map, List.getElem?_range hi, List.getElem?_range (by omega)]
    simp [hb i hi]
  · rw [List.getElem?_eq_none (by rw [earL_len]; omega), List.getElem?_eq_none (by rw [List.length_reverse, earL_len]; omega)]
theorem sum_acc (l : List Int) (a : Int) : l.foldl (· + ·) a = a + l.foldl (· + ·) 0 := by
  induction l generalizing a with
  | nil => simp
  | cons x l ih => simp only [List.foldl_cons]; rw [ih (a + x), ih (0 + x)]; omega
theorem sum_rev : ∀ (l : List Int), l.reverse.foldl (· + ·) 0 = l.foldl (· + ·) 0
  | [] => rfl
  | x :: l => by rw [List.reverse_cons, addup_snoc, sum_rev l, List.foldl_cons, sum_acc l (0 + x)]; omega
theorem mir_earn {V U : Vz} (h : Mir V U) (p : Pl) : earn U (mirP V.nb p) = earn V p := by
  unfold earn
  rw [mir_earL h p, sum_rev]
theorem minL_rev (l : List Int) : minL l.reverse = minL l := by
  rcases Nat.lt_or_ge l.length 1 with h0 | h1
  · have : l = [] := List.length_eq_zero_iff.1 (by omega)
    subst this; rfl
  · have a := minL_mem (l := l) h1
    have b := minL_mem (l := l.reverse) (by simpa using h1)
    have c := minL_le (l := l) _ (List.mem_reverse.1 b)
    have d := minL_le (l := l.reverse) _ (List.mem_reverse.2 a)
    omega
theorem mir_min {V U : Vz} (h : Mir V U) (p : Pl) : minL (earL U (mirP V.nb p) U.nb) = minL (earL V p V.nb) := by
  rw [mir_earL h p, minL_rev]
theorem mir_cop {n : Nat} (hn : n ≤ 3) (p : Pl) (i : Nat) : cop (mirP n p) i = cop p i := by
  unfold cop
  rw [copK_succ, copK_succ, copK_succ, copK_succ, copK_succ, copK_succ, mirP_get _ _ (by omega), mirP_get _ _ (by omega), mirP_get _ _ (by omega)]
  have e0 : ∀ q : Pl, copK q i 0 = 0 := fun q => rfl
  rw [e0, e0]
  rcases (by omega : n = 0 ∨ n = 1 ∨ n = 2 ∨ n = 3) with rfl | rfl | rfl | rfl <;> simp [mI] <;> omega
theorem mir_chO {V U : Vz} (h : Mir V U) (p : Pl) {k : Nat} (hk : k < V.nb) : chO U (mirP V.nb p) k = chO V p (V.nb - 1 - k) := by
  have h3 := h.n3
  unfold chO
  rw [h.now, mirP_get _ _ (by omega), mirP_get _ _ (by omega), mI_in hk]
theorem mir_chT {V U : Vz} (h : Mir V U) (p : Pl) : chT U (mirP V.nb p) = chT V p := by
  have h3 := h.n3
  have hb : ∀ k, k < V.nb → chO U (mirP V.nb p) k = chO V p (V.nb - 1 - k) := fun k hk => mir_chO h p hk
  unfold chT
  rw [h.nb]
  generalize mirP V.nb p = q at *
  have e0 : ∀ (W : Vz) (q : Pl), chA W q 0 = 0 := fun W q => rfl
  generalize V.nb = n at *
  rcases (by omega : n = 0 ∨ n = 1 ∨ n = 2 ∨ n = 3) with rfl | rfl | rfl | rfl
  · rfl
  · rw [chA_succ, chA_succ, e0, e0, hb 0 (by omega)]
  · rw [chA_succ, chA_succ, chA_succ, chA_succ, e0, e0, hb 0 (by omega), hb 1 (by omega)]
    show 0 + chO V p 1 + chO V p 0 = 0 + chO V p 0 + chO V p 1
    omega
  · rw [chA_succ, chA_succ, chA_succ, chA_succ, chA_succ, chA_succ, e0, e0, hb 0 (by omega), hb 1 (by omega), hb 2 (by omega)]
    show 0 + chO V p 2 + chO V p 1 + chO V p 0 = 0 + chO V p 0 + chO V p 1 + chO V p 2
    omega
theorem mir_mem {V U : Vz} (h : Mir V U) {p : Pl} (hp : p ∈ plansV V) : mirP V.nb p ∈ plansV U := by
  have h3 := h.n3
  obtain ⟨a, b, c⟩ := (plans_mem h3 p).1 hp
  refine (plans_mem (by rw [h.nb]; exact h3) _).2 ⟨fun j hj hn => ?_, fun k hk => ?_, ?_⟩
  · rw [h.nb] at hn
    rw [mirP_get _ _ hj]
    unfold mI
    rw [if_neg (by omega)]
    exact a j hj hn
  · rw [h.nb] at hk
    obtain ⟨b1, b2, b3⟩ := b (V.nb - 1 - k) (by omega)
    rw [h.st, h.now, mirP_get _ _ (by omega), mirP_get _ _ (by omega), mI_in hk]
    refine ⟨b1, b2, ?_⟩
    unfold fitB at b3 ⊢
    rw [mir_chO h p hk, h.ch, h.stay, mirP_get _ _ (by omega), mirP_get _ _ (by omega), mI_in hk]
    exact b3
  · unfold hasC at c ⊢
    rw [h.st, ← c]
    congr 1
    funext i
    unfold hasI
    rw [mir_cop h3, h.now, mir_cop h3, h.st]
theorem mir_best1 {V U : Vz} (h : Mir V U) : earn V (bestP V) ≤ earn U (bestP U) := by
  obtain ⟨a, _, _⟩ := best_max V (plansV V)
  obtain ⟨_, b, c⟩ := best_max U (plansV U)
  show earn V (bestF V (plansV V)) ≤ earn U (bestF U (plansV U))
  rcases a with a | a
  · rw [a, ← mir_earn h, ← h.now]; exact b
  · rw [← mir_earn h]; exact c _ (mir_mem h a)
theorem mir_best {V U : Vz} (h : Mir V U) : earn U (bestP U) = earn V (bestP V) := Int.le_antisymm (mir_best1 h.symm) (mir_best1 h)
theorem mir_fair1 {V U : Vz} (h : Mir V U) : fairV V ≤ fairV U := by
  obtain ⟨_, _, a⟩ := fair_max V (plansV V)
  obtain ⟨b0, b1, _⟩ := fair_max U (plansV U)
  show fairF V (plansV V) ≤ fairF U (plansV U)
  rcases a with a | ⟨p, hp, a⟩
  · omega
  · rw [a, ← mir_min h]; exact b1 _ (mir_mem h hp)
theorem mir_fair {V U : Vz} (h : Mir V U) : fairV U = fairV V := Int.le_antisymm (mir_fair1 h.symm) (mir_fair1 h)
theorem mir_few1 {V U : Vz} (h : Mir V U) (goal : Int) (hv : (fewV V goal).2 = true) : (fewV U goal).2 = true ∧ (fewV U goal).1 ≤ (fewV V goal).1 := by
  obtain ⟨_, a2⟩ := few_ok V goal (plansV V)
  obtain ⟨p, hp, hg, e⟩ := (a2 hv).1
  have := few_le (goal := goal) (mir_mem h hp) (by rw [mir_earn h]; exact hg)
  rw [mir_chT h] at this
  exact ⟨this.1, by have e' : (chT V p : Int) = (fewV V goal).1 := e; omega⟩
theorem mir_few {V U : Vz} (h : Mir V U) (goal : Int) : (fewV U goal).2 = (fewV V goal).2 ∧ ((fewV V goal).2 = true → (fewV U goal).1 = (fewV V goal).1) := by
  have a := mir_few1 h goal
  have b := mir_few1 h.symm goal
  refine ⟨?_, fun hv => ?_⟩
  · rw [Bool.eq_iff_iff]
    exact ⟨fun h => (b h).1, fun h => (a h).1⟩
  · have := (a hv).2
    have := (b (a hv).1).2
    omega
theorem mir_more {V U : Vz} (h : Mir V U) (i : Nat) : Mir (V.more i) (U.more i) :=
  ⟨h.n3, h.nb, by show U.st.set i (U.st.getD i 0 + 1) = _; rw [h.st]; rfl, h.ch, h.now, h.stay, h.er⟩
theorem mir_mch {V U : Vz} (h : Mir V U) : Mir V.mch U.mch :=
  ⟨h.n3, h.nb, h.st, by show U.ch + 1 = _; rw [h.ch]; rfl, h.now, h.stay, h.er⟩
theorem mir_copy {V U : Vz} (h : Mir V U) (i : Nat) : copyV U i = copyV V i := by
  unfold copyV
  rw [mir_best h, mir_best (mir_more h i)]
theorem mir_chg {V U : Vz} (h : Mir V U) : chgV U = chgV V := by
  unfold chgV
  rw [mir_best h, mir_best (mir_mch h)]

/-- A list of which so many of the first stand at the end, the other way round. -/
def mx {α : Type} (l : List α) (i : Nat) : List α := l.take (l.length - i) ++ (l.take i).reverse
theorem mx_len {α : Type} (l : List α) {i : Nat} (h : i ≤ l.length) : (mx l i).length = l.length := by unfold mx; simp; omega
theorem mx_zero {α : Type} (l : List α) : mx l 0 = l := by unfold mx; simp
theorem mx_all {α : Type} (l : List α) : mx l l.length = l.reverse := by unfold mx; simp
theorem mx_succ {α : Type} (l : List α) {i : Nat} {x : α} (h : l[i]? = some x) : mx l (i + 1) = (mx l i).set (l.length - 1 - i) x := by
  have hi : i < l.length := (List.getElem?_eq_some_iff.1 h).1
  have e1 : l.take (i + 1) = l.take i ++ [x] := by
    rw [List.take_add_one, h]; rfl
  unfold mx
  rw [e1, List.reverse_append, List.set_append, if_pos (by rw [List.length_take]; omega)]
  obtain ⟨y, hy⟩ : ∃ y, l[l.length - 1 - i]? = some y := ⟨_, List.getElem?_eq_getElem (by omega)⟩
  have e2 : l.take (l.length - i) = l.take (l.length - (i + 1)) ++ [y] := by
    rw [show l.length - i = (l.length - (i + 1)) + 1 by omega, List.take_add_one, show l.length - (i + 1) = l.length - 1 - i by omega, hy]; rfl
  have hl : (l.take (l.length - (i + 1))).length = l.length - 1 - i := by rw [List.length_take]; omega
  rw [e2, List.set_append, if_neg (by rw [hl]; omega), hl, Nat.sub_self]
  simp
theorem mx_mem {α : Type} {l : List α} {i : Nat} {x : α} (h : x ∈ mx l i) : x ∈ l := by
  unfold mx at h
  rcases List.mem_append.1 h with h | h
  · exact List.mem_of_mem_take h
  · exact List.mem_of_mem_take (List.mem_reverse.1 h)
/-- The rows of which the first k have one more place turned. -/
def mxE (er : List (List Int)) (i k : Nat) : List (List Int) := er.mapIdx fun j r => if j < k then mx r (i + 1) else mx r i
theorem mxE_len (er : List (List Int)) (i k : Nat) : (mxE er i k).length = er.length := by unfold mxE; simp
theorem mxE_at (er : List (List Int)) (i k j : Nat) : (mxE er i k)[j]? = er[j]?.map fun r => if j < k then mx r (i + 1) else mx r i := by unfold mxE; simp
theorem mxE_first (er : List (List Int)) : mxE er 0 0 = er := by
  refine List.ext_getElem? fun j => ?_
  rw [mxE_at]
  cases er[j]? <;> simp [mx_zero]
theorem mxE_next (er : List (List Int)) (i : Nat) : mxE er i er.length = mxE er (i + 1) 0 := by
  refine List.ext_getElem? fun j => ?_
  rw [mxE_at, mxE_at]
  rcases Nat.lt_or_ge j er.length with h | h
  · rw [List.getElem?_eq_getElem h]; simp [h]
  · rw [List.getElem?_eq_none h]; rfl
theorem mxE_succ (er : List (List Int)) (i : Nat) {k : Nat} {ks : List Int} {x : Int} (hk : er[k]? = some ks) (hi : ks[i]? = some x) : mxE er i (k + 1) = (mxE er i k).set k ((mx ks i).set (ks.length - 1 - i) x) := by
  refine List.ext_getElem? fun j => ?_
  have hkl : k < er.length := (List.getElem?_eq_some_iff.1 hk).1
  rw [mxE_at, List.getElem?_set, mxE_len, mxE_at]
  by_cases e : k = j
  · subst e
    rw [if_pos rfl, if_pos hkl, hk]
    simp [mx_succ ks hi]
  · rw [if_neg e]
    cases er[j]? with
    | none => rfl
    | some r =>
      simp only [Option.map_some]
      by_cases h : j < k
      · rw [if_pos h, if_pos (by omega)]
      · rw [if_neg h, if_neg (by omega)]
theorem mxE_all (er : List (List Int)) (n : Nat) (h : ∀ r ∈ er, r.length = n) : mxE er n 0 = er.map List.reverse := by
  refine List.ext_getElem? fun j => ?_
  rw [mxE_at, List.getElem?_map]
  rcases Nat.lt_or_ge j er.length with hj | hj
  · rw [List.getElem?_eq_getElem hj]
    have := h _ (List.getElem_mem hj)
    simp only [Option.map_some, Nat.not_lt_zero, if_false, ← this, mx_all]
  · rw [List.getElem?_eq_none hj]; rfl
def kpM (n : Nat) (k : Int × Int) : Int × Int := ((n : Int) - 1 - k.1, k.2)
/-- The keeps of which the first k are of the other end's box. -/
def mxK (n : Nat) (ks : List (Int × Int)) (k : Nat) : List (Int × Int) := (ks.take k).map (kpM n) ++ ks.drop k
theorem mxK_len (n : Nat) (ks : List (Int × Int)) {k : Nat} (h : k ≤ ks.length) : (mxK n ks k).length = ks.length := by unfold mxK; simp; omega
theorem mxK_zero (n : Nat) (ks : List (Int × Int)) : mxK n ks 0 = ks := by unfold mxK; simp
theorem mxK_all (n : Nat) (ks : List (Int × Int)) : mxK n ks ks.length = ks.map (kpM n) := by unfold mxK; simp
theorem mxK_at (n : Nat) (ks : List (Int × Int)) {k : Nat} {p : Int × Int} (h : ks[k]? = some p) : (mxK n ks k)[k]? = some p := by
  have hk : k < ks.length := (List.getElem?_eq_some_iff.1 h).1
  unfold mxK
  rw [List.getElem?_append_right (by simp; omega)]
  simp [Nat.min_eq_left (Nat.le_of_lt hk), h]
theorem mxK_succ (n : Nat) (ks : List (Int × Int)) {k : Nat} {p : Int × Int} (h : ks[k]? = some p) : mxK n ks (k + 1) = (mxK n ks k).set k (kpM n p) := by
  have hk : k < ks.length := (List.getElem?_eq_some_iff.1 h).1
  have hl : ((ks.take k).map (kpM n)).length = k := by simp; omega
  unfold mxK
  rw [List.take_add_one, h, List.map_append, List.set_append, if_neg (by rw [hl]; omega), hl, Nat.sub_self, List.drop_eq_getElem_cons hk, List.set_cons_zero]
  simp
/-- A visit with its boxes the other way round. -/
def mirS (X : Sw) : Sw := { X with bs := X.bs.reverse, er := X.er.map List.reverse, ks := X.ks.map (kpM X.bs.length) }
theorem rev_getD {α : Type} (l : List α) (d : α) {i : Nat} (h : i < l.length) : l.reverse.getD i d = l.getD (l.length - 1 - i) d := by
  rw [List.getD_eq_getElem?_getD, List.getD_eq_getElem?_getD, List.getElem?_reverse h]
theorem mirS_planM {LL : List (List Int)} (h : LL.length ≤ 3) : planM LL.reverse = mirP LL.length (planM LL) := by
  match LL, h with
  | [], _ => rfl
  | [a], _ => rfl
  | [a, b], _ => rfl
  | [a, b, c], _ => rfl
theorem set_mir {n : Nat} (hn : n ≤ 3) (p : Pl) {j t : Nat} (hj : j < n) : mirP n (p.set j t) = (mirP n p).set (n - 1 - j) t := by
  refine Pl.ext_get fun i hi => ?_
  rw [mirP_get _ _ hi]
  by_cases e : i = n - 1 - j
  · subst e
    rw [Pl.get_set hi, mI_in (by omega), show n - 1 - (n - 1 - j) = j by omega, Pl.get_set (by omega)]
  · rw [Pl.get_set_ne (by omega) hi e, Pl.get_set_ne (by omega) (mI_lt hn hi) (by unfold mI; split <;> omega), mirP_get _ _ hi]
theorem mirS_stay {n : Nat} (hn : n ≤ 3) (ks : List (Int × Int)) (h : ∀ k ∈ ks, 0 ≤ k.1 ∧ k.1 < (n : Int)) : stayF (ks.map (kpM n)) = mirP n (stayF ks) := by
  suffices hh : ∀ (m : Nat) (ks : List (Int × Int)), ks.length = m → (∀ k ∈ ks, 0 ≤ k.1 ∧ k.1 < (n : Int)) → stayF (ks.map (kpM n)) = mirP n (stayF ks) from hh _ ks rfl h
  intro m
  induction m with
  | zero =>
    intro ks hl _
    have : ks = [] := List.length_eq_zero_iff.1 hl
    subst this
    refine Pl.ext_get fun j hj => ?_
    rw [mirP_get _ _ hj]
    have h0 : ∀ j, (stayF []).get j = 0 := fun j => by
      match j with
      | 0 => rfl
      | 1 => rfl
      | 2 => rfl
      | _ + 3 => rfl
    rw [h0]; exact h0 j
  | succ m ih =>
    intro ks hl hk
    rcases List.eq_nil_or_concat ks with e | ⟨l, k, e⟩
    · rw [e] at hl; cases hl
    · rw [List.concat_eq_append] at e
      subst e
      have hk1 := hk k (by simp)
      rw [List.map_append, List.map_singleton, stayF_snoc, stayF_snoc, ih l (by simpa using hl) (fun x hx => hk x (by simp [hx]))]
      have e1 : (kpM n k).1.toNat = n - 1 - k.1.toNat := by show ((n : Int) - 1 - k.1).toNat = _; omega
      have e2 : (kpM n k).2 = k.2 := rfl
      rw [e1, e2, set_mir hn _ (by omega), mirP_get _ _ (by omega), mI_in (by omega), show n - 1 - (n - 1 - k.1.toNat) = k.1.toNat by omega]
theorem mirS_mir {X : Sw} (hok : XOk X) : Mir X.vz (mirS X).vz := by
  refine ⟨hok.nb3, by show X.bs.reverse.length = X.bs.length; simp, rfl, rfl, mirS_planM hok.nb3, mirS_stay hok.nb3 X.ks (fun k hk => ?_), fun k i hk => ?_⟩
  · have := hok.keep k hk; omega
  · have hk' : k < X.bs.length := hk
    show ((X.er.map List.reverse).getD i []).getD k 0 = (X.er.getD i []).getD (X.bs.length - 1 - k) 0
    have hg : (X.er.map List.reverse).getD i [] = (X.er.getD i []).reverse := by
      rw [List.getD_eq_getElem?_getD, List.getD_eq_getElem?_getD, List.getElem?_map]
      cases X.er[i]? <;> rfl
    rw [hg]
    rcases Nat.lt_or_ge i X.er.length with h | h
    · have e := (hok.er2 i h).1
      rw [rev_getD _ _ (by omega), e]
    · rw [show X.er.getD i [] = [] by rw [List.getD_eq_getElem?_getD, List.getElem?_eq_none h]; rfl]
      rfl
theorem up_of {hi : Int} {l : List Int} (h : ∀ x ∈ l, 0 ≤ x ∧ x ≤ hi) : upB hi l = true := by
  unfold upB
  rw [List.all_eq_true]
  intro i hi'
  exact inI_iff.2 (h _ (getD_mem' _ 0 (List.mem_range.1 hi')))
theorem mirS_vB {X : Sw} (hv : vB X = true) : vB (mirS X) = true := by
  have hok := vB_iff hv
  unfold vB at hv ⊢
  simp only [Bool.and_eq_true, decide_eq_true_eq] at hv ⊢
  obtain ⟨⟨⟨⟨⟨h1, h2⟩, h3⟩, h4⟩, h5⟩, ⟨h6, h7⟩, h8⟩ := hv
  have hbl : (mirS X).bs.length = X.bs.length := List.length_reverse
  have hkl : (mirS X).ks.length = X.ks.length := List.length_map _
  have hel : (mirS X).er.length = X.er.length := List.length_map _
  refine ⟨⟨⟨⟨⟨by rw [hbl]; exact h1, h2⟩, by rw [hkl]; exact h3⟩, ?_⟩, ?_⟩, ⟨h6, ?_⟩, h8⟩
  · rw [hbl, List.all_eq_true] at *
    intro i hi
    have hi' := List.mem_range.1 hi
    have := h4 (X.bs.length - 1 - i) (List.mem_range.2 (by omega))
    unfold boxI at this ⊢
    rw [show (mirS X).bs.getD i [] = X.bs.getD (X.bs.length - 1 - i) [] from rev_getD _ _ hi']
    exact this
  · rw [hkl, List.all_eq_true]
    intro i hi
    have hi' := List.mem_range.1 hi
    have hk := hok.kp i hi'
    have e : (mirS X).ks.getD i (0, 0) = kpM X.bs.length (X.ks.getD i (0, 0)) := by
      show (X.ks.map (kpM X.bs.length)).getD i (0, 0) = _
      rw [List.getD_eq_getElem?_getD, List.getD_eq_getElem?_getD, List.getElem?_map, List.getElem?_eq_getElem hi']
      rfl
    unfold keepI at hk ⊢
    rw [e]
    generalize X.ks.getD i (0, 0) = k at *
    rw [Bool.and_eq_true] at hk ⊢
    obtain ⟨a, b⟩ := hk
    have a' := inI_iff.1 a
    refine ⟨inI_iff.2 ?_, ?_⟩
    · rw [hbl]; show 0 ≤ (X.bs.length : Int) - 1 - k.1 ∧ (X.bs.length : Int) - 1 - k.1 ≤ _; omega
    · show inL k.2 (X.bs.reverse.getD ((X.bs.length : Int) - 1 - k.1).toNat []) = true
      rw [rev_getD _ _ (by omega), show X.bs.length - 1 - ((X.bs.length : Int) - 1 - k.1).toNat = k.1.toNat by omega]
      exact b
  · unfold eaB at h7 ⊢
    rw [Bool.and_eq_true] at h7 ⊢
    rw [hel]
    refine ⟨h7.1, ?_⟩
    rw [List.all_eq_true]
    intro i hi
    have hi' := List.mem_range.1 hi
    obtain ⟨a, b⟩ := hok.er2 i hi'
    have e : (mirS X).er.getD i [] = (X.er.getD i []).reverse := by
      show (X.er.map List.reverse).getD i [] = _
      rw [List.getD_eq_getElem?_getD, List.getD_eq_getElem?_getD, List.getElem?_map]
      cases X.er[i]? <;> rfl
    unfold eaI
    rw [e, hbl, Bool.and_eq_true]
    exact ⟨by simpa using a, up_of (fun x hx => b x (List.mem_reverse.1 hx))⟩
theorem Rc.at2 {w : World} {own : Option Nat} : ∀ {vs : List Value} {LL : List (List Int)} {B T : Nat}, Rc w own B T vs LL → ∀ (i : Nat) (ks : List Int), LL[i]? = some ks → ∃ x B' T', vs[i]? = some x ∧ Ls w own B' T' x ks ∧ B ≤ B' ∧ T' ≤ T
  | [], [], _, _, _, i, ks, hi => by simp at hi
  | x :: _, k :: _, B, T, ⟨M, hm, h1, h2⟩, 0, ks, hi => by
    simp at hi; subst hi; exact ⟨x, B, M, rfl, h1, Nat.le_refl _, h2.le⟩
  | _ :: _, _ :: _, _, _, ⟨M, hm, h1, h2⟩, i + 1, ks, hi => by
    obtain ⟨x, B', T', hx, hl, hb, ht⟩ := Rc.at2 h2 i ks (by simpa using hi)
    exact ⟨x, B', T', by simpa using hx, hl, Nat.le_trans hm hb, ht⟩
  | [], _ :: _, _, _, h, _, _, _ => h.elim
  | _ :: _, [], _, _, h, _, _, _ => h.elim
/-- Rows that lie below T or from H on, and not in the row that names them. -/
def BxR (w : World) (own : Option Nat) (T H : Nat) (vs : List Value) (LL : List (List Int)) : Prop := ∀ (t : Nat) (ks : List Int), LL[t]? = some ks → ∃ (a : Option Addr) (c : Nat), vs[t]? = some (Value.slice a ks.length c) ∧ Ints w a ks ∧ ∀ ad : Addr, a = some ad → ad.block < w.heap.size ∧ own ≠ some ad.block ∧ (ad.block < T ∨ H ≤ ad.block)
theorem BxR.out {w w' : World} {own r : Option Nat} {T H : Nat} {vs : List Value} {LL : List (List Int)} (h : BxR w own T H vs LL) (hg : w.grownBy w' r) (hr : ∀ b, r = some b → own = some b ∨ (T ≤ b ∧ b < H) ∨ w.heap.size ≤ b) : BxR w' own T H vs LL := fun t ks ht => by
  obtain ⟨a, c, h1, h2, h3⟩ := h t ks ht
  refine ⟨a, c, h1, h2.gro hg (fun ad e hh => ?_), fun ad e => ?_⟩
  · obtain ⟨b1, b2, b3⟩ := h3 ad e
    rcases hr _ hh with h | h | h
    · exact b2 h
    · omega
    · omega
  · obtain ⟨b1, b2, b3⟩ := h3 ad e
    exact ⟨Nat.lt_of_lt_of_le b1 hg.size, b2, b3⟩
theorem BxR.below {w w' : World} {own : Option Nat} {T H : Nat} {vs : List Value} {LL : List (List Int)} (h : BxR w own T H vs LL) (hb : Below w.heap.size w w') : BxR w' own T H vs LL := fun t ks ht => by
  obtain ⟨a, c, h1, h2, h3⟩ := h t ks ht
  exact ⟨a, c, h1, h2.below hb (Nat.le_refl _), fun ad e => ⟨Nat.lt_of_lt_of_le (h3 ad e).1 hb.size, (h3 ad e).2⟩⟩
/-- The memory of a copy whose boxes' rows may be new. -/
structure OMem (w : World) (B H : Nat) (v2 v6 v9 v13 : Value) (X : Sw) : Prop where
  ex : ∃ T2 T6 T9 vs, T2 ≤ T6 ∧ (T6 ≤ T9 ∧ B ≤ T6) ∧ T9 ≤ H ∧ H ≤ w.heap.size ∧ (w.ownsRow B 23 1 v2 X.bs.length vs ∧ (∀ q, v2.ownBlock = some q → q < T2) ∧ BxR w v2.ownBlock T2 H vs X.bs) ∧
    (w.ownsRow B 3 1 v6 X.st.length (X.st.map (Value.int .i64)) ∧ (0 < X.st.length → ∀ q, v6.ownBlock = some q → T2 ≤ q ∧ q < T6)) ∧ LssT w T6 T9 v9 X.er ∧
    (w.ownsRow B 55 2 v13 X.ks.length (pcells X.ks) ∧ (0 < X.ks.length → ∀ q, v13.ownBlock = some q → T9 ≤ q ∧ q < H))
theorem CMem.open {w : World} {B : Nat} {v2 v6 v9 v13 : Value} {X : Sw} (h : CMem w B v2 v6 v9 v13 X) : OMem w B w.heap.size v2 v6 v9 v13 X := by
  obtain ⟨T6, T9, ⟨T2, q1, q2, ⟨g0, a, c, vs, rfl, g1, g2, g3⟩, q4, q5⟩, g9, g13, h13, hB⟩ := h.ex
  have h69 : T6 ≤ T9 := by obtain ⟨_, _, _, _, _, _, _, h3⟩ := g9; exact h3.le
  refine ⟨T2, T6, T9, vs, q1, ⟨h69, hB⟩, g9.1, Nat.le_refl _, ⟨g1, g2, fun t ks ht => ?_⟩, ⟨q4, q5⟩, g9, g13, fun h0 q hq => ⟨h13 h0 q hq, (g13.lt q hq).2⟩⟩
  obtain ⟨x, B', T', hx, ⟨_, a', c', rfl, hI, hb⟩, _, hT⟩ := g3.at2 t ks ht
  refine ⟨a', c', hx, hI, fun ad e => ?_⟩
  obtain ⟨b1, b2, b3, b4⟩ := hb ad e
  exact ⟨b3, b4, .inl (by omega)⟩
theorem OMem.below {w w' : World} {B H : Nat} {v2 v6 v9 v13 : Value} {X : Sw} (h : OMem w B H v2 v6 v9 v13 X) (hb : Below w.heap.size w w') : OMem w' B H v2 v6 v9 v13 X := by
  obtain ⟨T2, T6, T9, vs, h1, h2, h3, h4, ⟨p1, p2, p3⟩, ⟨p4, p5⟩, p6, p7, p8⟩ := h.ex
  exact ⟨T2, T6, T9, vs, h1, h2, h3, Nat.le_trans h4 hb.size, ⟨own_below2 p1 hb, p2, p3.below hb⟩, ⟨own_below2 p4 hb, p5⟩, p6.below hb, own_below2 p7 hb, p8⟩
theorem OMem.swp {w : World} {B H : Nat} {v2 v6 v9 v13 : Value} {X : Sw} (h : OMem w B H v2 v6 v9 v13 X) (h1 : X.bs.length ≤ 1000) (h2 : X.st.length ≤ 1000) (h3 : X.er.length ≤ 1000) (h4 : X.ks.length ≤ 1000) (h5 : ∀ x ∈ X.st, -9223372036854775808 ≤ x ∧ x ≤ 9223372036854775807) (h6 : ∀ x ∈ X.ks, -9223372036854775808 ≤ x.1 ∧ x.1 ≤ 9223372036854775807 ∧ -9223372036854775808 ≤ x.2 ∧ x.2 ≤ 9223372036854775807) : ∃ (ab ast ae ak : Option Addr) (cb cs ce ck : Nat), v2 = .slice ab X.bs.length cb ∧ v6 = .slice ast X.st.length cs ∧ v9 = .slice ae X.er.length ce ∧ v13 = .slice ak X.ks.length ck ∧ Swp w ab ast ae ak X := by
  obtain ⟨T2, T6, T9, vs, _, _, _, _, ⟨p1, p2, p3⟩, ⟨p4, p5⟩, p6, p7, p8⟩ := h.ex
  obtain ⟨a2, c2, e2, l2⟩ := Ints.of_own p4 (by omega) h5
  obtain ⟨a3, c3, e3, l3⟩ := p6.lss h3
  obtain ⟨a4, c4, e4, l4⟩ := Prs.of_own p7 (by omega) h6
  obtain ⟨a1, c1, e1⟩ := own_slice2 p1
  refine ⟨a1, a2, a3, a4, c1, c2, c3, c4, e1, e2, e3, e4, ⟨by omega, fun t ks ht => ?_⟩, l2, l3, l4⟩
  have htl : t < X.bs.length := (List.getElem?_eq_some_iff.1 ht).1
  obtain ⟨g, cap, e⟩ := Go.Joins.ownsRow_form p1 (by omega)
  rw [e1] at e
  simp only [Value.slice.injEq] at e
  obtain ⟨rfl, _, rfl⟩ := e
  subst e1
  obtain ⟨a, c, q1, q2, _⟩ := p3 t ks ht
  exact ⟨g, 0, a, c, rfl, (p1.lt g rfl).2, by have := own_cell p1 t q1; simpa using this, q2⟩
/-- Rows of two types do not lie in one block. -/
theorem own_apart {w : World} {B1 B2 s1 s2 n1 n2 g : Nat} {e1 e2 : TypeId} {u1 u2 : Value} {x1 x2 : List Value} (h1 : w.ownsRow B1 e1 s1 u1 n1 x1) (h2 : w.ownsRow B2 e2 s2 u2 n2 x2) (he : e1 ≠ e2) (hg : u1.ownBlock = some g) : u2.ownBlock ≠ some g := fun hk => by
  obtain ⟨cur1, z1⟩ := own_cells h1 g hg
  obtain ⟨cur2, z2⟩ := own_cells h2 g hk
  rw [z1] at z2
  simp only [Option.some.injEq, Obj.cells.injEq] at z2
  exact he z2.2.1
/-- A box gets a new row. -/
theorem OMem.setBox {w : World} {B H : Nat} {a2 : Option Addr} {c2 : Nat} {v6 v9 v13 : Value} {X : Sw} (h : OMem w B H (.slice a2 X.bs.length c2) v6 v9 v13 X) {t : Nat} (ht : t < X.bs.length) {a : Option Addr} {c : Nat} {ks : List Int} (hI : Ints w a ks) (ha : ∀ ad : Addr, a = some ad → H ≤ ad.block ∧ ad.block < w.heap.size) :
    ∃ g, a2 = some ⟨g, 0, none⟩ ∧ B ≤ g ∧ g < H ∧ w.frozen? ⟨g, t, none⟩ = false ∧ (∃ old, w.cell? ⟨g, t, none⟩ = some old ∧ ∃ p q r, old = .slice p q r) ∧ (∃ cur, w.heap[g]? = some (.cells cur 23 (0, 0))) ∧ OMem (w.setCell ⟨g, t, none⟩ (.slice a ks.length c)) B H (.slice a2 X.bs.length c2) v6 v9 v13 { X with bs := X.bs.set t ks } := by
  obtain ⟨T2, T6, T9, vs, h1, h2, h3, h4, ⟨p1, p2, p3⟩, ⟨p4, p5⟩, p6, p7, p8⟩ := h.ex
  obtain ⟨g, cap, e⟩ := Go.Joins.ownsRow_form p1 (by omega)
  simp only [Value.slice.injEq] at e
  obtain ⟨rfl, _, rfl⟩ := e
  have hgB := own_ge2 p1 g rfl
  have hgT := p2 g rfl
  obtain ⟨ks0, hks0⟩ : ∃ ks0, X.bs[t]? = some ks0 := ⟨_, List.getElem?_eq_getElem ht⟩
  obtain ⟨a0, c0, q1, _, _⟩ := p3 t ks0 hks0
  have hgs := gset w ⟨g, t, none⟩ (.slice a ks.length c)
  refine ⟨g, rfl, hgB, by omega, own_free p1 t, ⟨_, own_cell p1 t q1, _, _, _, rfl⟩, own_cells p1 g rfl, T2, T6, T9, vs.set t (.slice a ks.length c), h1, h2, h3, by simpa [World.setCell] using h4, ⟨?_, p2, ?_⟩, ⟨own_keep p4 hgs (fun k hk e => by cases e; exact own_apart p1 p4 (by decide) rfl hk), p5⟩, p6.out (.inl (by show g < T6; omega)) hgs, own_keep p7 hgs (fun k hk e => by cases e; exact own_apart p1 p7 (by decide) rfl hk), p8⟩
  · have := own_set (v := .slice a ks.length c) p1 (j := t) (by omega)
    show World.ownsRow _ _ _ _ _ (X.bs.set t ks).length _
    rw [List.length_set]; exact this
  · have p3' := p3.out hgs (fun b hb => by cases hb; exact .inl rfl)
    intro s ls hs
    have hvl : vs.length = X.bs.length := by have := p1.1; omega
    rw [List.getElem?_set] at hs
    by_cases e : t = s
    · subst e
      rw [if_pos rfl, if_pos ht] at hs
      cases hs
      refine ⟨a, c, by rw [List.getElem?_set, if_pos rfl, if_pos (by omega)], hI.gro hgs (fun ad e hh => ?_), fun ad e => ?_⟩
      · have := ha ad e
        have e' : g = ad.block := by simpa using hh
        omega
      · have := ha ad e
        exact ⟨by simpa [World.setCell] using this.2, fun hh => (by have e' : g = ad.block := by simpa [Value.ownBlock] using hh
                                                                    omega), .inr this.1⟩
    · rw [if_neg e] at hs
      obtain ⟨a', c', r1, r2⟩ := p3' s ls hs
      exact ⟨a', c', by rw [List.getElem?_set, if_neg e]; exact r1, r2⟩
/-- An earning is set. -/
theorem OMem.setEarn {w : World} {B H : Nat} {v2 v6 v13 : Value} {a9 : Option Addr} {c9 : Nat} {X : Sw} (h : OMem w B H v2 v6 (.slice a9 X.er.length c9) v13 X) {t j : Nat} {ks : List Int} (ht : X.er[t]? = some ks) (hj : j < ks.length) (hl : ks.length ≤ 1000) (x : Int) (hx : -9223372036854775808 ≤ x ∧ x ≤ 9223372036854775807) :
    ∃ g0 g c, a9 = some ⟨g0, 0, none⟩ ∧ w.cell? ⟨g0, t, none⟩ = some (.slice (some ⟨g, 0, none⟩) ks.length c) ∧ (B ≤ g ∧ g < H) ∧ w.cell? ⟨g, j, none⟩ = some (.int .i64 (ks.getD j 0)) ∧ w.frozen? ⟨g, j, none⟩ = false ∧ (∃ cur, w.heap[g]? = some (.cells cur 3 (0, 0))) ∧ OMem (w.setCell ⟨g, j, none⟩ (.int .i64 x)) B H v2 v6 (.slice a9 X.er.length c9) v13 { X with er := X.er.set t (ks.set j x) } := by
  obtain ⟨T2, T6, T9, vs, h1, h2, h3, h4, ⟨p1, p2, p3⟩, ⟨p4, p5⟩, ⟨w1, a, c, us, e, w2, w3, w4⟩, p7, p8⟩ := h.ex
  cases e
  have htl : t < X.er.length := (List.getElem?_eq_some_iff.1 ht).1
  obtain ⟨g0, cap, e0⟩ := Go.Joins.ownsRow_form w2 (by omega)
  simp only [Value.slice.injEq] at e0
  obtain ⟨rfl, _, rfl⟩ := e0
  obtain ⟨g, c', e1, e2, e3, e4, e5, e6, e7, e8, e9⟩ := Rc.setAt hx w4 t ks ht hj hl
  have hgs := gset w ⟨g, j, none⟩ (.int .i64 x)
  refine ⟨g0, g, c', rfl, own_cell w2 t e1, ⟨by omega, by omega⟩, e6, e7, e8, T2, T6, T9, vs, h1, h2, h3, by simpa [World.setCell] using h4, ⟨own_keep p1 hgs (fun k hk e => ?_), p2, p3.out hgs (fun b hb => by cases hb; exact .inr (.inl ⟨by show T2 ≤ g; omega, by show g < H; omega⟩))⟩, ⟨?_, p5⟩, ⟨by simpa [World.setCell] using w1, some ⟨g0, 0, none⟩, c9, us, by show _ = Value.slice _ (X.er.set t (ks.set j x)).length _; rw [List.length_set], ?_, w3, e9⟩, ?_, p8⟩
  · have := p2 k hk
    have e' : g = k := by simpa using e
    omega
  · rcases Nat.eq_zero_or_pos X.st.length with h0 | h0
    · rw [h0] at p4 ⊢
      have : X.st = [] := List.eq_nil_of_length_eq_zero h0
      rw [this] at p4 ⊢
      refine ⟨rfl, ?_⟩
      rcases p4.2 with h' | ⟨g', cap', cur, i1, i2, i3, i4, i5, i6, i7⟩
      · exact .inl h'
      · by_cases eg : g' = g
        · subst eg
          have hb : Bx w g' cur 3 := i3
          exact .inr ⟨g', cap', cur.setIfInBounds j (.int .i64 x), i1, i2, hb.set j _, i4, i5, by rw [Array.size_setIfInBounds]; exact i6, by simp⟩
        · have hb : Bx w g' cur 3 := i3
          exact .inr ⟨g', cap', cur, i1, i2, hb.other (by exact eg) _, i4, i5, i6, i7⟩
    · refine own_keep p4 hgs (fun q hq e => ?_)
      have e' : g = q := by simpa using e
      have := p5 h0 q hq
      omega
  · show World.ownsRow _ _ _ _ _ (X.er.set t (ks.set j x)).length _
    rw [List.length_set]
    exact own_keep w2 hgs (fun q hq e => by
      have e' : g = q := by simpa using e
      exact e5 (by rw [e']; exact hq))
  · refine own_keep p7 hgs (fun q hq e => ?_)
    have e' : g = q := by simpa using e
    subst e'
    obtain ⟨cur2, z2⟩ := own_cells p7 g hq
    obtain ⟨cur1, z1⟩ := e8
    rw [z1] at z2; cases z2
theorem pcells_set : ∀ (xs : List (Int × Int)) (t : Nat) (p : Int × Int) (x : Int), xs[t]? = some p → (pcells xs).set (t * 2) (.int .i64 x) = pcells (xs.set t (x, p.2))
  | [], t, p, x, h => by simp at h
  | y :: ys, 0, p, x, h => by
    simp at h; subst h; rfl
  | y :: ys, t + 1, p, x, h => by
    rw [pcells_cons, show (t + 1) * 2 = t * 2 + 1 + 1 by omega, List.set_cons_succ, List.set_cons_succ, pcells_set ys t p x (by simpa using h), List.set_cons_succ, pcells_cons]
/-- A keep's box is set. -/
theorem OMem.setKeep {w : World} {B H : Nat} {v2 v6 v9 : Value} {a13 : Option Addr} {c13 : Nat} {X : Sw} (h : OMem w B H v2 v6 v9 (.slice a13 X.ks.length c13) X) {t : Nat} {p : Int × Int} (ht : X.ks[t]? = some p) (x : Int) :
    ∃ g, a13 = some ⟨g, 0, none⟩ ∧ B ≤ g ∧ g < H ∧ w.cell? ⟨g, t * 2, none⟩ = some (.int .i64 p.1) ∧ w.frozen? ⟨g, t * 2, none⟩ = false ∧ (∃ cur, w.heap[g]? = some (.cells cur 55 (0, 0))) ∧ OMem (w.setCell ⟨g, t * 2, none⟩ (.int .i64 x)) B H v2 v6 v9 (.slice a13 X.ks.length c13) { X with ks := X.ks.set t (x, p.2) } := by
  obtain ⟨T2, T6, T9, vs, h1, h2, h3, h4, ⟨p1, p2, p3⟩, ⟨p4, p5⟩, p6, p7, p8⟩ := h.ex
  have htl : t < X.ks.length := (List.getElem?_eq_some_iff.1 ht).1
  obtain ⟨g, cap, e⟩ := Go.Joins.ownsRow_form p7 (by omega)
  simp only [Value.slice.injEq] at e
  obtain ⟨rfl, _, rfl⟩ := e
  have hgB := own_ge2 p7 g rfl
  obtain ⟨b1, b2⟩ := p8 (by omega) g rfl
  have hgs := gset w ⟨g, t * 2, none⟩ (.int .i64 x)
  have hc := (pcells_at X.ks t htl).1
  have hp : X.ks.getD t (0, 0) = p := by rw [List.getD_eq_getElem?_getD, ht]; rfl
  rw [hp] at hc
  refine ⟨g, rfl, hgB, b2, own_cell p7 (t * 2) hc, own_free p7 (t * 2), own_cells p7 g rfl, T2, T6, T9, vs, h1, h2, h3, by simpa [World.setCell] using h4, ⟨own_keep p1 hgs (fun k hk e => by cases e; exact own_apart p7 p1 (by decide) rfl hk), p2, p3.out hgs (fun b hb => by cases hb; exact .inr (.inl ⟨by show T2 ≤ g; omega, b2⟩))⟩, ⟨own_keep p4 hgs (fun k hk e => by cases e; exact own_apart p7 p4 (by decide) rfl hk), p5⟩, p6.out (.inr b1) hgs, ?_, ?_⟩
  · have := own_set (v := .int .i64 x) p7 (j := t * 2) (by omega)
    rw [pcells_set X.ks t p x ht] at this
    show World.ownsRow _ _ _ _ _ (X.ks.set t (x, p.2)).length _
    rw [List.length_set]; exact this
  · intro _ q hq
    exact p8 (by omega) q hq

def xO (X : Sw) (i j k : Nat) : Sw := { X with bs := mx X.bs i, er := mxE X.er j k }
def zO (X : Sw) (m : Nat) : Sw := { X with bs := X.bs.reverse, er := X.er.map List.reverse, ks := mxK X.bs.length X.ks m }
theorem xO_first (X : Sw) : xO X 0 0 0 = X := by unfold xO; rw [mx_zero, mxE_first]
theorem xO_next (X : Sw) (i : Nat) : xO X (i + 1) i X.er.length = xO X (i + 1) (i + 1) 0 := by unfold xO; rw [mxE_next]
theorem xO_last {X : Sw} (h : ∀ r ∈ X.er, r.length = X.bs.length) : xO X X.bs.length X.bs.length 0 = zO X 0 := by unfold xO zO; rw [mx_all, mxE_all X.er X.bs.length h, mxK_zero]
theorem zO_last (X : Sw) : zO X X.ks.length = mirS X := by unfold zO mirS; rw [mxK_all]
theorem OMem.box {w : World} {B H n : Nat} {a2 : Option Addr} {c2 : Nat} {v6 v9 v13 : Value} {X : Sw} {i : Nat} (h : OMem w B H (.slice a2 n c2) v6 v9 v13 (xO X i i 0)) (hn : n = X.bs.length) {a : Option Addr} {c : Nat} {ks : List Int} (hk : X.bs[i]? = some ks) (hI : Ints w a ks) (ha : ∀ ad : Addr, a = some ad → H ≤ ad.block ∧ ad.block < w.heap.size) :
    ∃ g, a2 = some ⟨g, 0, none⟩ ∧ B ≤ g ∧ g < H ∧ w.frozen? ⟨g, n - 1 - i, none⟩ = false ∧ (∃ old, w.cell? ⟨g, n - 1 - i, none⟩ = some old ∧ ∃ p q r, old = .slice p q r) ∧ (∃ cur, w.heap[g]? = some (.cells cur 23 (0, 0))) ∧ OMem (w.setCell ⟨g, n - 1 - i, none⟩ (.slice a ks.length c)) B H (.slice a2 n c2) v6 v9 v13 (xO X (i + 1) i 0) := by
  have hi : i < X.bs.length := (List.getElem?_eq_some_iff.1 hk).1
  have hl : (xO X i i 0).bs.length = n := by rw [hn]; exact mx_len _ (by omega)
  rw [← hl] at h
  obtain ⟨g, h1, h2, h3, h4, h5, h6, h7⟩ := h.setBox (t := n - 1 - i) (c := c) (by omega) hI ha
  rw [hl] at h7
  refine ⟨g, h1, h2, h3, h4, h5, h6, ?_⟩
  have e : xO X (i + 1) i 0 = { xO X i i 0 with bs := (xO X i i 0).bs.set (n - 1 - i) ks } := by
    unfold xO
    rw [mx_succ X.bs hk, hn]
  rw [e]
  exact h7
theorem OMem.earn {w : World} {B H m : Nat} {v2 v6 v13 : Value} {a9 : Option Addr} {c9 : Nat} {X : Sw} {i k : Nat} (h : OMem w B H v2 v6 (.slice a9 m c9) v13 (xO X (i + 1) i k)) (hm : m = X.er.length) {ks : List Int} {x : Int} (hk : X.er[k]? = some ks) (hi : ks[i]? = some x) (hl : ks.length ≤ 1000) (hx : -9223372036854775808 ≤ x ∧ x ≤ 9223372036854775807) :
    ∃ g0 g c y, a9 = some ⟨g0, 0, none⟩ ∧ w.cell? ⟨g0, k, none⟩ = some (.slice (some ⟨g, 0, none⟩) ks.length c) ∧ (B ≤ g ∧ g < H) ∧ w.cell? ⟨g, ks.length - 1 - i, none⟩ = some (.int .i64 y) ∧ w.frozen? ⟨g, ks.length - 1 - i, none⟩ = false ∧ (∃ cur, w.heap[g]? = some (.cells cur 3 (0, 0))) ∧ OMem (w.setCell ⟨g, ks.length - 1 - i, none⟩ (.int .i64 x)) B H v2 v6 (.slice a9 m c9) v13 (xO X (i + 1) i (k + 1)) := by
  have hil : i < ks.length := (List.getElem?_eq_some_iff.1 hi).1
  have hlen : (xO X (i + 1) i k).er.length = m := by rw [hm]; exact mxE_len _ _ _
  rw [← hlen] at h
  have hr : (xO X (i + 1) i k).er[k]? = some (mx ks i) := by
    show (mxE X.er i k)[k]? = _
    rw [mxE_at, hk]; simp
  have hml : (mx ks i).length = ks.length := mx_len ks (by omega)
  obtain ⟨g0, g, c, h1, h2, h3, h4, h5, h6, h7⟩ := h.setEarn (j := ks.length - 1 - i) hr (by omega) (by omega) x hx
  rw [hlen] at h7
  rw [hml] at h2
  refine ⟨g0, g, c, _, h1, h2, h3, h4, h5, h6, ?_⟩
  have e : xO X (i + 1) i (k + 1) = { xO X (i + 1) i k with er := (xO X (i + 1) i k).er.set k ((mx ks i).set (ks.length - 1 - i) x) } := by
    unfold xO
    rw [mxE_succ X.er i hk hi]
  rw [e]
  exact h7
theorem OMem.keep {w : World} {B H m : Nat} {v2 v6 v9 : Value} {a13 : Option Addr} {c13 : Nat} {X : Sw} {k : Nat} (h : OMem w B H v2 v6 v9 (.slice a13 m c13) (zO X k)) (hm : m = X.ks.length) {p : Int × Int} (hk : X.ks[k]? = some p) :
    ∃ g, a13 = some ⟨g, 0, none⟩ ∧ B ≤ g ∧ g < H ∧ w.cell? ⟨g, k * 2, none⟩ = some (.int .i64 p.1) ∧ w.frozen? ⟨g, k * 2, none⟩ = false ∧ (∃ cur, w.heap[g]? = some (.cells cur 55 (0, 0))) ∧ OMem (w.setCell ⟨g, k * 2, none⟩ (.int .i64 ((X.bs.length : Int) - 1 - p.1))) B H v2 v6 v9 (.slice a13 m c13) (zO X (k + 1)) := by
  have hkl : k < X.ks.length := (List.getElem?_eq_some_iff.1 hk).1
  have hlen : (zO X k).ks.length = m := by rw [hm]; exact mxK_len _ _ (by omega)
  rw [← hlen] at h
  obtain ⟨g, h1, h2, h3, h4, h5, h6, h7⟩ := h.setKeep (t := k) (p := p) (mxK_at _ _ hk) ((X.bs.length : Int) - 1 - p.1)
  rw [hlen] at h7
  refine ⟨g, h1, h2, h3, h4, h5, h6, ?_⟩
  have e : zO X (k + 1) = { zO X k with ks := (zO X k).ks.set k ((X.bs.length : Int) - 1 - p.1, p.2) } := by
    unfold zO
    rw [mxK_succ X.bs.length X.ks hk]; rfl
  rw [e]
  exact h7
end Go.Proofs.Ytipdohpbilabiaa
