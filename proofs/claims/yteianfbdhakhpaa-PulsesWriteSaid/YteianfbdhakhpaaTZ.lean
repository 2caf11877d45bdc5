import Derived.Test.YteianfbdhakhpaaM4
import Derived.Test.YteianfbdhakhpaaTL
import Derived.Test.YteianfbdhakhpaaTI
/-! What is written is read. -/
namespace Go.Proofs.Yteianfbdhakhpaa
set_option linter.unusedSimpArgs false
set_option linter.unusedVariables false
open Go Go.RowKit

theorem prt_far {d d1 : Int} (h1 : d ≤ d1) (rest : List Int) : ∀ (dd : List Int) (x : Int) (cur : List Int), (∀ e ∈ dd, e < d) →
    prt d cur (x :: accL x (dd ++ d1 :: rest)) = (cur ++ x :: accL x dd) :: prt d [] ((sumL x dd + d1) :: accL (sumL x dd + d1) rest)
  | [], x, cur, _ => by
    show prt d cur (x :: (x + d1) :: accL (x + d1) rest) = (cur ++ [x]) :: prt d [] ((x + d1) :: accL (x + d1) rest)
    rw [prt, if_pos (by omega)]
  | e :: dd, x, cur, h => by
    have he := h e (by simp)
    have ih := prt_far h1 rest dd (x + e) (cur ++ [x]) (fun y hy => h y (by simp [hy]))
    show prt d cur (x :: (x + e) :: accL (x + e) (dd ++ d1 :: rest)) = (cur ++ x :: (x + e) :: accL (x + e) dd) :: prt d [] ((sumL (x + e) dd + d1) :: accL (sumL (x + e) dd + d1) rest)
    rw [prt, if_neg (by omega), ih]
    simp
theorem prt_near {d : Int} : ∀ (dd : List Int) (x : Int) (cur : List Int), (∀ e ∈ dd, e < d) → prt d cur (x :: accL x dd) = [cur ++ x :: accL x dd]
  | [], x, cur, _ => by simp [accL, prt]
  | e :: dd, x, cur, h => by
    have he := h e (by simp)
    have ih := prt_near dd (x + e) (cur ++ [x]) (fun y hy => h y (by simp [hy]))
    show prt d cur (x :: (x + e) :: accL (x + e) dd) = [cur ++ x :: (x + e) :: accL (x + e) dd]
    rw [prt, if_neg (by omega), ih]
    simp
/-- The distances within a selection. -/
def rst (X : Pu) (s : Int) : List Int := List.replicate (s / X.n).toNat X.pi ++ X.ga :: List.replicate (s % X.n).toNat X.pi
theorem dsL_rst (X : Pu) (s : Int) : dsL X s = X.pa :: rst X s := by simp [dsL, dsR, rst]
theorem rst_lt {X : Pu} (ok : POk X) (s : Int) : ∀ e ∈ rst X s, e < X.pa := fun e he => by
  have hp := ok.pi; have hs := ok.sl; have hg := ok.ga; have ha := ok.pa
  simp only [rst, List.mem_append, List.mem_replicate, List.mem_cons] at he
  rcases he with ⟨_, rfl⟩ | rfl | ⟨_, rfl⟩ <;> omega
theorem wrtL_cons (X : Pu) (s : Int) (L : List Int) (t : Int) : wrtL X (s :: L) t = t :: accL t (rst X s ++ alD X L) := by
  show accL (t - X.pa) (dsL X s ++ alD X L) = _
  rw [dsL_rst]
  show (t - X.pa + X.pa) :: accL (t - X.pa + X.pa) (rst X s ++ alD X L) = _
  rw [show t - X.pa + X.pa = t by omega]
theorem prt_wrt {X : Pu} (ok : POk X) (s : Int) (L : List Int) (t : Int) : prtL X.pa (wrtL X (s :: L) t) = (t :: accL t (rst X s)) :: prtL X.pa (wrtL X L (sumL t (rst X s) + X.pa)) := by
  unfold prtL
  rw [wrtL_cons]
  cases L with
  | nil =>
    rw [show alD X [] = [] from rfl, List.append_nil, prt_near _ _ _ (rst_lt ok s)]
    show _ = _ :: prt X.pa [] (accL _ [])
    simp [accL, prt]
  | cons s2 L2 =>
    have e : alD X (s2 :: L2) = X.pa :: (rst X s2 ++ alD X L2) := by
      show dsL X s2 ++ alD X L2 = _
      rw [dsL_rst]; rfl
    rw [e, prt_far (Int.le_refl _) _ _ _ _ (rst_lt ok s), wrtL_cons]
    rfl
theorem adjB_reg {X : Pu} (h : 0 ≤ X.sl) : ∀ (a : Nat) (x : Int), adjB X (x :: accL x (List.replicate a X.pi)) = true
  | 0, x => rfl
  | a + 1, x => by
    rw [List.replicate_succ]
    show (fromI (X.pi - X.sl) (x + X.pi - x) (X.pi + X.sl) && adjB X ((x + X.pi) :: accL (x + X.pi) (List.replicate a X.pi))) = true
    rw [adjB_reg h a, Bool.and_true, fromI_iff]
    omega
theorem sel_wrt {X : Pu} (ok : POk X) {s : Int} (hs : 0 ≤ s ∧ s < X.l * X.n) (t : Int) : selO X (t :: accL t (rst X s)) = some s := by
  have hp := ok.pi; have hsl := ok.sl; have hg := ok.ga; have hn := ok.n
  have h1 : s / X.n < X.l := Int.ediv_lt_of_lt_mul (by omega) hs.2
  have h2 := Int.emod_lt_of_pos s (show 0 < X.n by omega)
  have h3 : 0 ≤ s / X.n := Int.ediv_nonneg hs.1 (by omega)
  have h4 : 0 ≤ s % X.n := Int.emod_nonneg s (by omega)
  have hd := Int.mul_ediv_add_emod s X.n
  have hrl : ∀ (a : Nat), ∀ e ∈ List.replicate a X.pi, e < X.ga := fun a e he => by rw [(List.mem_replicate.1 he).2]; omega
  have e : prtL X.ga (t :: accL t (rst X s)) = [t :: accL t (List.replicate (s / X.n).toNat X.pi), (sumL t (List.replicate (s / X.n).toNat X.pi) + X.ga) :: accL (sumL t (List.replicate (s / X.n).toNat X.pi) + X.ga) (List.replicate (s % X.n).toNat X.pi)] := by
    unfold prtL rst
    rw [prt_far (Int.le_refl _) _ _ _ _ (hrl _), prt_near _ _ _ (hrl _)]
    rfl
  unfold selO
  rw [e]
  simp only [grB, adjB_reg hsl.1, Bool.true_and, List.length_cons, accL_len, List.length_replicate]
  rw [if_pos (by simp only [Bool.and_eq_true, decide_eq_true_eq]; omega)]
  congr 1
  rw [show (((s / X.n).toNat + 1 : Nat) : Int) - 1 = s / X.n by omega, show (((s % X.n).toNat + 1 : Nat) : Int) - 1 = s % X.n by omega, Int.mul_comm]
  exact hd
theorem lofA_wrt {X : Pu} (ok : POk X) : ∀ (L : List Int) (t : Int) (acc : List Int), (∀ s ∈ L, 0 ≤ s ∧ s < X.l * X.n) → lofA X (prtL X.pa (wrtL X L t)) acc = some (acc ++ L)
  | [], t, acc, _ => by
    show lofA X (prt X.pa [] (accL _ [])) acc = _
    simp [accL, prt, lofA]
  | s :: L, t, acc, h => by
    rw [prt_wrt ok, lofA, sel_wrt ok (h s (by simp))]
    have := lofA_wrt ok L (sumL t (rst X s) + X.pa) (acc ++ [s]) (fun x hx => h x (by simp [hx]))
    rw [show acc ++ s :: L = acc ++ [s] ++ L by simp]
    exact this
theorem lof_wrt {X : Pu} (ok : POk X) {L : List Int} (t : Int) (h : ∀ s ∈ L, 0 ≤ s ∧ s < X.l * X.n) : lof X (wrtL X L t) = some L := by
  unfold lof
  rw [lofA_wrt ok L t [] h, List.nil_append]
end Go.Proofs.Yteianfbdhakhpaa
/-! Clean pulses, group by group, as the specification reads them. -/
namespace Go.Proofs.Yteianfbdhakhpaa
set_option linter.unusedSimpArgs false
set_option linter.unusedVariables false
open Go Go.RowKit

/-- A distance within a group. -/
def inR (X : Pu) (d : Int) : Bool := fromI (X.pi - X.sl) d (X.pi + X.sl)
theorem inR_lt {X : Pu} (ok : POk X) {d : Int} (h : inR X d = true) : d < X.ga := by
  simp only [inR, fromI, Bool.and_eq_true, decide_eq_true_eq] at h
  have := ok.ga; omega
theorem adj_acc (X : Pu) : ∀ (q : List Int) (x : Int), adjB X (x :: accL x q) = q.all (inR X)
  | [], _ => rfl
  | e :: q, x => by
    show (fromI (X.pi - X.sl) (x + e - x) (X.pi + X.sl) && adjB X ((x + e) :: accL (x + e) q)) = _
    rw [adj_acc X q, show x + e - x = e by omega, List.all_cons]; rfl
theorem acc_len : ∀ (q : List Int) (x : Int), (accL x q).length = q.length
  | [], _ => rfl
  | e :: q, x => by show (accL (x + e) q).length + 1 = _; rw [acc_len q]; rfl
theorem acc_app : ∀ (q r : List Int) (x : Int), accL x (q ++ r) = accL x q ++ accL (sumL x q) r
  | [], _, _ => rfl
  | e :: q, r, x => by show _ :: accL (x + e) (q ++ r) = _; rw [acc_app q r]; rfl
theorem sum_app : ∀ (q r : List Int) (x : Int), sumL x (q ++ r) = sumL (sumL x q) r
  | [], _, _ => rfl
  | e :: q, r, x => by show sumL (x + e) (q ++ r) = _; rw [sum_app q r]; rfl
/-- Where distances are at least d for the first time. -/
theorem split_lt (d : Int) : ∀ q : List Int, ∃ a b, q = a ++ b ∧ (∀ e ∈ a, e < d) ∧ (b = [] ∨ ∃ e r, b = e :: r ∧ d ≤ e)
  | [] => ⟨[], [], rfl, by simp, .inl rfl⟩
  | e :: q => by
    by_cases h : d ≤ e
    · exact ⟨[], e :: q, rfl, by simp, .inr ⟨e, q, rfl, h⟩⟩
    · obtain ⟨a, b, rfl, h1, h2⟩ := split_lt d q
      exact ⟨e :: a, b, rfl, fun x hx => by rcases List.mem_cons.1 hx with rfl | hx; omega; exact h1 x hx, h2⟩
theorem prt_ne (d : Int) : ∀ (r cur : List Int), r ≠ [] → prt d cur r ≠ []
  | [], _, h => absurd rfl h
  | [x], _, _ => by simp [prt]
  | x :: y :: r, cur, _ => by
    rw [prt]; split
    · simp
    · exact prt_ne d (y :: r) _ (by simp)
/-- What two groups are. -/
def Two (X : Pu) (q q1 r1 : List Int) (e : Int) : Prop := q = q1 ++ e :: r1 ∧ q1.all (inR X) = true ∧ r1.all (inR X) = true ∧ X.ga ≤ e ∧ ((q1.length : Int) + 1 ≤ X.l) ∧ ((r1.length : Int) + 1 ≤ X.n)
theorem sel_two {X : Pu} (ok : POk X) {q q1 r1 : List Int} {e : Int} (h : Two X q q1 r1 e) (x : Int) : selO X (x :: accL x q) = some ((q1.length : Int) * X.n + r1.length) := by
  obtain ⟨rfl, h1, h2, h3, h4, h5⟩ := h
  unfold selO prtL
  rw [prt_far h3 r1 q1 x [] (fun y hy => inR_lt ok (List.all_eq_true.1 h1 y hy)), prt_near r1 _ _ (fun y hy => inR_lt ok (List.all_eq_true.1 h2 y hy))]
  simp only [List.nil_append, grB, adj_acc, h1, h2, Bool.true_and, List.length_cons, acc_len]
  rw [if_pos (by simp; omega)]
  congr 1
  rw [show ((q1.length + 1 : Nat) : Int) - 1 = q1.length by omega, show ((r1.length + 1 : Nat) : Int) - 1 = r1.length by omega]
theorem sel_some {X : Pu} {q : List Int} {x s : Int} (h : selO X (x :: accL x q) = some s) : ∃ q1 r1 e, Two X q q1 r1 e := by
  obtain ⟨q1, q2, rfl, h1, h2⟩ := split_lt X.ga q
  unfold selO prtL at h
  rcases h2 with rfl | ⟨e, r, rfl, he⟩
  · rw [List.append_nil, prt_near _ _ _ h1] at h; cases h
  · rw [prt_far he r q1 x [] h1] at h
    obtain ⟨r1, r2, rfl, h3, h4⟩ := split_lt X.ga r
    rcases h4 with rfl | ⟨e2, r', rfl, he2⟩
    · rw [List.append_nil, prt_near _ _ _ h3] at h
      simp only [List.nil_append, grB, adj_acc, List.length_cons, acc_len] at h
      split at h
      · rename_i hc
        simp only [Bool.and_eq_true, decide_eq_true_eq] at hc
        exact ⟨q1, r1, e, by rw [List.append_nil], hc.1.1, hc.2.1, he, by omega, by omega⟩
      · cases h
    · rw [prt_far he2 r' r1 _ [] h3] at h
      cases hp : prt X.ga [] ((sumL (sumL x q1 + e) r1 + e2) :: accL (sumL (sumL x q1 + e) r1 + e2) r') with
      | nil => exact absurd hp (prt_ne _ _ _ (by simp))
      | cons a b => rw [hp] at h; cases h
/-- A step over one selection. -/
theorem lofR_step {X : Pu} (ok : POk X) {q q1 r1 p2 : List Int} {e : Int} (h : Two X q q1 r1 e) (hpa : e < X.pa) (h2 : p2 = [] ∨ ∃ f r, p2 = f :: r ∧ X.pa ≤ f) (x : Int) (L : List Int) :
    lofA X (prtL X.pa (x :: accL x (q ++ p2))) L = lofA X (prtL X.pa ((x :: accL x (q ++ p2)).drop (q.length + 1))) (L ++ [(q1.length : Int) * X.n + r1.length]) := by
  have hq : ∀ y ∈ q, y < X.pa := fun y hy => by
    have hh := ok.pa
    rw [h.1] at hy
    rcases List.mem_append.1 hy with hy | hy
    · have := inR_lt ok (List.all_eq_true.1 h.2.1 y hy); omega
    · rcases List.mem_cons.1 hy with rfl | hy
      · exact hpa
      · have := inR_lt ok (List.all_eq_true.1 h.2.2.1 y hy); omega
  have hd : (x :: accL x (q ++ p2)).drop (q.length + 1) = accL (sumL x q) p2 := by
    rw [List.drop_succ_cons, acc_app, List.drop_left' (acc_len q x)]
  rw [hd]
  rcases h2 with rfl | ⟨f, r, rfl, hf⟩
  · rw [List.append_nil]
    unfold prtL
    rw [prt_near _ _ _ hq, List.nil_append, lofA, sel_two ok h]; rfl
  · unfold prtL
    rw [prt_far hf r q x [] hq, List.nil_append, lofA, sel_two ok h]; rfl
theorem lofR_none {X : Pu} {dd : List Int} {x : Int} {L : List Int} (h : ∀ q q1 r1 e p2, dd = q ++ p2 → Two X q q1 r1 e → e < X.pa → (p2 = [] ∨ ∃ f r, p2 = f :: r ∧ X.pa ≤ f) → False) : lofA X (prtL X.pa (x :: accL x dd)) L = none := by
  obtain ⟨q, p2, rfl, h1, h2⟩ := split_lt X.pa dd
  have key : selO X (x :: accL x q) = none := by
    cases hs : selO X (x :: accL x q) with
    | none => rfl
    | some s =>
      obtain ⟨q1, r1, e, ht⟩ := sel_some hs
      exact (h q q1 r1 e p2 rfl ht (h1 e (by rw [ht.1]; simp)) h2).elim
  rcases h2 with rfl | ⟨f, r, rfl, hf⟩
  · rw [List.append_nil]
    unfold prtL
    rw [prt_near _ _ _ h1, List.nil_append, lofA, key]
  · unfold prtL
    rw [prt_far hf r q x [] h1, List.nil_append, lofA, key]
/-- The distances of times. -/
def dsO : Int → List Int → List Int
  | _, [] => []
  | x, y :: r => (y - x) :: dsO y r
theorem ds_acc : ∀ (r : List Int) (x : Int), accL x (dsO x r) = r
  | [], _ => rfl
  | y :: r, x => by show (x + (y - x)) :: accL (x + (y - x)) (dsO y r) = _; rw [show x + (y - x) = y by omega, ds_acc r]
theorem ds_len : ∀ (r : List Int) (x : Int), (dsO x r).length = r.length
  | [], _ => rfl
  | y :: r, x => by simp [dsO, ds_len r]
theorem ds_at : ∀ (r : List Int) (x : Int) (i : Nat) (y z : Int), (x :: r)[i]? = some y → r[i]? = some z → (dsO x r)[i]? = some (z - y)
  | [], _, _, _, _, _, h => by simp at h
  | y' :: r, x, 0, y, z, h1, h2 => by simp at h1 h2; subst h1 h2; rfl
  | y' :: r, x, i + 1, y, z, h1, h2 => by
    simp only [List.getElem?_cons_succ] at h1 h2
    show (dsO y' r)[i]? = _
    exact ds_at r y' i y z h1 h2
/-- A group of n pulses begins at a pulse. -/
def Run (X : Pu) (ts : List Int) (at0 n : Nat) : Prop :=
  1 ≤ n ∧ at0 + n ≤ ts.length ∧ (∀ i y z, i + 1 < n → ts[at0 + i]? = some y → ts[at0 + i + 1]? = some z → inR X (z - y) = true) ∧ (∀ y z, ts[at0 + n - 1]? = some y → ts[at0 + n]? = some z → inR X (z - y) = false)
theorem run_ds {X : Pu} {ts : List Int} {at0 n : Nat} (h : Run X ts at0 n) {x : Int} {r : List Int} (hd : ts.drop at0 = x :: r) : (∀ i d, i + 1 < n → (dsO x r)[i]? = some d → inR X d = true) ∧ (∀ d, (dsO x r)[n - 1]? = some d → inR X d = false) := by
  have e : ∀ i, (x :: r)[i]? = ts[at0 + i]? := fun i => by rw [← hd, List.getElem?_drop]
  have e1 : ∀ i, r[i]? = ts[at0 + i + 1]? := fun i => by rw [show at0 + i + 1 = at0 + (i + 1) by omega, ← e (i + 1)]; rfl
  have key : ∀ i d, (dsO x r)[i]? = some d → ∃ y z, (x :: r)[i]? = some y ∧ r[i]? = some z ∧ d = z - y := fun i d hi => by
    have hl := (List.getElem?_eq_some_iff.1 hi).1
    rw [ds_len] at hl
    have a : (x :: r)[i]? = some ((x :: r)[i]'(by simp; omega)) := List.getElem?_eq_getElem _
    have b : r[i]? = some r[i] := List.getElem?_eq_getElem _
    exact ⟨_, _, a, b, by have := ds_at r x i _ _ a b; rw [this] at hi; exact (Option.some.inj hi).symm⟩
  obtain ⟨h1, h2, h3, h4⟩ := h
  constructor
  · intro i d hi hh
    obtain ⟨y, z, a, b, rfl⟩ := key i d hh
    rw [e] at a; rw [e1] at b
    exact h3 i y z hi a b
  · intro d hh
    obtain ⟨y, z, a, b, rfl⟩ := key _ d hh
    rw [e] at a; rw [e1] at b
    exact h4 y z (by rw [← a]; congr 1; omega) (by rw [← b]; congr 1; omega)
/-- The run of a list of distances is what stands ahead of a distance that is none. -/
theorem run_len {X : Pu} {dd q1 rest : List Int} {n : Nat} (hn : 1 ≤ n) (h1 : ∀ i d, i + 1 < n → dd[i]? = some d → inR X d = true) (h2 : ∀ d, dd[n - 1]? = some d → inR X d = false) (hl : n ≤ dd.length + 1) (e : dd = q1 ++ rest) (hq : q1.all (inR X) = true) (hr : ∀ d, rest[0]? = some d → inR X d = false) : n = q1.length + 1 := by
  subst e
  rcases Nat.lt_trichotomy (n - 1) q1.length with h | h | h
  · have a : (q1 ++ rest)[n - 1]? = some q1[n - 1] := by rw [List.getElem?_append_left h]; exact List.getElem?_eq_getElem h
    have := h2 _ a
    rw [List.all_eq_true.1 hq _ (List.getElem_mem h)] at this
    cases this
  · omega
  · have hb : q1.length < (q1 ++ rest).length := by omega
    have a : (q1 ++ rest)[q1.length]? = some ((q1 ++ rest)[q1.length]'hb) := List.getElem?_eq_getElem hb
    have b := h1 q1.length _ (by omega) a
    rw [List.getElem?_append_right (Nat.le_refl _), Nat.sub_self] at a
    rw [hr _ a] at b; cases b
/-- What the specification's step finds, if the pulses are clean. -/
theorem cl_good {X : Pu} (ok : POk X) {ts : List Int} {at0 a : Nat} (hat : at0 < ts.length) (ha : Run X ts at0 a) {L : List Int} (h : lofA X (prtL X.pa (ts.drop at0)) L ≠ none) :
    ∃ b y z, Run X ts (at0 + a) b ∧ ts[at0 + a - 1]? = some y ∧ ts[at0 + a]? = some z ∧ X.ga ≤ z - y ∧ z - y ≤ X.pa - 1 ∧ (a : Int) ≤ X.l ∧ (b : Int) ≤ X.n ∧
      (∀ y z, ts[at0 + a + b - 1]? = some y → ts[at0 + a + b]? = some z → X.pa ≤ z - y) ∧ lofA X (prtL X.pa (ts.drop at0)) L = lofA X (prtL X.pa (ts.drop (at0 + a + b))) (L ++ [((a : Int) - 1) * X.n + b - 1]) := by
  cases hd : ts.drop at0 with
  | nil => rw [List.drop_eq_nil_iff] at hd; omega
  | cons x r =>
    rw [hd] at h
    obtain ⟨k1, k2⟩ := run_ds ha hd
    have hlr : r.length + 1 = ts.length - at0 := by have := congrArg List.length hd; simp at this; omega
    have hds := ds_acc r x
    have hdl := ds_len r x
    have hdat := fun i y z => ds_at r x i y z
    generalize dsO x r = dd at *
    subst hds
    rw [acc_len] at hlr
    have e : ∀ i, (x :: accL x dd)[i]? = ts[at0 + i]? := fun i => by rw [← hd, List.getElem?_drop]
    have e1 : ∀ i, (accL x dd)[i]? = ts[at0 + i + 1]? := fun i => by rw [show at0 + i + 1 = at0 + (i + 1) by omega, ← e (i + 1)]; rfl
    have dat : ∀ i y z, ts[at0 + i]? = some y → ts[at0 + i + 1]? = some z → dd[i]? = some (z - y) := fun i y z h1 h2 => hdat i y z (by rw [e]; exact h1) (by rw [e1]; exact h2)
    apply Classical.byContradiction
    intro hno
    refine h (lofR_none ?_)
    intro q q1 r1 e0 p2 hq ht hpa hp2
    obtain ⟨t1, t2, t3, t4, t5, t6⟩ := id ht
    have hnr : ∀ d, X.ga ≤ d → inR X d = false := fun d hd => by
      cases hh : inR X d with
      | false => rfl
      | true => have := inR_lt ok hh; omega
    have hal : a = q1.length + 1 := run_len ha.1 k1 k2 (by have := ha.2.1; omega) (show dd = q1 ++ (e0 :: r1 ++ p2) by rw [hq, t1]; simp) t2 (fun d hh => by simp at hh; subst hh; exact hnr _ t4)
    have hddl : dd.length = q1.length + 1 + r1.length + p2.length := by rw [hq, t1]; simp; omega
    have hg : ∀ i, i < ts.length → ts[i]? = some (ts.getD i 0) := fun i hi => by simp [List.getD, hi]
    refine hno ⟨r1.length + 1, ts.getD (at0 + a - 1) 0, ts.getD (at0 + a) 0, ?_, hg _ (by omega), hg _ (by omega), ?_⟩
    · refine ⟨by omega, by omega, fun i y z hi hy hz => ?_, fun y z hy hz => ?_⟩
      · have := dat (a + i) y z (by rw [show at0 + (a + i) = at0 + a + i by omega]; exact hy) (by rw [show at0 + (a + i) + 1 = at0 + a + i + 1 by omega]; exact hz)
        rw [hq, t1, List.append_assoc, List.getElem?_append_right (by omega), hal, show q1.length + 1 + i - q1.length = i + 1 by omega, List.cons_append, List.getElem?_cons_succ, List.getElem?_append_left (by omega)] at this
        exact List.all_eq_true.1 t3 _ (List.mem_of_getElem? this)
      · have := dat (a + r1.length) y z (by rw [show at0 + (a + r1.length) = at0 + a + (r1.length + 1) - 1 by omega]; exact hy) (by rw [show at0 + (a + r1.length) + 1 = at0 + a + (r1.length + 1) by omega]; exact hz)
        rw [hq, t1, List.append_assoc, List.getElem?_append_right (by omega), hal, show q1.length + 1 + r1.length - q1.length = r1.length + 1 by omega, List.cons_append, List.getElem?_cons_succ, List.getElem?_append_right (by omega), Nat.sub_self] at this
        rcases hp2 with rfl | ⟨f, r', rfl, hf⟩
        · simp at this
        · simp at this
          have hh := ok.pa
          exact hnr _ (by omega)
    · have he0 : dd[q1.length]? = some e0 := by rw [hq, t1, List.append_assoc, List.getElem?_append_right (Nat.le_refl _), Nat.sub_self]; rfl
      have h1 := dat q1.length _ _ (by rw [show at0 + q1.length = at0 + a - 1 by omega]; exact hg _ (by omega)) (by rw [show at0 + q1.length + 1 = at0 + a by omega]; exact hg _ (by omega))
      rw [he0] at h1
      have h1 := Option.some.inj h1
      refine ⟨by omega, by omega, by omega, by omega, fun y z hy hz => ?_, ?_⟩
      · have := dat (a + r1.length) y z (by rw [show at0 + (a + r1.length) = at0 + a + (r1.length + 1) - 1 by omega]; exact hy) (by rw [show at0 + (a + r1.length) + 1 = at0 + a + (r1.length + 1) by omega]; exact hz)
        rw [hq, t1, List.append_assoc, List.getElem?_append_right (by omega), hal, show q1.length + 1 + r1.length - q1.length = r1.length + 1 by omega, List.cons_append, List.getElem?_cons_succ, List.getElem?_append_right (by omega), Nat.sub_self] at this
        rcases hp2 with rfl | ⟨f, r', rfl, hf⟩
        · simp at this
        · simp at this; omega
      · have hst := lofR_step ok ht hpa hp2 x L
        rw [← hq] at hst
        rw [hst, ← hd, List.drop_drop]
        congr 3
        · rw [t1]; simp; omega
        · rw [hal]
          rw [show ((q1.length + 1 : Nat) : Int) - 1 = q1.length by omega]
          omega
theorem mem_take_at {α : Type} {l : List α} {n : Nat} {x : α} (h : x ∈ l.take n) : ∃ i, i < n ∧ l[i]? = some x := by
  obtain ⟨i, hi, rfl⟩ := List.getElem_of_mem h
  simp only [List.length_take] at hi
  exact ⟨i, by omega, by rw [List.getElem_take]; exact List.getElem?_eq_getElem _⟩
/-- Where the specification's step finds a selection, it is one. -/
theorem cl_pos {X : Pu} (ok : POk X) {ts : List Int} {at0 a b : Nat} (ha : Run X ts at0 a) (hb : Run X ts (at0 + a) b) (hg : ∀ y z, ts[at0 + a - 1]? = some y → ts[at0 + a]? = some z → X.ga ≤ z - y ∧ z - y ≤ X.pa - 1) (hl : (a : Int) ≤ X.l) (hn : (b : Int) ≤ X.n)
    (hp : ∀ y z, ts[at0 + a + b - 1]? = some y → ts[at0 + a + b]? = some z → X.pa ≤ z - y) (L : List Int) : lofA X (prtL X.pa (ts.drop at0)) L = lofA X (prtL X.pa (ts.drop (at0 + a + b))) (L ++ [((a : Int) - 1) * X.n + b - 1]) := by
  have a1 := ha.1
  have b1 := hb.1
  have ab := hb.2.1
  cases hd : ts.drop at0 with
  | nil => rw [List.drop_eq_nil_iff] at hd; omega
  | cons x r =>
    have hlr : r.length + 1 = ts.length - at0 := by have := congrArg List.length hd; simp at this; omega
    have hds := ds_acc r x
    have hdl := ds_len r x
    have hdat := fun i y z => ds_at r x i y z
    generalize dsO x r = dd at *
    subst hds
    rw [acc_len] at hlr
    have e : ∀ i, (x :: accL x dd)[i]? = ts[at0 + i]? := fun i => by rw [← hd, List.getElem?_drop]
    have e1 : ∀ i, (accL x dd)[i]? = ts[at0 + i + 1]? := fun i => by rw [show at0 + i + 1 = at0 + (i + 1) by omega, ← e (i + 1)]; rfl
    have hgd : ∀ i, i < ts.length → ts[i]? = some (ts.getD i 0) := fun i hi => by simp [List.getD, hi]
    have dat : ∀ i, i < dd.length → dd[i]? = some (ts.getD (at0 + i + 1) 0 - ts.getD (at0 + i) 0) := fun i hi => hdat i _ _ (by rw [e]; exact hgd _ (by omega)) (by rw [e1]; exact hgd _ (by omega))
    have s1 : dd = dd.take (a - 1) ++ dd.drop (a - 1) := (List.take_append_drop _ _).symm
    have s2 : dd.drop (a - 1) = (ts.getD (at0 + a) 0 - ts.getD (at0 + a - 1) 0) :: dd.drop a := by
      have h1 : a - 1 < dd.length := by omega
      rw [List.drop_eq_getElem_cons h1]
      have := dat (a - 1) h1
      rw [List.getElem?_eq_getElem h1] at this
      rw [Option.some.inj this, show at0 + (a - 1) + 1 = at0 + a by omega, show at0 + (a - 1) = at0 + a - 1 by omega, show a - 1 + 1 = a by omega]
    have s3 : dd.drop a = (dd.drop a).take (b - 1) ++ dd.drop (a + b - 1) := by
      rw [show a + b - 1 = a + (b - 1) by omega, ← List.drop_drop]
      exact (List.take_append_drop _ _).symm
    obtain ⟨g1, g2⟩ := hg _ _ (hgd _ (by omega)) (hgd _ (by omega))
    have ht : Two X (dd.take (a - 1) ++ (ts.getD (at0 + a) 0 - ts.getD (at0 + a - 1) 0) :: (dd.drop a).take (b - 1)) (dd.take (a - 1)) ((dd.drop a).take (b - 1)) (ts.getD (at0 + a) 0 - ts.getD (at0 + a - 1) 0) := by
      refine ⟨rfl, List.all_eq_true.2 fun y hy => ?_, List.all_eq_true.2 fun y hy => ?_, g1, ?_, ?_⟩
      · obtain ⟨i, hi, hh⟩ := mem_take_at hy
        rw [dat i (by omega)] at hh
        rw [← Option.some.inj hh]
        exact ha.2.2.1 i _ _ (by omega) (hgd _ (by omega)) (hgd _ (by omega))
      · obtain ⟨i, hi, hh⟩ := mem_take_at hy
        rw [List.getElem?_drop, dat (a + i) (by omega)] at hh
        rw [← Option.some.inj hh]
        exact hb.2.2.1 i _ _ (by omega) (by rw [show at0 + a + i = at0 + (a + i) by omega]; exact hgd _ (by omega)) (by rw [show at0 + a + i + 1 = at0 + (a + i) + 1 by omega]; exact hgd _ (by omega))
      · rw [List.length_take]; omega
      · rw [List.length_take, List.length_drop]; omega
    have hp2 : dd.drop (a + b - 1) = [] ∨ ∃ f r, dd.drop (a + b - 1) = f :: r ∧ X.pa ≤ f := by
      by_cases hh : a + b - 1 < dd.length
      · refine .inr ⟨_, _, List.drop_eq_getElem_cons hh, ?_⟩
        have := dat _ hh
        rw [List.getElem?_eq_getElem hh] at this
        rw [Option.some.inj this]
        exact hp _ _ (by rw [show at0 + a + b - 1 = at0 + (a + b - 1) by omega]; exact hgd _ (by omega)) (by rw [show at0 + a + b = at0 + (a + b - 1) + 1 by omega]; exact hgd _ (by omega))
      · exact .inl (List.drop_eq_nil_iff.2 (by omega))
    have hst := lofR_step ok ht (show ts.getD (at0 + a) 0 - ts.getD (at0 + a - 1) 0 < X.pa by omega) hp2 x L
    have hq : (dd.take (a - 1) ++ (ts.getD (at0 + a) 0 - ts.getD (at0 + a - 1) 0) :: (dd.drop a).take (b - 1)) ++ dd.drop (a + b - 1) = dd := by
      rw [List.append_assoc, List.cons_append, ← s3, ← s2, ← s1]
    rw [hq] at hst
    rw [hst, ← hd, List.drop_drop]
    congr 3
    · simp only [List.length_append, List.length_cons, List.length_take, List.length_drop]; omega
    · rw [List.length_take, List.length_take, List.length_drop, show min (a - 1) dd.length = a - 1 by omega, show min (b - 1) (dd.length - a) = b - 1 by omega, show ((a - 1 : Nat) : Int) = (a : Int) - 1 by omega]
      omega
end Go.Proofs.Yteianfbdhakhpaa
/-! The reference's IsList. -/
namespace Go.Proofs.Yteianfbdhakhpaa
set_option linter.unusedSimpArgs false
set_option linter.unusedVariables false
open Go Go.RowKit
set_option maxRecDepth 100000 in
set_option maxHeartbeats 3000000 in
theorem rIsList_any (aT : Option Addr) (cT : Nat) (X : Pu) (a : Option Addr) (c : Nat) (l : List Int) (w : World) (hI : Ints w a l) : Calls Try.prog 36 #[.agg #[.int .i64 X.l, .int .i64 X.n, .int .i64 X.pi, .int .i64 X.sl, .int .i64 X.ga, .int .i64 X.pa, .int .i64 X.sp, .slice aT X.ts.length cT], .slice a l.length c] w fun e w' => e = .returned (.bool (listB X l)) ∧ Below w.heap.size w w' := by
  obtain ⟨W, hW, hb, _, x0⟩ := boxes1 w #[.int .i64 X.l, .int .i64 X.n, .int .i64 X.pi, .int .i64 X.sl, .int .i64 X.ga, .int .i64 X.pa, .int .i64 X.sp, .slice aT X.ts.length cT] 24
  replace hI := hI.below hb (Nat.le_refl _)
  have hse := fun x V => rIsSelection_any aT cT X x V
  have hlen := hI.len
  have H1 := hid (show ∀ k x, l[k]? = some x → selB X x = false → listB X l = false from fun k x hk hx => by
    unfold listB
    rw [Bool.and_eq_false_iff]
    refine .inr (decide_eq_false fun h => ?_)
    rw [cntF_all h x (List.mem_of_getElem? hk)] at hx
    cases hx)
  have H2 := hid (show (l.take l.length).all (selB X) = true → listB X l = decide (l.length ≤ 24) from fun h => by
    rw [List.take_length] at h
    unfold listB
    rw [decide_eq_true (show cntF (selB X) l = l.length from List.length_filter_eq_length_iff.2 (List.all_eq_true.1 h)), Bool.and_true])
  generalize listB X l = r at *
  generalize selB X = f at *
  obtain ⟨n, hn⟩ : ∃ n, n = l.length := ⟨_, rfl⟩
  rw [← hn] at hlen H2 ⊢
  have HN := hid hn
  generalize X.ts.length = m at *
  clear hn
  have HX0 := hid (And.intro x0 hb)
  have c0 := x0.cell 0 rfl; have c1 := x0.cell 1 rfl; have c2 := x0.cell 2 rfl; have c3 := x0.cell 3 rfl; have c4 := x0.cell 4 rfl; have c5 := x0.cell 5 rfl; have c6 := x0.cell 6 rfl; have c7 := x0.cell 7 rfl
  go_enter Try.func36, Try.ntmps36
  go_wp2
  clear hW c0 c1 c2 c3 c4 c5 c6 c7 x0 hb
  go_loopw [5] (fun v5 wr => ∃ k : Nat, k ≤ n ∧ v5 = .int .i64 (k : Int) ∧ Hid ((l.take k).all f = true) ∧ Below W.heap.size W wr) (fun v5 _ => n - (intOf v5).toNat)
  case atStart => exact ⟨0, Nat.zero_le _, rfl, hid rfl, Below.refl _ _⟩
  case round =>
    obtain ⟨k, hk, rfl, HA, hb⟩ := hrel
    by_cases hlt : k < n
    · obtain ⟨b, off, y, rfl, hbl, hc, hy1, hy2, hg, _⟩ := (hI.below hb (Nat.le_refl _)).at (k := k) (by rw [← HN.out]; exact hlt)
      have hkI : (k : Int) < n := by omega
      have hk0 : (0 : Int) ≤ (k : Int) := by omega
      have hcl : ClB wr b (off + k) (.int .i64 y) := ⟨hc, hbl⟩
      have x0 := HX0.out.1.below hb
      have hse1 := hse y
      clear hc
      go_upto_region 4 with fail
      have S0 : BlS wr wr.drew := (Below.refl wr.heap.size wr).drew
      refine wp_region_headW 7 (fun w' => BlS wr w') (by kernel_rfl) (by kernel_rfl) ?_
      generalize wr.drew = Y0 at *
      refine HeadAt.takeW (i := 0) (.agg #[.int .i64 X.l, .int .i64 X.n, .int .i64 X.pi, .int .i64 X.sl, .int .i64 X.ga, .int .i64 X.pa, .int .i64 X.sp, .slice aT m cT]) rfl (by kernel_rfl) (.inl ⟨rfl, fun w' z => ?_⟩) S0 ?_
      · (have z0 := (x0.below z).cell 0 rfl; have z1 := (x0.below z).cell 1 rfl; have z2 := (x0.below z).cell 2 rfl; have z3 := (x0.below z).cell 3 rfl; have z4 := (x0.below z).cell 4 rfl; have z5 := (x0.below z).cell 5 rfl; have z6 := (x0.below z).cell 6 rfl; have z7 := (x0.below z).cell 7 rfl; simp [go_sem, z0, z1, z2, z3, z4, z5, z6, z7])
      (try simp only [Act.put, List.getElem_toArray, List.getElem_cons_succ, List.getElem_cons_zero, List.setIfInBounds_toArray, List.set_cons_succ, List.set_cons_zero])
      refine HeadAt.takeW (i := 1) (.slice (some ⟨b, off, none⟩) n c) rfl (by kernel_rfl) (.inl ⟨rfl, fun _ _ => by simp [go_sem]⟩) S0 ?_
      (try simp only [Act.put, List.getElem_toArray, List.getElem_cons_succ, List.getElem_cons_zero, List.setIfInBounds_toArray, List.set_cons_succ, List.set_cons_zero])
      refine HeadAt.takeW (i := 2) (.int .i64 (k : Int)) rfl (by kernel_rfl) (.inl ⟨rfl, fun _ _ => by simp [go_sem]⟩) S0 ?_
      (try simp only [Act.put, List.getElem_toArray, List.getElem_cons_succ, List.getElem_cons_zero, List.setIfInBounds_toArray, List.set_cons_succ, List.set_cons_zero])
      refine HeadAt.takeW (i := 3) (.pointer (some ⟨b, off + k, none⟩)) rfl (by kernel_rfl) (.inl ⟨rfl, fun w' z => ?_⟩) S0 ?_
      · (simp [go_sem, hkI, hk0])
      (try simp only [Act.put, List.getElem_toArray, List.getElem_cons_succ, List.getElem_cons_zero, List.setIfInBounds_toArray, List.set_cons_succ, List.set_cons_zero])
      refine HeadAt.takeW (i := 4) (.int .i64 y) rfl (by kernel_rfl) (.inl ⟨rfl, fun w' z => ?_⟩) S0 ?_
      · (have z0 := (hcl.below z).1; simp [go_sem, z0])
      (try simp only [Act.put, List.getElem_toArray, List.getElem_cons_succ, List.getElem_cons_zero, List.setIfInBounds_toArray, List.set_cons_succ, List.set_cons_zero])
      skip
      refine HeadAt.one (i := 5) rfl (by kernel_rfl) ?_
      generalize hK : Upto _ _ = K0
      (try simp only [Act.put, List.getElem_toArray, List.getElem_cons_succ, List.getElem_cons_zero, List.setIfInBounds_toArray, List.set_cons_succ, List.set_cons_zero])
      cases hy : f y with
      | true =>
        rw [hy] at hse1
        have HB := hid (show (l.take (k + 1)).all f = true by rw [List.take_add_one, hg.out, List.all_append, HA.out]; simp [hy])
        clear hy hg
        go_wp2_with fail
        refine (hse1 _).mono ?_
        rintro e V1 ⟨rfl, hb1⟩
        go_wp2_with fail
        replace S0 : BlS wr V1 := Below.trans S0 (hb1.mono (Below.size S0))
        subst hK
        refine ⟨S0, ?_⟩
        clear hb1
        (try simp only [Act.put, List.getElem_toArray, List.getElem_cons_succ, List.getElem_cons_zero, List.setIfInBounds_toArray, List.set_cons_succ, List.set_cons_zero])
        refine HeadAt.takeW (i := 6) (.bool false) rfl (by kernel_rfl) (.inl ⟨rfl, fun _ _ => by simp [go_sem]⟩) S0 ?_
        (try simp only [Act.put, List.getElem_toArray, List.getElem_cons_succ, List.getElem_cons_zero, List.setIfInBounds_toArray, List.set_cons_succ, List.set_cons_zero])
        refine HeadAt.done (by kernel_rfl) ?_
        (try simp only [Act.put, List.drop_succ_cons, List.drop_zero, List.getElem_toArray, List.getElem_cons_succ, List.getElem_cons_zero])
        go_wp2_with fail
        refine NoPanic.normal ?_
        have hbz := hb.trans (Below.mono S0 hb.size)
        clear S0
        go_wp2
        go_roundw
        case rel => exact ⟨k + 1, by omega, by simp, HB, hbz⟩
        case measure => simp [intOf]; omega
      | false =>
        rw [hy] at hse1
        have HR := hid (H1.out k y hg.out hy)
        clear hy hg
        go_wp2_with fail
        refine (hse1 _).mono ?_
        rintro e V1 ⟨rfl, hb1⟩
        go_wp2_with fail
        replace S0 : BlS wr V1 := Below.trans S0 (hb1.mono (Below.size S0))
        subst hK
        refine ⟨S0, ?_⟩
        clear hb1
        (try simp only [Act.put, List.getElem_toArray, List.getElem_cons_succ, List.getElem_cons_zero, List.setIfInBounds_toArray, List.set_cons_succ, List.set_cons_zero])
        refine HeadAt.takeW (i := 6) (.bool true) rfl (by kernel_rfl) (.inl ⟨rfl, fun _ _ => by simp [go_sem]⟩) S0 ?_
        (try simp only [Act.put, List.getElem_toArray, List.getElem_cons_succ, List.getElem_cons_zero, List.setIfInBounds_toArray, List.set_cons_succ, List.set_cons_zero])
        refine HeadAt.done (by kernel_rfl) ?_
        (try simp only [Act.put, List.drop_succ_cons, List.drop_zero, List.getElem_toArray, List.getElem_cons_succ, List.getElem_cons_zero])
        go_wp2_with fail
        refine NoPanic.normal ?_
        have hbz := HX0.out.2.trans ((hb.trans (Below.mono S0 hb.size)).mono HX0.out.2.size)
        clear S0
        go_wp2
        go_ret
        exact ⟨ret_bool HR.out.symm, hbz⟩
    · obtain rfl : k = n := by omega
      have HR := hid (H2.out HA.out)
      have hbz := HX0.out.2.trans (hb.mono HX0.out.2.size)
      by_cases h24 : k ≤ 24
      · have h24I : (k : Int) ≤ 24 := by omega
        rw [decide_eq_true h24] at HR
        clear h24
        go_wp2
        go_ret
        exact ⟨ret_bool HR.out.symm, hbz⟩
      · have h24I : ¬ (k : Int) ≤ 24 := by omega
        rw [decide_eq_false h24] at HR
        clear h24
        go_wp2
        go_ret
        exact ⟨ret_bool (by first | exact HR.out.symm | exact (decide_eq_false (by omega)).trans HR.out.symm), hbz⟩
end Go.Proofs.Yteianfbdhakhpaa
/-! The specification's group. -/
namespace Go.Proofs.Yteianfbdhakhpaa
set_option linter.unusedSimpArgs false
set_option linter.unusedVariables false
open Go Go.RowKit
set_option maxRecDepth 100000 in
set_option maxHeartbeats 3000000 in
theorem group_any (aT : Option Addr) (cT : Nat) (X : Pu) (ok : POk X) (a : Option Addr) (c : Nat) (ts : List Int) (at0 : Nat) (w : World) (hI : Ints w a ts) (h24 : ts.length ≤ 24) (hr : ∀ x ∈ ts, 0 ≤ x ∧ x ≤ 99999) (hat : at0 < ts.length) : Calls Try.prog 74 #[.agg #[.int .i64 X.l, .int .i64 X.n, .int .i64 X.pi, .int .i64 X.sl, .int .i64 X.ga, .int .i64 X.pa, .int .i64 X.sp, .slice aT X.ts.length cT], .slice a ts.length c, .int .i64 (at0 : Int)] w fun e w' => (∃ n : Nat, Run X ts at0 n ∧ e = .returned (.int .i64 (n : Int))) ∧ Below w.heap.size w w' := by
  obtain ⟨W, hW, hb, _, x0⟩ := boxes1 w #[.int .i64 X.l, .int .i64 X.n, .int .i64 X.pi, .int .i64 X.sl, .int .i64 X.ga, .int .i64 X.pa, .int .i64 X.sp, .slice aT X.ts.length cT] 24
  replace hI := hI.below hb (Nat.le_refl _)
  have hwi := fun x V => within_any (X.pi - X.sl) x (X.pi + X.sl) V
  have hin : ∀ d, fromI (X.pi - X.sl) d (X.pi + X.sl) = inR X d := fun _ => rfl
  have h1 := ok.pi
  have h2 := ok.sl
  have HG := hid (show ∀ (i : Nat) (y : Int), ts[i]? = some y → 0 ≤ y ∧ y ≤ 99999 from fun i y h => hr y (List.mem_of_getElem? h))
  clear hr ok
  obtain ⟨N, hN⟩ : ∃ N, N = ts.length := ⟨_, rfl⟩
  rw [← hN] at h24 hat ⊢
  have HN := hid hN
  clear hN
  generalize X.ts.length = m at *
  have HX0 := hid (And.intro x0 hb)
  have c0 := x0.cell 0 rfl; have c1 := x0.cell 1 rfl; have c2 := x0.cell 2 rfl; have c3 := x0.cell 3 rfl; have c4 := x0.cell 4 rfl; have c5 := x0.cell 5 rfl; have c6 := x0.cell 6 rfl; have c7 := x0.cell 7 rfl
  go_enter Try.func74, Try.ntmps74
  go_wp2
  clear hW c0 c1 c2 c3 c4 c5 c6 c7 x0 hb
  go_loopw [7] (fun v7 wr => ∃ n : Nat, 1 ≤ n ∧ at0 + n ≤ N ∧ v7 = .int .i64 (n : Int) ∧ Hid (∀ i y z, i + 1 < n → ts[at0 + i]? = some y → ts[at0 + i + 1]? = some z → inR X (z - y) = true) ∧ Below W.heap.size W wr) (fun v7 _ => N - (intOf v7).toNat)
  case atStart => exact ⟨1, Nat.le_refl _, by omega, rfl, hid (fun i y z h => by omega), Below.refl _ _⟩
  case round =>
    obtain ⟨n, hn1, hn, rfl, HA, hb⟩ := hrel
    obtain ⟨k, hk⟩ : ∃ k, k = at0 + n := ⟨_, rfl⟩
    have x0 := HX0.out.1.below hb
    by_cases hlt : k < N
    · obtain ⟨j, hj⟩ : ∃ j, j = k - 1 := ⟨_, rfl⟩
      obtain ⟨b, off, y, rfl, hbl, hc, hy1, hy2, hg, _⟩ := (hI.below hb (Nat.le_refl _)).at (k := k) (by rw [← HN.out]; exact hlt)
      obtain ⟨b', off', z, eb, hbl', hc', hz1, hz2, hg', _⟩ := (hI.below hb (Nat.le_refl _)).at (k := j) (by rw [← HN.out]; omega)
      simp only [Option.some.injEq, Addr.mk.injEq, and_true] at eb
      obtain ⟨rfl, rfl⟩ := eb
      have hcl : ClB wr b (off + k) (.int .i64 y) := ⟨hc, hbl⟩
      have hcl' : ClB wr b (off + j) (.int .i64 z) := ⟨hc', hbl'⟩
      have ry := HG.out k y hg.out
      have rz := HG.out j z hg'.out
      have hwi1 := hwi (y - z)
      rw [hin] at hwi1
      clear hc hc' hy1 hy2 hz1 hz2
      cases hd : inR X (y - z) with
      | true =>
        rw [hd] at hwi1
        have HB := hid (show ∀ i y z, i + 1 < n + 1 → ts[at0 + i]? = some y → ts[at0 + i + 1]? = some z → inR X (z - y) = true from fun i y' z' hi hy' hz' => by
          by_cases hin : i + 1 < n
          · exact HA.out i y' z' hin hy' hz'
          · rw [show at0 + i = j by omega, hg'.out] at hy'
            rw [show at0 + i + 1 = k by omega, hg.out] at hz'
            cases hy'; cases hz'; exact hd)
        clear hd hg hg' hin
        go_upto_region 2 with fail
        have S0 : BlS wr wr.drew := (Below.refl wr.heap.size wr).drew
        refine wp_region_headW 33 (fun w' => BlS wr w') (by kernel_rfl) (by kernel_rfl) ?_
        generalize wr.drew = Y0 at *
        refine HeadAt.takeW (i := 0) (.int .i64 (at0 : Int)) rfl (by kernel_rfl) (.inl ⟨rfl, fun _ _ => by simp [go_sem]⟩) S0 ?_
        (try simp only [Act.put, List.getElem_toArray, List.getElem_cons_succ, List.getElem_cons_zero, List.setIfInBounds_toArray, List.set_cons_succ, List.set_cons_zero])
        refine HeadAt.takeW (i := 1) (.int .i64 (n : Int)) rfl (by kernel_rfl) (.inl ⟨rfl, fun _ _ => by simp [go_sem]⟩) S0 ?_
        (try simp only [Act.put, List.getElem_toArray, List.getElem_cons_succ, List.getElem_cons_zero, List.setIfInBounds_toArray, List.set_cons_succ, List.set_cons_zero])
        refine HeadAt.takeW (i := 2) (.int .i64 (k : Int)) rfl (by kernel_rfl) (.inl ⟨rfl, fun w' z => ?_⟩) S0 ?_
        · (simp [go_sem] <;> (first | omega | (rw [IntWalk.i64_in _ (by omega)] <;> omega)))
        (try simp only [Act.put, List.getElem_toArray, List.getElem_cons_succ, List.getElem_cons_zero, List.setIfInBounds_toArray, List.set_cons_succ, List.set_cons_zero])
        refine HeadAt.takeW (i := 3) (.slice (some ⟨b, off, none⟩) N c) rfl (by kernel_rfl) (.inl ⟨rfl, fun _ _ => by simp [go_sem]⟩) S0 ?_
        (try simp only [Act.put, List.getElem_toArray, List.getElem_cons_succ, List.getElem_cons_zero, List.setIfInBounds_toArray, List.set_cons_succ, List.set_cons_zero])
        refine HeadAt.takeW (i := 4) (.int .i64 (N : Int)) rfl (by kernel_rfl) (.inl ⟨rfl, fun w' z => ?_⟩) S0 ?_
        · (simp [go_sem])
        (try simp only [Act.put, List.getElem_toArray, List.getElem_cons_succ, List.getElem_cons_zero, List.setIfInBounds_toArray, List.set_cons_succ, List.set_cons_zero])
        refine HeadAt.takeW (i := 5) (.bool true) rfl (by kernel_rfl) (.inl ⟨rfl, fun w' z => ?_⟩) S0 ?_
        · (simp [go_sem] <;> omega)
        (try simp only [Act.put, List.getElem_toArray, List.getElem_cons_succ, List.getElem_cons_zero, List.setIfInBounds_toArray, List.set_cons_succ, List.set_cons_zero])
        refine HeadAt.takeW (i := 6) (.bool true) rfl (by kernel_rfl) (.inl ⟨rfl, fun _ _ => by simp [go_sem]⟩) S0 ?_
        (try simp only [Act.put, List.getElem_toArray, List.getElem_cons_succ, List.getElem_cons_zero, List.setIfInBounds_toArray, List.set_cons_succ, List.set_cons_zero])
        refine HeadAt.takeW (i := 7) (.slice (some ⟨b, off, none⟩) N c) rfl (by kernel_rfl) (.inl ⟨rfl, fun _ _ => by simp [go_sem]⟩) S0 ?_
        (try simp only [Act.put, List.getElem_toArray, List.getElem_cons_succ, List.getElem_cons_zero, List.setIfInBounds_toArray, List.set_cons_succ, List.set_cons_zero])
        refine HeadAt.takeW (i := 8) (.int .i64 (at0 : Int)) rfl (by kernel_rfl) (.inl ⟨rfl, fun _ _ => by simp [go_sem]⟩) S0 ?_
        (try simp only [Act.put, List.getElem_toArray, List.getElem_cons_succ, List.getElem_cons_zero, List.setIfInBounds_toArray, List.set_cons_succ, List.set_cons_zero])
        refine HeadAt.takeW (i := 9) (.int .i64 (n : Int)) rfl (by kernel_rfl) (.inl ⟨rfl, fun _ _ => by simp [go_sem]⟩) S0 ?_
        (try simp only [Act.put, List.getElem_toArray, List.getElem_cons_succ, List.getElem_cons_zero, List.setIfInBounds_toArray, List.set_cons_succ, List.set_cons_zero])
        refine HeadAt.takeW (i := 10) (.int .i64 (k : Int)) rfl (by kernel_rfl) (.inl ⟨rfl, fun w' z => ?_⟩) S0 ?_
        · (simp [go_sem] <;> (first | omega | (rw [IntWalk.i64_in _ (by omega)] <;> omega)))
        (try simp only [Act.put, List.getElem_toArray, List.getElem_cons_succ, List.getElem_cons_zero, List.setIfInBounds_toArray, List.set_cons_succ, List.set_cons_zero])
        refine HeadAt.takeW (i := 11) (.pointer (some ⟨b, off + k, none⟩)) rfl (by kernel_rfl) (.inl ⟨rfl, fun w' z => ?_⟩) S0 ?_
        · (have i1 : (0 : Int) ≤ (k : Int) := (by omega); have i2 : (k : Int) < (N : Int) := (by omega); simp [go_sem, i1, i2])
        (try simp only [Act.put, List.getElem_toArray, List.getElem_cons_succ, List.getElem_cons_zero, List.setIfInBounds_toArray, List.set_cons_succ, List.set_cons_zero])
        refine HeadAt.takeW (i := 12) (.int .i64 y) rfl (by kernel_rfl) (.inl ⟨rfl, fun w' z => ?_⟩) S0 ?_
        · (have z0 := (hcl.below z).1; simp [go_sem, z0])
        (try simp only [Act.put, List.getElem_toArray, List.getElem_cons_succ, List.getElem_cons_zero, List.setIfInBounds_toArray, List.set_cons_succ, List.set_cons_zero])
        refine HeadAt.takeW (i := 13) (.slice (some ⟨b, off, none⟩) N c) rfl (by kernel_rfl) (.inl ⟨rfl, fun _ _ => by simp [go_sem]⟩) S0 ?_
        (try simp only [Act.put, List.getElem_toArray, List.getElem_cons_succ, List.getElem_cons_zero, List.setIfInBounds_toArray, List.set_cons_succ, List.set_cons_zero])
        refine HeadAt.takeW (i := 14) (.int .i64 (at0 : Int)) rfl (by kernel_rfl) (.inl ⟨rfl, fun _ _ => by simp [go_sem]⟩) S0 ?_
        (try simp only [Act.put, List.getElem_toArray, List.getElem_cons_succ, List.getElem_cons_zero, List.setIfInBounds_toArray, List.set_cons_succ, List.set_cons_zero])
        refine HeadAt.takeW (i := 15) (.int .i64 (n : Int)) rfl (by kernel_rfl) (.inl ⟨rfl, fun _ _ => by simp [go_sem]⟩) S0 ?_
        (try simp only [Act.put, List.getElem_toArray, List.getElem_cons_succ, List.getElem_cons_zero, List.setIfInBounds_toArray, List.set_cons_succ, List.set_cons_zero])
        refine HeadAt.takeW (i := 16) (.int .i64 (k : Int)) rfl (by kernel_rfl) (.inl ⟨rfl, fun w' z => ?_⟩) S0 ?_
        · (simp [go_sem] <;> (first | omega | (rw [IntWalk.i64_in _ (by omega)] <;> omega)))
        (try simp only [Act.put, List.getElem_toArray, List.getElem_cons_succ, List.getElem_cons_zero, List.setIfInBounds_toArray, List.set_cons_succ, List.set_cons_zero])
        refine HeadAt.takeW (i := 17) (.int .i64 (j : Int)) rfl (by kernel_rfl) (.inl ⟨rfl, fun w' z => ?_⟩) S0 ?_
        · (simp [go_sem] <;> (first | omega | (rw [IntWalk.i64_in _ (by omega)] <;> omega)))
        (try simp only [Act.put, List.getElem_toArray, List.getElem_cons_succ, List.getElem_cons_zero, List.setIfInBounds_toArray, List.set_cons_succ, List.set_cons_zero])
        refine HeadAt.takeW (i := 18) (.pointer (some ⟨b, off + j, none⟩)) rfl (by kernel_rfl) (.inl ⟨rfl, fun w' z => ?_⟩) S0 ?_
        · (have i1 : (0 : Int) ≤ (j : Int) := (by omega); have i2 : (j : Int) < (N : Int) := (by omega); simp [go_sem, i1, i2])
        (try simp only [Act.put, List.getElem_toArray, List.getElem_cons_succ, List.getElem_cons_zero, List.setIfInBounds_toArray, List.set_cons_succ, List.set_cons_zero])
        refine HeadAt.takeW (i := 19) (.int .i64 z) rfl (by kernel_rfl) (.inl ⟨rfl, fun w' z => ?_⟩) S0 ?_
        · (have z0 := (hcl'.below z).1; simp [go_sem, z0])
        (try simp only [Act.put, List.getElem_toArray, List.getElem_cons_succ, List.getElem_cons_zero, List.setIfInBounds_toArray, List.set_cons_succ, List.set_cons_zero])
        refine HeadAt.takeW (i := 20) (.int .i64 (y - z)) rfl (by kernel_rfl) (.inl ⟨rfl, fun w' z => ?_⟩) S0 ?_
        · (simp [go_sem] <;> (first | omega | (rw [IntWalk.i64_in _ (by omega)] <;> omega)))
        (try simp only [Act.put, List.getElem_toArray, List.getElem_cons_succ, List.getElem_cons_zero, List.setIfInBounds_toArray, List.set_cons_succ, List.set_cons_zero])
        refine HeadAt.takeW (i := 21) (.pointer (some ⟨w.heap.size, 2, none⟩)) rfl (by kernel_rfl) (.inl ⟨rfl, fun _ _ => by simp [go_sem]⟩) S0 ?_
        (try simp only [Act.put, List.getElem_toArray, List.getElem_cons_succ, List.getElem_cons_zero, List.setIfInBounds_toArray, List.set_cons_succ, List.set_cons_zero])
        refine HeadAt.takeW (i := 22) (.int .i64 X.pi) rfl (by kernel_rfl) (.inl ⟨rfl, fun w' z => ?_⟩) S0 ?_
        · (have z0 := (x0.below z).cell 2 rfl; simp [go_sem, z0])
        (try simp only [Act.put, List.getElem_toArray, List.getElem_cons_succ, List.getElem_cons_zero, List.setIfInBounds_toArray, List.set_cons_succ, List.set_cons_zero])
        refine HeadAt.takeW (i := 23) (.pointer (some ⟨w.heap.size, 3, none⟩)) rfl (by kernel_rfl) (.inl ⟨rfl, fun _ _ => by simp [go_sem]⟩) S0 ?_
        (try simp only [Act.put, List.getElem_toArray, List.getElem_cons_succ, List.getElem_cons_zero, List.setIfInBounds_toArray, List.set_cons_succ, List.set_cons_zero])
        refine HeadAt.takeW (i := 24) (.int .i64 X.sl) rfl (by kernel_rfl) (.inl ⟨rfl, fun w' z => ?_⟩) S0 ?_
        · (have z0 := (x0.below z).cell 3 rfl; simp [go_sem, z0])
        (try simp only [Act.put, List.getElem_toArray, List.getElem_cons_succ, List.getElem_cons_zero, List.setIfInBounds_toArray, List.set_cons_succ, List.set_cons_zero])
        refine HeadAt.takeW (i := 25) (.int .i64 (X.pi - X.sl)) rfl (by kernel_rfl) (.inl ⟨rfl, fun w' z => ?_⟩) S0 ?_
        · (simp [go_sem] <;> (first | omega | (rw [IntWalk.i64_in _ (by omega)] <;> omega)))
        (try simp only [Act.put, List.getElem_toArray, List.getElem_cons_succ, List.getElem_cons_zero, List.setIfInBounds_toArray, List.set_cons_succ, List.set_cons_zero])
        refine HeadAt.takeW (i := 26) (.pointer (some ⟨w.heap.size, 2, none⟩)) rfl (by kernel_rfl) (.inl ⟨rfl, fun _ _ => by simp [go_sem]⟩) S0 ?_
        (try simp only [Act.put, List.getElem_toArray, List.getElem_cons_succ, List.getElem_cons_zero, List.setIfInBounds_toArray, List.set_cons_succ, List.set_cons_zero])
        refine HeadAt.takeW (i := 27) (.int .i64 X.pi) rfl (by kernel_rfl) (.inl ⟨rfl, fun w' z => ?_⟩) S0 ?_
        · (have z0 := (x0.below z).cell 2 rfl; simp [go_sem, z0])
        (try simp only [Act.put, List.getElem_toArray, List.getElem_cons_succ, List.getElem_cons_zero, List.setIfInBounds_toArray, List.set_cons_succ, List.set_cons_zero])
        refine HeadAt.takeW (i := 28) (.pointer (some ⟨w.heap.size, 3, none⟩)) rfl (by kernel_rfl) (.inl ⟨rfl, fun _ _ => by simp [go_sem]⟩) S0 ?_
        (try simp only [Act.put, List.getElem_toArray, List.getElem_cons_succ, List.getElem_cons_zero, List.setIfInBounds_toArray, List.set_cons_succ, List.set_cons_zero])
        refine HeadAt.takeW (i := 29) (.int .i64 X.sl) rfl (by kernel_rfl) (.inl ⟨rfl, fun w' z => ?_⟩) S0 ?_
        · (have z0 := (x0.below z).cell 3 rfl; simp [go_sem, z0])
        (try simp only [Act.put, List.getElem_toArray, List.getElem_cons_succ, List.getElem_cons_zero, List.setIfInBounds_toArray, List.set_cons_succ, List.set_cons_zero])
        refine HeadAt.takeW (i := 30) (.int .i64 (X.pi + X.sl)) rfl (by kernel_rfl) (.inl ⟨rfl, fun w' z => ?_⟩) S0 ?_
        · (simp [go_sem] <;> (first | omega | (rw [IntWalk.i64_in _ (by omega)] <;> omega)))
        (try simp only [Act.put, List.getElem_toArray, List.getElem_cons_succ, List.getElem_cons_zero, List.setIfInBounds_toArray, List.set_cons_succ, List.set_cons_zero])
        refine HeadAt.one (i := 31) rfl (by kernel_rfl) ?_
        generalize hK : Upto _ _ = K0
        (try simp only [Act.put, List.getElem_toArray, List.getElem_cons_succ, List.getElem_cons_zero, List.setIfInBounds_toArray, List.set_cons_succ, List.set_cons_zero])
        go_wp2_with fail
        refine (hwi1 _).mono ?_
        rintro e V1 ⟨rfl, rfl⟩
        go_wp2_with fail
        subst hK
        refine ⟨S0, ?_⟩
        (try simp only [Act.put, List.getElem_toArray, List.getElem_cons_succ, List.getElem_cons_zero, List.setIfInBounds_toArray, List.set_cons_succ, List.set_cons_zero])
        refine HeadAt.takeW (i := 32) (.bool true) rfl (by kernel_rfl) (.inl ⟨rfl, fun _ _ => by simp [go_sem]⟩) S0 ?_
        (try simp only [Act.put, List.getElem_toArray, List.getElem_cons_succ, List.getElem_cons_zero, List.setIfInBounds_toArray, List.set_cons_succ, List.set_cons_zero])
        refine HeadAt.done (by kernel_rfl) ?_
        (try simp only [Act.put, List.drop_succ_cons, List.drop_zero, List.getElem_toArray, List.getElem_cons_succ, List.getElem_cons_zero])
        go_wp2_with fail
        refine NoPanic.normal ?_
        have hbz := hb.trans (Below.mono S0 hb.size)
        clear S0
        go_wp2
        go_roundw
        case rel => exact ⟨n + 1, by omega, by omega, by simp, HB, hbz⟩
        case measure => simp [intOf]; omega
      | false =>
        rw [hd] at hwi1
        have HR := hid (show Run X ts at0 n from ⟨hn1, by rw [← HN.out]; exact hn, HA.out, fun y' z' hy' hz' => by
          rw [show at0 + n - 1 = j by omega, hg'.out] at hy'
          rw [show at0 + n = k by omega, hg.out] at hz'
          cases hy'; cases hz'; exact hd⟩)
        clear hd hg hg' hin
        go_upto_region 2 with fail
        have S0 : BlS wr wr.drew := (Below.refl wr.heap.size wr).drew
        refine wp_region_headW 33 (fun w' => BlS wr w') (by kernel_rfl) (by kernel_rfl) ?_
        generalize wr.drew = Y0 at *
        refine HeadAt.takeW (i := 0) (.int .i64 (at0 : Int)) rfl (by kernel_rfl) (.inl ⟨rfl, fun _ _ => by simp [go_sem]⟩) S0 ?_
        (try simp only [Act.put, List.getElem_toArray, List.getElem_cons_succ, List.getElem_cons_zero, List.setIfInBounds_toArray, List.set_cons_succ, List.set_cons_zero])
        refine HeadAt.takeW (i := 1) (.int .i64 (n : Int)) rfl (by kernel_rfl) (.inl ⟨rfl, fun _ _ => by simp [go_sem]⟩) S0 ?_
        (try simp only [Act.put, List.getElem_toArray, List.getElem_cons_succ, List.getElem_cons_zero, List.setIfInBounds_toArray, List.set_cons_succ, List.set_cons_zero])
        refine HeadAt.takeW (i := 2) (.int .i64 (k : Int)) rfl (by kernel_rfl) (.inl ⟨rfl, fun w' z => ?_⟩) S0 ?_
        · (simp [go_sem] <;> (first | omega | (rw [IntWalk.i64_in _ (by omega)] <;> omega)))
        (try simp only [Act.put, List.getElem_toArray, List.getElem_cons_succ, List.getElem_cons_zero, List.setIfInBounds_toArray, List.set_cons_succ, List.set_cons_zero])
        refine HeadAt.takeW (i := 3) (.slice (some ⟨b, off, none⟩) N c) rfl (by kernel_rfl) (.inl ⟨rfl, fun _ _ => by simp [go_sem]⟩) S0 ?_
        (try simp only [Act.put, List.getElem_toArray, List.getElem_cons_succ, List.getElem_cons_zero, List.setIfInBounds_toArray, List.set_cons_succ, List.set_cons_zero])
        refine HeadAt.takeW (i := 4) (.int .i64 (N : Int)) rfl (by kernel_rfl) (.inl ⟨rfl, fun w' z => ?_⟩) S0 ?_
        · (simp [go_sem])
        (try simp only [Act.put, List.getElem_toArray, List.getElem_cons_succ, List.getElem_cons_zero, List.setIfInBounds_toArray, List.set_cons_succ, List.set_cons_zero])
        refine HeadAt.takeW (i := 5) (.bool true) rfl (by kernel_rfl) (.inl ⟨rfl, fun w' z => ?_⟩) S0 ?_
        · (simp [go_sem] <;> omega)
        (try simp only [Act.put, List.getElem_toArray, List.getElem_cons_succ, List.getElem_cons_zero, List.setIfInBounds_toArray, List.set_cons_succ, List.set_cons_zero])
        refine HeadAt.takeW (i := 6) (.bool true) rfl (by kernel_rfl) (.inl ⟨rfl, fun _ _ => by simp [go_sem]⟩) S0 ?_
        (try simp only [Act.put, List.getElem_toArray, List.getElem_cons_succ, List.getElem_cons_zero, List.setIfInBounds_toArray, List.set_cons_succ, List.set_cons_zero])
        refine HeadAt.takeW (i := 7) (.slice (some ⟨b, off, none⟩) N c) rfl (by kernel_rfl) (.inl ⟨rfl, fun _ _ => by simp [go_sem]⟩) S0 ?_
        (try simp only [Act.put, List.getElem_toArray, List.getElem_cons_succ, List.getElem_cons_zero, List.setIfInBounds_toArray, List.set_cons_succ, List.set_cons_zero])
        refine HeadAt.takeW (i := 8) (.int .i64 (at0 : Int)) rfl (by kernel_rfl) (.inl ⟨rfl, fun _ _ => by simp [go_sem]⟩) S0 ?_
        (try simp only [Act.put, List.getElem_toArray, List.getElem_cons_succ, List.getElem_cons_zero, List.setIfInBounds_toArray, List.set_cons_succ, List.set_cons_zero])
        refine HeadAt.takeW (i := 9) (.int .i64 (n : Int)) rfl (by kernel_rfl) (.inl ⟨rfl, fun _ _ => by simp [go_sem]⟩) S0 ?_
        (try simp only [Act.put, List.getElem_toArray, List.getElem_cons_succ, List.getElem_cons_zero, List.setIfInBounds_toArray, List.set_cons_succ, List.set_cons_zero])
        refine HeadAt.takeW (i := 10) (.int .i64 (k : Int)) rfl (by kernel_rfl) (.inl ⟨rfl, fun w' z => ?_⟩) S0 ?_
        · (simp [go_sem] <;> (first | omega | (rw [IntWalk.i64_in _ (by omega)] <;> omega)))
        (try simp only [Act.put, List.getElem_toArray, List.getElem_cons_succ, List.getElem_cons_zero, List.setIfInBounds_toArray, List.set_cons_succ, List.set_cons_zero])
        refine HeadAt.takeW (i := 11) (.pointer (some ⟨b, off + k, none⟩)) rfl (by kernel_rfl) (.inl ⟨rfl, fun w' z => ?_⟩) S0 ?_
        · (have i1 : (0 : Int) ≤ (k : Int) := (by omega); have i2 : (k : Int) < (N : Int) := (by omega); simp [go_sem, i1, i2])
        (try simp only [Act.put, List.getElem_toArray, List.getElem_cons_succ, List.getElem_cons_zero, List.setIfInBounds_toArray, List.set_cons_succ, List.set_cons_zero])
        refine HeadAt.takeW (i := 12) (.int .i64 y) rfl (by kernel_rfl) (.inl ⟨rfl, fun w' z => ?_⟩) S0 ?_
        · (have z0 := (hcl.below z).1; simp [go_sem, z0])
        (try simp only [Act.put, List.getElem_toArray, List.getElem_cons_succ, List.getElem_cons_zero, List.setIfInBounds_toArray, List.set_cons_succ, List.set_cons_zero])
        refine HeadAt.takeW (i := 13) (.slice (some ⟨b, off, none⟩) N c) rfl (by kernel_rfl) (.inl ⟨rfl, fun _ _ => by simp [go_sem]⟩) S0 ?_
        (try simp only [Act.put, List.getElem_toArray, List.getElem_cons_succ, List.getElem_cons_zero, List.setIfInBounds_toArray, List.set_cons_succ, List.set_cons_zero])
        refine HeadAt.takeW (i := 14) (.int .i64 (at0 : Int)) rfl (by kernel_rfl) (.inl ⟨rfl, fun _ _ => by simp [go_sem]⟩) S0 ?_
        (try simp only [Act.put, List.getElem_toArray, List.getElem_cons_succ, List.getElem_cons_zero, List.setIfInBounds_toArray, List.set_cons_succ, List.set_cons_zero])
        refine HeadAt.takeW (i := 15) (.int .i64 (n : Int)) rfl (by kernel_rfl) (.inl ⟨rfl, fun _ _ => by simp [go_sem]⟩) S0 ?_
        (try simp only [Act.put, List.getElem_toArray, List.getElem_cons_succ, List.getElem_cons_zero, List.setIfInBounds_toArray, List.set_cons_succ, List.set_cons_zero])
        refine HeadAt.takeW (i := 16) (.int .i64 (k : Int)) rfl (by kernel_rfl) (.inl ⟨rfl, fun w' z => ?_⟩) S0 ?_
        · (simp [go_sem] <;> (first | omega | (rw [IntWalk.i64_in _ (by omega)] <;> omega)))
        (try simp only [Act.put, List.getElem_toArray, List.getElem_cons_succ, List.getElem_cons_zero, List.setIfInBounds_toArray, List.set_cons_succ, List.set_cons_zero])
        refine HeadAt.takeW (i := 17) (.int .i64 (j : Int)) rfl (by kernel_rfl) (.inl ⟨rfl, fun w' z => ?_⟩) S0 ?_
        · (simp [go_sem] <;> (first | omega | (rw [IntWalk.i64_in _ (by omega)] <;> omega)))
        (try simp only [Act.put, List.getElem_toArray, List.getElem_cons_succ, List.getElem_cons_zero, List.setIfInBounds_toArray, List.set_cons_succ, List.set_cons_zero])
        refine HeadAt.takeW (i := 18) (.pointer (some ⟨b, off + j, none⟩)) rfl (by kernel_rfl) (.inl ⟨rfl, fun w' z => ?_⟩) S0 ?_
        · (have i1 : (0 : Int) ≤ (j : Int) := (by omega); have i2 : (j : Int) < (N : Int) := (by omega); simp [go_sem, i1, i2])
        (try simp only [Act.put, List.getElem_toArray, List.getElem_cons_succ, List.getElem_cons_zero, List.setIfInBounds_toArray, List.set_cons_succ, List.set_cons_zero])
        refine HeadAt.takeW (i := 19) (.int .i64 z) rfl (by kernel_rfl) (.inl ⟨rfl, fun w' z => ?_⟩) S0 ?_
        · (have z0 := (hcl'.below z).1; simp [go_sem, z0])
        (try simp only [Act.put, List.getElem_toArray, List.getElem_cons_succ, List.getElem_cons_zero, List.setIfInBounds_toArray, List.set_cons_succ, List.set_cons_zero])
        refine HeadAt.takeW (i := 20) (.int .i64 (y - z)) rfl (by kernel_rfl) (.inl ⟨rfl, fun w' z => ?_⟩) S0 ?_
        · (simp [go_sem] <;> (first | omega | (rw [IntWalk.i64_in _ (by omega)] <;> omega)))
        (try simp only [Act.put, List.getElem_toArray, List.getElem_cons_succ, List.getElem_cons_zero, List.setIfInBounds_toArray, List.set_cons_succ, List.set_cons_zero])
        refine HeadAt.takeW (i := 21) (.pointer (some ⟨w.heap.size, 2, none⟩)) rfl (by kernel_rfl) (.inl ⟨rfl, fun _ _ => by simp [go_sem]⟩) S0 ?_
        (try simp only [Act.put, List.getElem_toArray, List.getElem_cons_succ, List.getElem_cons_zero, List.setIfInBounds_toArray, List.set_cons_succ, List.set_cons_zero])
        refine HeadAt.takeW (i := 22) (.int .i64 X.pi) rfl (by kernel_rfl) (.inl ⟨rfl, fun w' z => ?_⟩) S0 ?_
        · (have z0 := (x0.below z).cell 2 rfl; simp [go_sem, z0])
        (try simp only [Act.put, List.getElem_toArray, List.getElem_cons_succ, List.getElem_cons_zero, List.setIfInBounds_toArray, List.set_cons_succ, List.set_cons_zero])
        refine HeadAt.takeW (i := 23) (.pointer (some ⟨w.heap.size, 3, none⟩)) rfl (by kernel_rfl) (.inl ⟨rfl, fun _ _ => by simp [go_sem]⟩) S0 ?_
        (try simp only [Act.put, List.getElem_toArray, List.getElem_cons_succ, List.getElem_cons_zero, List.setIfInBounds_toArray, List.set_cons_succ, List.set_cons_zero])
        refine HeadAt.takeW (i := 24) (.int .i64 X.sl) rfl (by kernel_rfl) (.inl ⟨rfl, fun w' z => ?_⟩) S0 ?_
        · (have z0 := (x0.below z).cell 3 rfl; simp [go_sem, z0])
        (try simp only [Act.put, List.getElem_toArray, List.getElem_cons_succ, List.getElem_cons_zero, List.setIfInBounds_toArray, List.set_cons_succ, List.set_cons_zero])
        refine HeadAt.takeW (i := 25) (.int .i64 (X.pi - X.sl)) rfl (by kernel_rfl) (.inl ⟨rfl, fun w' z => ?_⟩) S0 ?_
        · (simp [go_sem] <;> (first | omega | (rw [IntWalk.i64_in _ (by omega)] <;> omega)))
        (try simp only [Act.put, List.getElem_toArray, List.getElem_cons_succ, List.getElem_cons_zero, List.setIfInBounds_toArray, List.set_cons_succ, List.set_cons_zero])
        refine HeadAt.takeW (i := 26) (.pointer (some ⟨w.heap.size, 2, none⟩)) rfl (by kernel_rfl) (.inl ⟨rfl, fun _ _ => by simp [go_sem]⟩) S0 ?_
        (try simp only [Act.put, List.getElem_toArray, List.getElem_cons_succ, List.getElem_cons_zero, List.setIfInBounds_toArray, List.set_cons_succ, List.set_cons_zero])
        refine HeadAt.takeW (i := 27) (.int .i64 X.pi) rfl (by kernel_rfl) (.inl ⟨rfl, fun w' z => ?_⟩) S0 ?_
        · (have z0 := (x0.below z).cell 2 rfl; simp [go_sem, z0])
        (try simp only [Act.put, List.getElem_toArray, List.getElem_cons_succ, List.getElem_cons_zero, List.setIfInBounds_toArray, List.set_cons_succ, List.set_cons_zero])
        refine HeadAt.takeW (i := 28) (.pointer (some ⟨w.heap.size, 3, none⟩)) rfl (by kernel_rfl) (.inl ⟨rfl, fun _ _ => by simp [go_sem]⟩) S0 ?_
        (try simp only [Act.put, List.getElem_toArray, List.getElem_cons_succ, List.getElem_cons_zero, List.setIfInBounds_toArray, List.set_cons_succ, List.set_cons_zero])
        refine HeadAt.takeW (i := 29) (.int .i64 X.sl) rfl (by kernel_rfl) (.inl ⟨rfl, fun w' z => ?_⟩) S0 ?_
        · (have z0 := (x0.below z).cell 3 rfl; simp [go_sem, z0])
        (try simp only [Act.put, List.getElem_toArray, List.getElem_cons_succ, List.getElem_cons_zero, List.setIfInBounds_toArray, List.set_cons_succ, List.set_cons_zero])
        refine HeadAt.takeW (i := 30) (.int .i64 (X.pi + X.sl)) rfl (by kernel_rfl) (.inl ⟨rfl, fun w' z => ?_⟩) S0 ?_
        · (simp [go_sem] <;> (first | omega | (rw [IntWalk.i64_in _ (by omega)] <;> omega)))
        (try simp only [Act.put, List.getElem_toArray, List.getElem_cons_succ, List.getElem_cons_zero, List.setIfInBounds_toArray, List.set_cons_succ, List.set_cons_zero])
        refine HeadAt.one (i := 31) rfl (by kernel_rfl) ?_
        generalize hK : Upto _ _ = K0
        (try simp only [Act.put, List.getElem_toArray, List.getElem_cons_succ, List.getElem_cons_zero, List.setIfInBounds_toArray, List.set_cons_succ, List.set_cons_zero])
        go_wp2_with fail
        refine (hwi1 _).mono ?_
        rintro e V1 ⟨rfl, rfl⟩
        go_wp2_with fail
        subst hK
        refine ⟨S0, ?_⟩
        (try simp only [Act.put, List.getElem_toArray, List.getElem_cons_succ, List.getElem_cons_zero, List.setIfInBounds_toArray, List.set_cons_succ, List.set_cons_zero])
        refine HeadAt.takeW (i := 32) (.bool false) rfl (by kernel_rfl) (.inl ⟨rfl, fun _ _ => by simp [go_sem]⟩) S0 ?_
        (try simp only [Act.put, List.getElem_toArray, List.getElem_cons_succ, List.getElem_cons_zero, List.setIfInBounds_toArray, List.set_cons_succ, List.set_cons_zero])
        refine HeadAt.done (by kernel_rfl) ?_
        (try simp only [Act.put, List.drop_succ_cons, List.drop_zero, List.getElem_toArray, List.getElem_cons_succ, List.getElem_cons_zero])
        go_wp2_with fail
        refine NoPanic.normal ?_
        have hbz := hb.trans (Below.mono S0 hb.size)
        clear S0
        go_wp2
        go_ret
        exact ⟨⟨n, HR.out, rfl⟩, HX0.out.2.trans (hbz.mono HX0.out.2.size)⟩
    · have HR := hid (show Run X ts at0 n from ⟨hn1, by rw [← HN.out]; exact hn, HA.out, fun y' z' hy' hz' => by
        have := (List.getElem?_eq_some_iff.1 hz').1
        rw [← HN.out] at this; omega⟩)
      clear hin
      go_upto_region 2 with fail
      have S0 : BlS wr wr.drew := (Below.refl wr.heap.size wr).drew
      refine wp_region_headW 33 (fun w' => BlS wr w') (by kernel_rfl) (by kernel_rfl) ?_
      generalize wr.drew = Y0 at *
      refine HeadAt.takeW (i := 0) (.int .i64 (at0 : Int)) rfl (by kernel_rfl) (.inl ⟨rfl, fun _ _ => by simp [go_sem]⟩) S0 ?_
      (try simp only [Act.put, List.getElem_toArray, List.getElem_cons_succ, List.getElem_cons_zero, List.setIfInBounds_toArray, List.set_cons_succ, List.set_cons_zero])
      refine HeadAt.takeW (i := 1) (.int .i64 (n : Int)) rfl (by kernel_rfl) (.inl ⟨rfl, fun _ _ => by simp [go_sem]⟩) S0 ?_
      (try simp only [Act.put, List.getElem_toArray, List.getElem_cons_succ, List.getElem_cons_zero, List.setIfInBounds_toArray, List.set_cons_succ, List.set_cons_zero])
      refine HeadAt.takeW (i := 2) (.int .i64 (k : Int)) rfl (by kernel_rfl) (.inl ⟨rfl, fun w' z => ?_⟩) S0 ?_
      · (simp [go_sem] <;> (first | omega | (rw [IntWalk.i64_in _ (by omega)] <;> omega)))
      (try simp only [Act.put, List.getElem_toArray, List.getElem_cons_succ, List.getElem_cons_zero, List.setIfInBounds_toArray, List.set_cons_succ, List.set_cons_zero])
      refine HeadAt.takeW (i := 3) (.slice a N c) rfl (by kernel_rfl) (.inl ⟨rfl, fun _ _ => by simp [go_sem]⟩) S0 ?_
      (try simp only [Act.put, List.getElem_toArray, List.getElem_cons_succ, List.getElem_cons_zero, List.setIfInBounds_toArray, List.set_cons_succ, List.set_cons_zero])
      refine HeadAt.takeW (i := 4) (.int .i64 (N : Int)) rfl (by kernel_rfl) (.inl ⟨rfl, fun w' z => ?_⟩) S0 ?_
      · (simp [go_sem])
      (try simp only [Act.put, List.getElem_toArray, List.getElem_cons_succ, List.getElem_cons_zero, List.setIfInBounds_toArray, List.set_cons_succ, List.set_cons_zero])
      refine HeadAt.takeW (i := 5) (.bool false) rfl (by kernel_rfl) (.inl ⟨rfl, fun w' z => ?_⟩) S0 ?_
      · (simp [go_sem] <;> omega)
      (try simp only [Act.put, List.getElem_toArray, List.getElem_cons_succ, List.getElem_cons_zero, List.setIfInBounds_toArray, List.set_cons_succ, List.set_cons_zero])
      refine HeadAt.takeW (i := 6) (.bool false) rfl (by kernel_rfl) (.inl ⟨rfl, fun _ _ => by simp [go_sem]⟩) S0 ?_
      (try simp only [Act.put, List.getElem_toArray, List.getElem_cons_succ, List.getElem_cons_zero, List.setIfInBounds_toArray, List.set_cons_succ, List.set_cons_zero])
      refine HeadAt.takeW (i := 7) undef rfl (by kernel_rfl) (.inr ⟨by kernel_rfl, rfl⟩) S0 ?_
      (try simp only [Act.put, List.getElem_toArray, List.getElem_cons_succ, List.getElem_cons_zero, List.setIfInBounds_toArray, List.set_cons_succ, List.set_cons_zero])
      refine HeadAt.takeW (i := 8) undef rfl (by kernel_rfl) (.inr ⟨by kernel_rfl, rfl⟩) S0 ?_
      (try simp only [Act.put, List.getElem_toArray, List.getElem_cons_succ, List.getElem_cons_zero, List.setIfInBounds_toArray, List.set_cons_succ, List.set_cons_zero])
      refine HeadAt.takeW (i := 9) undef rfl (by kernel_rfl) (.inr ⟨by kernel_rfl, rfl⟩) S0 ?_
      (try simp only [Act.put, List.getElem_toArray, List.getElem_cons_succ, List.getElem_cons_zero, List.setIfInBounds_toArray, List.set_cons_succ, List.set_cons_zero])
      refine HeadAt.takeW (i := 10) undef rfl (by kernel_rfl) (.inr ⟨by kernel_rfl, rfl⟩) S0 ?_
      (try simp only [Act.put, List.getElem_toArray, List.getElem_cons_succ, List.getElem_cons_zero, List.setIfInBounds_toArray, List.set_cons_succ, List.set_cons_zero])
      refine HeadAt.takeW (i := 11) undef rfl (by kernel_rfl) (.inr ⟨by kernel_rfl, rfl⟩) S0 ?_
      (try simp only [Act.put, List.getElem_toArray, List.getElem_cons_succ, List.getElem_cons_zero, List.setIfInBounds_toArray, List.set_cons_succ, List.set_cons_zero])
      refine HeadAt.takeW (i := 12) undef rfl (by kernel_rfl) (.inr ⟨by kernel_rfl, rfl⟩) S0 ?_
      (try simp only [Act.put, List.getElem_toArray, List.getElem_cons_succ, List.getElem_cons_zero, List.setIfInBounds_toArray, List.set_cons_succ, List.set_cons_zero])
      refine HeadAt.takeW (i := 13) undef rfl (by kernel_rfl) (.inr ⟨by kernel_rfl, rfl⟩) S0 ?_
      (try simp only [Act.put, List.getElem_toArray, List.getElem_cons_succ, List.getElem_cons_zero, List.setIfInBounds_toArray, List.set_cons_succ, List.set_cons_zero])
      refine HeadAt.takeW (i := 14) undef rfl (by kernel_rfl) (.inr ⟨by kernel_rfl, rfl⟩) S0 ?_
      (try simp only [Act.put, List.getElem_toArray, List.getElem_cons_succ, List.getElem_cons_zero, List.setIfInBounds_toArray, List.set_cons_succ, List.set_cons_zero])
      refine HeadAt.takeW (i := 15) undef rfl (by kernel_rfl) (.inr ⟨by kernel_rfl, rfl⟩) S0 ?_
      (try simp only [Act.put, List.getElem_toArray, List.getElem_cons_succ, List.getElem_cons_zero, List.setIfInBounds_toArray, List.set_cons_succ, List.set_cons_zero])
      refine HeadAt.takeW (i := 16) undef rfl (by kernel_rfl) (.inr ⟨by kernel_rfl, rfl⟩) S0 ?_
      (try simp only [Act.put, List.getElem_toArray, List.getElem_cons_succ, List.getElem_cons_zero, List.setIfInBounds_toArray, List.set_cons_succ, List.set_cons_zero])
      refine HeadAt.takeW (i := 17) undef rfl (by kernel_rfl) (.inr ⟨by kernel_rfl, rfl⟩) S0 ?_
      (try simp only [Act.put, List.getElem_toArray, List.getElem_cons_succ, List.getElem_cons_zero, List.setIfInBounds_toArray, List.set_cons_succ, List.set_cons_zero])
      refine HeadAt.takeW (i := 18) undef rfl (by kernel_rfl) (.inr ⟨by kernel_rfl, rfl⟩) S0 ?_
      (try simp only [Act.put, List.getElem_toArray, List.getElem_cons_succ, List.getElem_cons_zero, List.setIfInBounds_toArray, List.set_cons_succ, List.set_cons_zero])
      refine HeadAt.takeW (i := 19) undef rfl (by kernel_rfl) (.inr ⟨by kernel_rfl, rfl⟩) S0 ?_
      (try simp only [Act.put, List.getElem_toArray, List.getElem_cons_succ, List.getElem_cons_zero, List.setIfInBounds_toArray, List.set_cons_succ, List.set_cons_zero])
      refine HeadAt.takeW (i := 20) undef rfl (by kernel_rfl) (.inr ⟨by kernel_rfl, rfl⟩) S0 ?_
      (try simp only [Act.put, List.getElem_toArray, List.getElem_cons_succ, List.getElem_cons_zero, List.setIfInBounds_toArray, List.set_cons_succ, List.set_cons_zero])
      refine HeadAt.takeW (i := 21) undef rfl (by kernel_rfl) (.inr ⟨by kernel_rfl, rfl⟩) S0 ?_
      (try simp only [Act.put, List.getElem_toArray, List.getElem_cons_succ, List.getElem_cons_zero, List.setIfInBounds_toArray, List.set_cons_succ, List.set_cons_zero])
      refine HeadAt.takeW (i := 22) undef rfl (by kernel_rfl) (.inr ⟨by kernel_rfl, rfl⟩) S0 ?_
      (try simp only [Act.put, List.getElem_toArray, List.getElem_cons_succ, List.getElem_cons_zero, List.setIfInBounds_toArray, List.set_cons_succ, List.set_cons_zero])
      refine HeadAt.takeW (i := 23) undef rfl (by kernel_rfl) (.inr ⟨by kernel_rfl, rfl⟩) S0 ?_
      (try simp only [Act.put, List.getElem_toArray, List.getElem_cons_succ, List.getElem_cons_zero, List.setIfInBounds_toArray, List.set_cons_succ, List.set_cons_zero])
      refine HeadAt.takeW (i := 24) undef rfl (by kernel_rfl) (.inr ⟨by kernel_rfl, rfl⟩) S0 ?_
      (try simp only [Act.put, List.getElem_toArray, List.getElem_cons_succ, List.getElem_cons_zero, List.setIfInBounds_toArray, List.set_cons_succ, List.set_cons_zero])
      refine HeadAt.takeW (i := 25) undef rfl (by kernel_rfl) (.inr ⟨by kernel_rfl, rfl⟩) S0 ?_
      (try simp only [Act.put, List.getElem_toArray, List.getElem_cons_succ, List.getElem_cons_zero, List.setIfInBounds_toArray, List.set_cons_succ, List.set_cons_zero])
      refine HeadAt.takeW (i := 26) undef rfl (by kernel_rfl) (.inr ⟨by kernel_rfl, rfl⟩) S0 ?_
      (try simp only [Act.put, List.getElem_toArray, List.getElem_cons_succ, List.getElem_cons_zero, List.setIfInBounds_toArray, List.set_cons_succ, List.set_cons_zero])
      refine HeadAt.takeW (i := 27) undef rfl (by kernel_rfl) (.inr ⟨by kernel_rfl, rfl⟩) S0 ?_
      (try simp only [Act.put, List.getElem_toArray, List.getElem_cons_succ, List.getElem_cons_zero, List.setIfInBounds_toArray, List.set_cons_succ, List.set_cons_zero])
      refine HeadAt.takeW (i := 28) undef rfl (by kernel_rfl) (.inr ⟨by kernel_rfl, rfl⟩) S0 ?_
      (try simp only [Act.put, List.getElem_toArray, List.getElem_cons_succ, List.getElem_cons_zero, List.setIfInBounds_toArray, List.set_cons_succ, List.set_cons_zero])
      refine HeadAt.takeW (i := 29) undef rfl (by kernel_rfl) (.inr ⟨by kernel_rfl, rfl⟩) S0 ?_
      (try simp only [Act.put, List.getElem_toArray, List.getElem_cons_succ, List.getElem_cons_zero, List.setIfInBounds_toArray, List.set_cons_succ, List.set_cons_zero])
      refine HeadAt.takeW (i := 30) undef rfl (by kernel_rfl) (.inr ⟨by kernel_rfl, rfl⟩) S0 ?_
      (try simp only [Act.put, List.getElem_toArray, List.getElem_cons_succ, List.getElem_cons_zero, List.setIfInBounds_toArray, List.set_cons_succ, List.set_cons_zero])
      refine HeadAt.takeW (i := 31) undef rfl (by kernel_rfl) (.inr ⟨by kernel_rfl, rfl⟩) S0 ?_
      (try simp only [Act.put, List.getElem_toArray, List.getElem_cons_succ, List.getElem_cons_zero, List.setIfInBounds_toArray, List.set_cons_succ, List.set_cons_zero])
      refine HeadAt.takeW (i := 32) (.bool false) rfl (by kernel_rfl) (.inl ⟨rfl, fun _ _ => by simp [go_sem]⟩) S0 ?_
      (try simp only [Act.put, List.getElem_toArray, List.getElem_cons_succ, List.getElem_cons_zero, List.setIfInBounds_toArray, List.set_cons_succ, List.set_cons_zero])
      refine HeadAt.done (by kernel_rfl) ?_
      (try simp only [Act.put, List.drop_succ_cons, List.drop_zero, List.getElem_toArray, List.getElem_cons_succ, List.getElem_cons_zero])
      go_wp2_with fail
      refine NoPanic.normal ?_
      have hbz := hb.trans (Below.mono S0 hb.size)
      clear S0
      go_wp2
      go_ret
      exact ⟨⟨n, HR.out, rfl⟩, HX0.out.2.trans (hbz.mono HX0.out.2.size)⟩
end Go.Proofs.Yteianfbdhakhpaa
