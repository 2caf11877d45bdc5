import Derived.Test.YtmkmnedojgigoaaA1
namespace Go.Proofs.Ytmkmnedojgigoaa

/-! PLAIN: notches passed, plays from the start. -/

/-- How many notches stand up to p. -/
def np (N : List Int) (p : Int) : Nat := (N.filter (fun x => decide (x ≤ p))).length

theorem np_le (N : List Int) (p : Int) : np N p ≤ N.length := List.length_filter_le _ _

theorem asc_cons {b hi x : Int} {xs : List Int} : asc b hi (x :: xs) = true ↔ (b + 1 ≤ x ∧ x ≤ hi) ∧ asc x hi xs = true := by
  simp only [asc, Bool.and_eq_true, inR_iff]

theorem np_zero : ∀ (N : List Int) (b hi p : Int), asc b hi N = true → p ≤ b → np N p = 0
  | [], _, _, _, _, _ => rfl
  | x :: xs, b, hi, p, h, hp => by
    have h' := asc_cons.1 h
    have := np_zero xs x hi p h'.2 (by omega)
    unfold np at *
    rw [List.filter_cons, if_neg (by simp; omega)]
    exact this

theorem np_cons (x : Int) (xs : List Int) (p : Int) : np (x :: xs) p = (if x ≤ p then 1 else 0) + np xs p := by
  unfold np
  rw [List.filter_cons]
  by_cases h : x ≤ p
  · simp [h]; omega
  · simp [h]

theorem np_step : ∀ (N : List Int) (b hi k : Int), asc b hi N = true → b ≤ k - 1 →
    (N[np N (k - 1)]? = some k → np N k = np N (k - 1) + 1) ∧ (N[np N (k - 1)]? ≠ some k → np N k = np N (k - 1))
  | [], _, _, _, _, _ => by simp [np]
  | x :: xs, b, hi, k, h, hb => by
    have h' := asc_cons.1 h
    by_cases hx : x ≤ k - 1
    · have ih := np_step xs x hi k h'.2 hx
      rw [np_cons, np_cons, if_pos hx, if_pos (by omega)]
      rw [show 1 + np xs (k - 1) = np xs (k - 1) + 1 by omega, List.getElem?_cons_succ]
      exact ⟨fun g => by rw [ih.1 g]; omega, fun g => by rw [ih.2 g]; omega⟩
    · have z : np xs (k - 1) = 0 := np_zero xs x hi _ h'.2 (by omega)
      rw [np_cons, np_cons, if_neg hx, z]
      simp only [Nat.add_zero, List.getElem?_cons_zero, Option.some.injEq]
      refine ⟨fun g => ?_, fun g => ?_⟩
      · rw [np_zero xs x hi k h'.2 (by omega), if_pos (show x ≤ k by omega)]
      · have g' : x ≠ k := by simpa using g
        rw [np_zero xs x hi k h'.2 (by omega), if_neg (show ¬ x ≤ k by omega)]

/-- The list of what has passed at each place. -/
def npl (R : Nat) (N : List Int) : List Int := (List.range R).map fun (p : Nat) => ((np N ((p : Nat) : Int) : Nat) : Int)
theorem npl_len (R : Nat) (N : List Int) : (npl R N).length = R := by simp [npl]
theorem npl_at (R : Nat) (N : List Int) (p : Nat) (h : p < R) : (npl R N)[p]? = some (np N (p : Int) : Int) := by simp [npl, h]
theorem npl_mem {R : Nat} {N : List Int} {x : Int} (h : x ∈ npl R N) : 0 ≤ x ∧ x ≤ N.length := by
  unfold npl at h
  rw [List.mem_map] at h
  obtain ⟨p, _, rfl⟩ := h
  have := np_le N (p : Int)
  omega

/-- Plays of so many cents from the place 0 on. -/
def fs (R : Nat) (N : List Int) (c : Nat) : Nat := c / R * N.length + np N ((c % R : Nat) : Int)

/-- The worth of a kind. -/
def cw (C : List Int) (k : Nat) : Nat := (C.getD k 0).toNat

theorem asc_mem : ∀ (xs : List Int) (b hi : Int), asc b hi xs = true → ∀ x ∈ xs, b + 1 ≤ x ∧ x ≤ hi
  | [], _, _, _, x, hx => by simp at hx
  | y :: ys, b, hi, h, x, hx => by
    have h' := asc_cons.1 h
    rcases List.mem_cons.1 hx with rfl | hx
    · exact h'.1
    · have := asc_mem ys y hi h'.2 x hx; omega

structure Vw (R : Nat) (N C : List Int) : Prop where
  r1 : 1 ≤ R
  r2 : R ≤ 200
  n12 : N.length ≤ 12
  c4 : C.length ≤ 4
  ascN : asc 0 R N = true
  ascC : asc 0 100 C = true

theorem Vw.of_valid {r : Int} {N C : List Int} (h : validB r N C = true) : ∃ R : Nat, r = R ∧ Vw R N C := by
  simp only [validB, Bool.and_eq_true, inR_iff, decide_eq_true_eq] at h
  obtain ⟨⟨⟨⟨h1, h2⟩, h3⟩, h4⟩, h5⟩ := h
  obtain ⟨R, rfl⟩ : ∃ R : Nat, r = R := ⟨r.toNat, by omega⟩
  exact ⟨R, rfl, by omega, by omega, by omega, by omega, h3, h5⟩

theorem Vw.valid {R : Nat} {N C : List Int} (h : Vw R N C) : validB (R : Int) N C = true := by
  obtain ⟨h1, h2, h3, h4, h5, h6⟩ := h
  simp only [validB, Bool.and_eq_true, inR_iff, decide_eq_true_eq]
  exact ⟨⟨⟨⟨by omega, by omega⟩, h5⟩, by omega⟩, h6⟩

theorem Vw.coin {R : Nat} {N C : List Int} (h : Vw R N C) {k : Nat} (hk : k < C.length) : C[k]? = some (cw C k : Int) ∧ 1 ≤ cw C k ∧ cw C k ≤ 100 := by
  have hm := asc_mem C 0 100 h.ascC C[k] (List.getElem_mem hk)
  have e : C.getD k 0 = C[k] := by simp [List.getD, hk]
  unfold cw
  rw [e]
  exact ⟨by rw [List.getElem?_eq_getElem hk]; congr 1; omega, by omega, by omega⟩

theorem fs_le {R : Nat} {N C : List Int} (h : Vw R N C) (c : Nat) : fs R N c ≤ 12 * c + 12 := by
  unfold fs
  have h1 := np_le N ((c % R : Nat) : Int)
  have h2 := h.n12
  have h3 : c / R ≤ c := Nat.div_le_self _ _
  have h4 : c / R * N.length ≤ c * 12 := Nat.mul_le_mul h3 h2
  omega

theorem np_mono (N : List Int) {p q : Int} (h : p ≤ q) : np N p ≤ np N q := by
  induction N with
  | nil => simp [np]
  | cons x xs ih =>
    rw [np_cons, np_cons]
    split <;> split <;> omega

theorem fs_mono {R : Nat} {N C : List Int} (h : Vw R N C) {a b : Nat} (hab : a ≤ b) : fs R N a ≤ fs R N b := by
  unfold fs
  have r1 := h.r1
  have h0 := np_le N ((a % R : Nat) : Int)
  by_cases e : a / R = b / R
  · rw [e]
    have : a % R ≤ b % R := by
      have h1 := Nat.div_add_mod a R
      have h2 := Nat.div_add_mod b R
      rw [e] at h1
      omega
    have := np_mono N (p := ((a % R : Nat) : Int)) (q := ((b % R : Nat) : Int)) (by omega)
    omega
  · have h1 : a / R ≤ b / R := Nat.div_le_div_right hab
    have h2 : a / R + 1 ≤ b / R := by omega
    have h3 : (a / R + 1) * N.length ≤ b / R * N.length := Nat.mul_le_mul_right _ h2
    rw [Nat.add_mul] at h3
    omega

def rowl (R k : Nat) (N : List Int) : List Int := npl k N ++ List.replicate (R - k) (0 : Int)
theorem rowl_len (R k : Nat) (N : List Int) (h : k ≤ R) : (rowl R k N).length = R := by simp [rowl, npl_len]; omega
theorem rowl_at (R k : Nat) (N : List Int) (h : k < R) : (rowl R k N)[k]? = some 0 := by
  unfold rowl
  rw [List.getElem?_append_right (by rw [npl_len]; omega), npl_len, Nat.sub_self, List.getElem?_replicate, if_pos (by omega)]
theorem rowl_step (R k : Nat) (N : List Int) (h : k < R) : (rowl R k N).set k (np N (k : Int) : Int) = rowl R (k + 1) N := by
  unfold rowl
  rw [List.set_append_right _ _ (by rw [npl_len]; omega), npl_len, Nat.sub_self, show R - k = (R - (k + 1)) + 1 by omega, List.replicate_succ, List.set_cons_zero]
  simp [npl, List.range_succ]
theorem rowl_zero (R : Nat) (N : List Int) : rowl R 0 N = List.replicate R 0 := by simp [rowl, npl]
theorem rowl_end (R : Nat) (N : List Int) : rowl R R N = npl R N := by simp [rowl]

end Go.Proofs.Ytmkmnedojgigoaa
namespace Go.Proofs.Ytmkmnedojgigoaa

/-! PLAIN: the search. -/
/-- What so many cents give from a place on. -/
def gv (R : Nat) (N : List Int) (place cents : Nat) : Nat := fs R N (place + cents) - fs R N place
theorem gv_le {R : Nat} {N C : List Int} (h : Vw R N C) (p c : Nat) : gv R N p c ≤ 12 * (p + c) + 12 := by
  have := fs_le h (p + c)
  unfold gv; omega

/-- A spot of the search. -/
structure Sp where
  b0 : Nat
  b1 : Nat
  b2 : Nat
  b3 : Nat
  p : Nat
  c : Nat
def Sp.cnt (s : Sp) : Nat := s.b0 + s.b1 + s.b2 + s.b3
def Sp.get (s : Sp) (a : Int) : Nat := if a = 0 then s.b0 else if a = 1 then s.b1 else if a = 2 then s.b2 else s.b3
def Sp.dec (s : Sp) (a : Int) : Sp :=
  if a = 0 then { s with b0 := s.b0 - 1 } else if a = 1 then { s with b1 := s.b1 - 1 } else if a = 2 then { s with b2 := s.b2 - 1 } else { s with b3 := s.b3 - 1 }
def canS (s : Sp) (a : Int) : Bool := if a = -1 then decide (0 < s.c) && decide (0 < s.p) else decide (0 < s.get a)
def nxt (R : Nat) (N C : List Int) (s : Sp) (a : Int) : Sp :=
  if a = -1 then { s with p := 0, c := s.c - 1 }
  else { s.dec a with p := (s.p + cw C a.toNat) % R, c := min (s.c + gv R N s.p (cw C a.toNat)) (s.dec a).cnt }
def bgt (R : Nat) (N C : List Int) (s : Sp) (a : Int) : Nat := if a = -1 then 0 else gv R N s.p (cw C a.toNat)

/-- The acts from m - 2 down to -1. -/
def down : Nat → List Int
  | 0 => []
  | m + 1 => ((m : Int) - 1) :: down m

/-- One act is looked at. -/
def look (bt : Nat → Nat → Bool) (f : Sp → Nat) (R : Nat) (N C : List Int) (s : Sp) (st : Option (Int × Nat)) (a : Int) : Option (Int × Nat) :=
  if canS s a then
    match st with
    | none => some (a, bgt R N C s a + f (nxt R N C s a))
    | some (a0, v0) => if bt (bgt R N C s a + f (nxt R N C s a)) v0 then some (a, bgt R N C s a + f (nxt R N C s a)) else some (a0, v0)
  else st
def stV : Option (Int × Nat) → Nat
  | none => 0
  | some (_, v) => v
def stA : Option (Int × Nat) → Int
  | none => 0
  | some (a, _) => a
def ch (bt : Nat → Nat → Bool) (f : Sp → Nat) (R : Nat) (N C : List Int) (s : Sp) : Option (Int × Nat) := (down (C.length + 1)).foldl (look bt f R N C s) none
def bstF (bt : Nat → Nat → Bool) (R : Nat) (N C : List Int) : Nat → Sp → Nat
  | 0, _ => 0
  | n + 1, s => stV (ch bt (bstF bt R N C n) R N C s)
def bst (bt : Nat → Nat → Bool) (R : Nat) (N C : List Int) (s : Sp) : Nat := bstF bt R N C 30 s

def mu (s : Sp) : Nat := 2 * s.cnt + if 0 < s.p then 1 else 0
structure OKs (R : Nat) (s : Sp) : Prop where
  p : s.p < R
  n : s.cnt ≤ 12
  c : s.c ≤ s.cnt

theorem dec_cnt (s : Sp) (a : Int) (h : 0 < s.get a) : (s.dec a).cnt + 1 = s.cnt := by
  unfold Sp.dec Sp.get Sp.cnt at *
  split at h
  · rw [if_pos ‹_›]; show s.b0 - 1 + s.b1 + s.b2 + s.b3 + 1 = _; omega
  · rw [if_neg ‹_›]
    split at h
    · rw [if_pos ‹_›]; show s.b0 + (s.b1 - 1) + s.b2 + s.b3 + 1 = _; omega
    · rw [if_neg ‹_›]
      split at h
      · rw [if_pos ‹_›]; show s.b0 + s.b1 + (s.b2 - 1) + s.b3 + 1 = _; omega
      · rw [if_neg ‹_›]; show s.b0 + s.b1 + s.b2 + (s.b3 - 1) + 1 = _; omega

theorem nxt_sel (R : Nat) (N C : List Int) (s : Sp) : nxt R N C s (-1) = { s with p := 0, c := s.c - 1 } := by simp [nxt]
theorem nxt_coin (R : Nat) (N C : List Int) (s : Sp) (a : Int) (h : a ≠ -1) : nxt R N C s a = { s.dec a with p := (s.p + cw C a.toNat) % R, c := min (s.c + gv R N s.p (cw C a.toNat)) (s.dec a).cnt } := by simp [nxt, h]
theorem nxt_cnt (R : Nat) (N C : List Int) (s : Sp) (a : Int) (h : a ≠ -1) : (nxt R N C s a).cnt = (s.dec a).cnt := by rw [nxt_coin R N C s a h]; rfl

theorem nxt_ok {R : Nat} {N C : List Int} (hv : Vw R N C) {s : Sp} (ho : OKs R s) {a : Int} (hc : canS s a = true) : OKs R (nxt R N C s a) ∧ mu (nxt R N C s a) < mu s := by
  have r1 := hv.r1
  obtain ⟨o1, o2, o3⟩ := ho
  by_cases h : a = -1
  · subst h
    rw [nxt_sel]
    simp [canS] at hc
    refine ⟨⟨by show 0 < R; omega, o2, by show s.c - 1 ≤ s.cnt; omega⟩, ?_⟩
    unfold mu
    rw [if_pos hc.2]
    show 2 * s.cnt + 0 < _
    omega
  · have hg : 0 < s.get a := by simpa [canS, h] using hc
    have hd := dec_cnt s a hg
    have hn := nxt_cnt R N C s a h
    refine ⟨⟨?_, by omega, ?_⟩, ?_⟩
    · rw [nxt_coin R N C s a h]; exact Nat.mod_lt _ (by omega)
    · rw [hn, nxt_coin R N C s a h]; exact Nat.min_le_right _ _
    · unfold mu
      rw [hn]
      split <;> split <;> omega

theorem look_congr {bt : Nat → Nat → Bool} {f g : Sp → Nat} {R : Nat} {N C : List Int} {s : Sp} (h : ∀ a, canS s a = true → f (nxt R N C s a) = g (nxt R N C s a)) (st : Option (Int × Nat)) (a : Int) :
    look bt f R N C s st a = look bt g R N C s st a := by
  unfold look
  by_cases hc : canS s a = true
  · rw [h a hc]
  · simp [hc]
theorem ch_congr {bt : Nat → Nat → Bool} {f g : Sp → Nat} {R : Nat} {N C : List Int} {s : Sp} (h : ∀ a, canS s a = true → f (nxt R N C s a) = g (nxt R N C s a)) : ch bt f R N C s = ch bt g R N C s := by
  unfold ch
  have e : look bt f R N C s = look bt g R N C s := by funext st a; exact look_congr h st a
  rw [e]

theorem bstF_eq {bt : Nat → Nat → Bool} {R : Nat} {N C : List Int} (hv : Vw R N C) : ∀ (n m : Nat) (s : Sp), OKs R s → mu s < n → mu s < m → bstF bt R N C n s = bstF bt R N C m s := by
  intro n
  induction n with
  | zero => intro m s _ h; omega
  | succ n ih =>
    intro m s ho h1 h2
    cases m with
    | zero => omega
    | succ m =>
      show stV (ch bt (bstF bt R N C n) R N C s) = stV (ch bt (bstF bt R N C m) R N C s)
      rw [ch_congr (fun a ha => ?_)]
      have := nxt_ok hv ho ha
      exact ih m _ this.1 (by omega) (by omega)

theorem mu_le {R : Nat} {s : Sp} (ho : OKs R s) : mu s ≤ 25 := by
  have := ho.n
  unfold mu; split <;> omega

theorem bst_eq {bt : Nat → Nat → Bool} {R : Nat} {N C : List Int} (hv : Vw R N C) {s : Sp} (ho : OKs R s) : bst bt R N C s = stV (ch bt (bst bt R N C) R N C s) := by
  show stV (ch bt (bstF bt R N C 29) R N C s) = _
  rw [ch_congr (fun a ha => ?_)]
  have := nxt_ok hv ho ha
  have := mu_le this.1
  exact bstF_eq hv 29 30 _ (nxt_ok hv ho ha).1 (by omega) (by omega)

theorem bgt_le {R : Nat} {N C : List Int} (hv : Vw R N C) {s : Sp} (ho : OKs R s) {a : Int} (h1 : -1 ≤ a) (h2 : a < C.length) : bgt R N C s a ≤ 4000 := by
  unfold bgt
  split
  · omega
  · have := gv_le hv s.p (cw C a.toNat)
    have := (hv.coin (k := a.toNat) (by omega)).2
    have := ho.p
    have := hv.r2
    omega

/-- How many entries a spot can add. -/
def Bn : Nat → Nat
  | 0 => 2
  | c + 1 => 2 + 8 * Bn c
def Bm (s : Sp) : Nat := if s.cnt = 0 then 0 else Bn (s.cnt - 1)
def Bd (s : Sp) : Nat := 1 + 4 * Bm s + if 0 < s.p then 1 + 4 * Bm s else 0
theorem Bd_coin {R : Nat} {N C : List Int} {s : Sp} {a : Int} (h : a ≠ -1) (hc : canS s a = true) : Bd (nxt R N C s a) ≤ Bm s := by
  have hg : 0 < s.get a := by simpa [canS, h] using hc
  have hd := dec_cnt s a hg
  have hn := nxt_cnt R N C s a h
  have h1 : Bd (nxt R N C s a) ≤ 2 + 8 * Bm (nxt R N C s a) := by unfold Bd; split <;> omega
  have h2 : 2 + 8 * Bm (nxt R N C s a) = Bm s := by
    unfold Bm
    rw [hn, if_neg (show ¬ s.cnt = 0 by omega)]
    by_cases h0 : (s.dec a).cnt = 0
    · rw [if_pos h0, show s.cnt - 1 = 0 by omega]; rfl
    · rw [if_neg h0, show s.cnt - 1 = ((s.dec a).cnt - 1) + 1 by omega]; rfl
  omega
theorem Bd_sel {R : Nat} {N C : List Int} {s : Sp} (hc : canS s (-1) = true) : Bd (nxt R N C s (-1)) + 4 * Bm s + 1 = Bd s := by
  simp [canS] at hc
  rw [nxt_sel]
  unfold Bd
  rw [if_pos hc.2]
  have : Bm { s with p := 0, c := s.c - 1 } = Bm s := rfl
  rw [this]
  simp
  omega
theorem Bn_le : ∀ c : Nat, c ≤ 12 → Bn c ≤ 200000000000
  | 0, _ => by decide
  | 1, _ => by decide
  | 2, _ => by decide
  | 3, _ => by decide
  | 4, _ => by decide
  | 5, _ => by decide
  | 6, _ => by decide
  | 7, _ => by decide
  | 8, _ => by decide
  | 9, _ => by decide
  | 10, _ => by decide
  | 11, _ => by decide
  | 12, _ => by decide
  | c + 13, h => by omega
theorem Bd_le {R : Nat} {s : Sp} (ho : OKs R s) : Bd s ≤ 2000000000000 := by
  have h : Bm s ≤ 200000000000 := by
    unfold Bm
    split
    · omega
    · exact Bn_le _ (by have := ho.n; omega)
  unfold Bd
  split <;> omega

theorem stV_look_le {bt : Nat → Nat → Bool} {f : Sp → Nat} {R : Nat} {N C : List Int} {s : Sp} {B : Nat} {a : Int} (ha : canS s a = true → bgt R N C s a + f (nxt R N C s a) ≤ B) {st : Option (Int × Nat)} (hs : stV st ≤ B) : stV (look bt f R N C s st a) ≤ B := by
  unfold look
  by_cases hc : canS s a = true
  · simp only [hc, if_true]
    cases st with
    | none => exact ha hc
    | some x =>
      obtain ⟨a0, v0⟩ := x
      simp only
      split
      · exact ha hc
      · exact hs
  · simp only [hc]; exact hs
theorem stV_fold_le {bt : Nat → Nat → Bool} {f : Sp → Nat} {R : Nat} {N C : List Int} {s : Sp} {B : Nat} : ∀ (l : List Int) (st : Option (Int × Nat)), (∀ a ∈ l, canS s a = true → bgt R N C s a + f (nxt R N C s a) ≤ B) → stV st ≤ B → stV (l.foldl (look bt f R N C s) st) ≤ B
  | [], _, _, h => h
  | a :: l, _st, ha, h => stV_fold_le l _ (fun x hx => ha x (List.mem_cons_of_mem _ hx)) (stV_look_le (ha a (List.mem_cons_self ..)) h)
theorem down_mem : ∀ (m : Nat) (a : Int), a ∈ down m → -1 ≤ a ∧ a < (m : Int) - 1
  | 0, _, h => by simp [down] at h
  | m + 1, a, h => by
    rcases List.mem_cons.1 h with rfl | h
    · omega
    · have := down_mem m a h; omega

theorem bst_le {bt : Nat → Nat → Bool} {R : Nat} {N C : List Int} (hv : Vw R N C) : ∀ (n : Nat) (s : Sp), mu s < n → OKs R s → bst bt R N C s ≤ 4000 * s.cnt := by
  intro n
  induction n with
  | zero => intro s h; omega
  | succ n ih =>
    intro s h ho
    rw [bst_eq hv ho]
    refine stV_fold_le _ _ (fun a ha hc => ?_) (Nat.zero_le _)
    have hm := down_mem _ a ha
    have hn := nxt_ok hv ho hc
    have h1 := ih _ (by omega) hn.1
    by_cases e : a = -1
    · subst e
      have : (nxt R N C s (-1)).cnt = s.cnt := by rw [nxt_sel]; rfl
      rw [this] at h1
      simpa [bgt] using h1
    · have h2 := bgt_le hv ho hm.1 (by omega)
      have h3 := dec_cnt s a (by simpa [canS, e] using hc)
      rw [nxt_cnt R N C s a e] at h1
      omega

end Go.Proofs.Ytmkmnedojgigoaa
