import Derived.Test.YtipdohpbilabiaaM6
/-! Earnings that are all greater by as much in a box: what comes of it. -/
namespace Go.Proofs.Ytipdohpbilabiaa
set_option linter.unusedSimpArgs false
set_option linter.unusedVariables false
open Go.RowKit

def Vz.erd (V : Vz) (e : List (List Int)) : Vz := { V with er := e }
theorem erd_plansF (V : Vz) (e : List (List Int)) : ∀ (r : Nat) (p : Pl) (box : Nat), plansF (V.erd e) r p box = plansF V r p box
  | 0, p, box => rfl
  | r + 1, p, box => by
    unfold plansF
    show (List.range (2 ^ V.st.length)).flatMap _ = _
    congr 1
    funext t
    show (if cnt t == cnt (V.now.get box) && fitB V (p.set box t) box then plansF (V.erd e) r (p.set box t) (box + 1) else []) = _
    rw [erd_plansF V e r]
theorem erd_plans (V : Vz) (e : List (List Int)) : plansV (V.erd e) = plansV V := erd_plansF V e _ _ _
/-- Earnings are greater by K in box b. -/
structure Shf (V : Vz) (e : List (List Int)) (b : Nat) (K : Int) : Prop where
  nb : V.nb ≤ 3
  lt : b < V.nb
  now : V.now.ok (2 ^ V.st.length)
  er : ∀ k i, i < V.st.length → earI (V.erd e) k i = earI V k i + (if k = b then K else 0)
theorem bits_below {t n : Nat} (ht : t < 2 ^ n) : ∀ i ∈ bitsOf t, i < n := fun i hi => by
  have hb := (mem_bits hi).1
  rcases Nat.lt_or_ge i n with h | h
  · exact h
  · have : t < 2 ^ i := Nat.lt_of_lt_of_le ht (Nat.pow_le_pow_right (by omega) h)
    rw [Nat.testBit_lt_two_pow this] at hb; cases hb
theorem shf_sumE {V : Vz} {e : List (List Int)} {b : Nat} {K : Int} (h : Shf V e b K) (k : Nat) : ∀ (l : List Nat) (a c : Int), (∀ i ∈ l, i < V.st.length) → l.foldl (fun s i => s + earI (V.erd e) k i) (a + c) = l.foldl (fun s i => s + earI V k i) a + (c + (if k = b then K * (l.length : Int) else 0))
  | [], a, c, _ => by simp
  | i :: l, a, c, hl => by
    simp only [List.foldl_cons, List.length_cons]
    rw [h.er k i (hl i List.mem_cons_self), show a + c + (earI V k i + if k = b then K else 0) = (a + earI V k i) + (c + if k = b then K else 0) by omega, shf_sumE h k l _ _ (fun j hj => hl j (List.mem_cons_of_mem _ hj))]
    have e1 : K * ((l.length + 1 : Nat) : Int) = K * (l.length : Int) + K := by rw [Int.natCast_add, Int.mul_add]; simp
    rw [e1]
    split <;> omega
theorem shf_earB {V : Vz} {e : List (List Int)} {b : Nat} {K : Int} (h : Shf V e b K) {q : Pl} (hq : q.ok (2 ^ V.st.length)) (k : Nat) : earB (V.erd e) q k = earB V q k + (if k = b then K * (cnt (q.get b) : Int) else 0) := by
  have h1 := shf_sumE h k (bitsOf (q.get k)) 0 0 (bits_below (hq.get k))
  unfold earB sumE
  rw [show (0 : Int) = 0 + 0 from rfl, h1]
  simp only [Int.zero_add]
  congr 1
  split
  · rename_i e; rw [e]; rfl
  · rfl
theorem shf_sum {V : Vz} {e : List (List Int)} {b : Nat} {K : Int} (h : Shf V e b K) {q : Pl} (hq : q.ok (2 ^ V.st.length)) : ∀ n, (earL (V.erd e) q n).foldl (· + ·) 0 = (earL V q n).foldl (· + ·) 0 + (if b < n then K * (cnt (q.get b) : Int) else 0)
  | 0 => by simp [earL]
  | n + 1 => by
    rw [earL_succ, earL_succ, addup_snoc, addup_snoc, shf_sum h hq n, shf_earB h hq n]
    by_cases h1 : b < n
    · rw [if_pos h1, if_neg (by omega), if_pos (by omega)]; omega
    · rw [if_neg h1]
      by_cases h2 : n = b
      · rw [if_pos h2, if_pos (by omega)]; omega
      · rw [if_neg h2, if_neg (by omega)]; omega
theorem shf_earn {V : Vz} {e : List (List Int)} {b : Nat} {K : Int} (h : Shf V e b K) {q : Pl} (hq : q.ok (2 ^ V.st.length)) (hc : cnt (q.get b) = cnt (V.now.get b)) : earn (V.erd e) q = earn V q + K * (cnt (V.now.get b) : Int) := by
  unfold earn
  rw [show (V.erd e).nb = V.nb from rfl, shf_sum h hq V.nb, if_pos h.lt, hc]
theorem shf_in {V : Vz} {e : List (List Int)} {b : Nat} {K : Int} (h : Shf V e b K) {q : Pl} (hq : q = V.now ∨ q ∈ plansV V) : earn (V.erd e) q = earn V q + K * (cnt (V.now.get b) : Int) := by
  rcases hq with rfl | hq
  · exact shf_earn h h.now rfl
  · exact shf_earn h (plansV_ok hq) (((plans_mem h.nb q).1 hq).2.1 b h.lt).2.1
theorem shf_bestF {V : Vz} {e : List (List Int)} {b : Nat} {K : Int} (h : Shf V e b K) : ∀ (l : List Pl) (c : Pl), (c = V.now ∨ c ∈ plansV V) → (∀ q ∈ l, q ∈ plansV V) → l.foldl (fun b p => if earn (V.erd e) b < earn (V.erd e) p then p else b) c = l.foldl (fun b p => if earn V b < earn V p then p else b) c
  | [], c, _, _ => rfl
  | q :: l, c, hc, hl => by
    have hq := hl q List.mem_cons_self
    simp only [List.foldl_cons]
    have e1 := shf_in h hc
    have e2 := shf_in h (.inr hq)
    have e3 : (if earn (V.erd e) c < earn (V.erd e) q then q else c) = (if earn V c < earn V q then q else c) := by
      rw [e1, e2]
      by_cases h1 : earn V c < earn V q
      · rw [if_pos h1, if_pos (by omega)]
      · rw [if_neg h1, if_neg (by omega)]
    rw [e3]
    refine shf_bestF h l _ ?_ (fun p hp => hl p (List.mem_cons_of_mem _ hp))
    split
    · exact .inr hq
    · exact hc
theorem shf_best {V : Vz} {e : List (List Int)} {b : Nat} {K : Int} (h : Shf V e b K) : bestP (V.erd e) = bestP V := by
  unfold bestP bestF
  rw [erd_plans]
  exact shf_bestF h (plansV V) V.now (.inl rfl) (fun q hq => hq)
theorem shf_bestE {V : Vz} {e : List (List Int)} {b : Nat} {K : Int} (h : Shf V e b K) : earn (V.erd e) (bestP (V.erd e)) = earn V (bestP V) + K * (cnt (V.now.get b) : Int) := by
  rw [shf_best h]
  exact shf_in h (best_max V (plansV V)).1
theorem shf_alw {V : Vz} {e : List (List Int)} {b : Nat} {K : Int} (h : Shf V e b K) : alwP (V.erd e) = alwP V := by
  unfold alwP
  rw [shf_bestE h, shf_best h, erd_plans]
  have : ∀ (l : List Pl) (c : Pl) (m : Int), (∀ q ∈ l, q ∈ plansV V) → alwF (V.erd e) (m + K * (cnt (V.now.get b) : Int)) c l = alwF V m c l := by
    intro l
    induction l with
    | nil => intro c m _; rfl
    | cons q l ih =>
      intro c m hl
      have e2 := shf_in h (.inr (hl q List.mem_cons_self))
      show alwF (V.erd e) _ (if earn (V.erd e) q < m + K * (cnt (V.now.get b) : Int) then c else andP c q) l = alwF V m (if earn V q < m then c else andP c q) l
      rw [e2]
      have e3 : (if earn V q + K * (cnt (V.now.get b) : Int) < m + K * (cnt (V.now.get b) : Int) then c else andP c q) = (if earn V q < m then c else andP c q) := by
        by_cases h1 : earn V q < m
        · rw [if_pos h1, if_pos (by omega)]
        · rw [if_neg h1, if_neg (by omega)]
      rw [e3]
      exact ih _ _ (fun p hp => hl p (List.mem_cons_of_mem _ hp))
  exact this (plansV V) (bestP V) (earn V (bestP V)) (fun q hq => hq)
/-- Rows whose number at place b is greater by K, the first k of them. -/
def movE (b : Nat) (K : Int) (er : List (List Int)) (k : Nat) : List (List Int) := er.mapIdx fun i ks => if i < k then ks.set b (ks.getD b 0 + K) else ks
theorem movE_len (b : Nat) (K : Int) (er : List (List Int)) (k : Nat) : (movE b K er k).length = er.length := by unfold movE; simp
theorem movE_at (b : Nat) (K : Int) (er : List (List Int)) (k i : Nat) : (movE b K er k)[i]? = er[i]?.map fun ks => if i < k then ks.set b (ks.getD b 0 + K) else ks := by unfold movE; simp
theorem movE_zero (b : Nat) (K : Int) (er : List (List Int)) : movE b K er 0 = er := by
  refine List.ext_getElem? fun i => ?_
  rw [movE_at]
  cases er[i]? <;> simp
theorem movE_succ (b : Nat) (K : Int) (er : List (List Int)) {k : Nat} {ks : List Int} (hk : er[k]? = some ks) : movE b K er (k + 1) = (movE b K er k).set k (ks.set b (ks.getD b 0 + K)) := by
  refine List.ext_getElem? fun i => ?_
  rw [movE_at, List.getElem?_set, movE_len, movE_at]
  have hkl : k < er.length := (List.getElem?_eq_some_iff.1 hk).1
  by_cases e : k = i
  · subst e
    rw [if_pos rfl, if_pos hkl, hk]
    simp
  · rw [if_neg e]
    cases er[i]? with
    | none => rfl
    | some l =>
      simp only [Option.map_some]
      by_cases h1 : i < k
      · rw [if_pos h1, if_pos (by omega)]
      · rw [if_neg h1, if_neg (by omega)]
theorem movE_ear {X : Sw} (hok : XOk X) {b : Nat} {K : Int} (hb : b < X.bs.length) (k i : Nat) (hi : i < X.st.length) : earI (X.vz.erd (movE b K X.er X.er.length)) k i = earI X.vz k i + (if k = b then K else 0) := by
  have hie : i < X.er.length := by rw [hok.er1]; exact hi
  obtain ⟨ks, hks⟩ : ∃ ks, X.er[i]? = some ks := ⟨_, List.getElem?_eq_getElem hie⟩
  have h2 := (hok.er2 i hie).1
  have e0 : X.er.getD i [] = ks := by rw [List.getD_eq_getElem?_getD, hks]; rfl
  have e1 : (movE b K X.er X.er.length).getD i [] = ks.set b (ks.getD b 0 + K) := by
    rw [List.getD_eq_getElem?_getD, movE_at, hks]
    simp [hie]
  rw [e0] at h2
  show ((movE b K X.er X.er.length).getD i []).getD k 0 = (X.er.getD i []).getD k 0 + _
  rw [e0, e1, List.getD_eq_getElem?_getD (l := ks.set b _), List.getElem?_set]
  by_cases e : b = k
  · subst e
    rw [if_pos rfl, if_pos (by omega), if_pos rfl]; rfl
  · rw [if_neg e, if_neg (fun h => e h.symm), Int.add_zero, List.getD_eq_getElem?_getD]
theorem moved_shf {X : Sw} (hok : XOk X) {b : Nat} {K : Int} (hb : b < X.bs.length) : Shf X.vz (movE b K X.er X.er.length) b K :=
  ⟨hok.nb3, hb, (vz_ok hok).now, fun k i hi => movE_ear hok hb k i hi⟩
theorem more_shf {V : Vz} {e : List (List Int)} {b : Nat} {K : Int} (h : Shf V e b K) (t : Nat) : Shf (V.more t) e b K := by
  have hl : (V.more t).st.length = V.st.length := by show (V.st.set t _).length = _; rw [List.length_set]
  exact ⟨h.nb, h.lt, by rw [hl]; exact h.now, fun k i hi => h.er k i (by rw [← hl]; exact hi)⟩
theorem moved_copy {X : Sw} (hok : XOk X) {b : Nat} {K : Int} (hb : b < X.bs.length) (t : Nat) : copyV (X.vz.erd (movE b K X.er X.er.length)) t = copyV X.vz t := by
  have h := moved_shf (K := K) hok hb
  unfold copyV
  have e : (X.vz.erd (movE b K X.er X.er.length)).more t = (X.vz.more t).erd (movE b K X.er X.er.length) := rfl
  rw [e, shf_bestE (more_shf h t), shf_bestE h]
  show earn (X.vz.more t) (bestP (X.vz.more t)) + K * (cnt (X.vz.now.get b) : Int) - (earn X.vz (bestP X.vz) + K * (cnt (X.vz.now.get b) : Int)) = _
  omega
theorem now_cnt {X : Sw} (hok : XOk X) {b : Nat} (hb : b < X.bs.length) : cnt (X.vz.now.get b) = (X.bs.getD b []).length := by
  have h6 : ntI X < 6 := by unfold ntI; have := hok.t6; omega
  obtain ⟨h3, hr⟩ := hok.b3 b hb
  rw [show X.vz.now.get b = mask (X.bs.getD b []) from now_get X.bs hb hok.nb3]
  unfold cnt
  rw [bits_mask hr h6 h3, List.length_map]
end Go.Proofs.Ytipdohpbilabiaa
