import Derived.Test.YtmpihcencnkpbaaM3
import Derived.Test.YtmpihcencnkpbaaU1
import Derived.Test.YtmpihcencnkpbaaTB
import Derived.Test.YtmpihcencnkpbaaTC
import Derived.Test.YtmpihcencnkpbaaTE
/-! Letters and numbers exchanged: everything is the same, exchanged. -/
namespace Go.Proofs.Ytmpihcencnkpbaa
set_option linter.unusedSimpArgs false
set_option linter.unusedVariables false
open Go Go.RowKit

def tkI (k : Int) : Int := if k = 1 then 2 else if k = 2 then 1 else if k = 3 then 4 else if k = 4 then 3 else 0
/-- A fault with letters and numbers exchanged. -/
def tuF (f : F3) : F3 := ⟨tkI f.k, f.a, f.b⟩
theorem tkI_tk {k : Int} (h : 1 ≤ k ∧ k ≤ 4) : tkI (tkI k) = k := by
  rcases (show k = 1 ∨ k = 2 ∨ k = 3 ∨ k = 4 by omega) with rfl | rfl | rfl | rfl <;> rfl
theorem tuF_tu {f : F3} (h : 1 ≤ f.k ∧ f.k ≤ 4) : tuF (tuF f) = f := by
  obtain ⟨k, a, b⟩ := f
  show (⟨tkI (tkI k), a, b⟩ : F3) = _
  rw [tkI_tk h]
theorem tuF_mem {L N : Int} (hL : 1 ≤ L ∧ L ≤ 5) (hN : 1 ≤ N ∧ N ≤ 5) {f : F3} : tuF f ∈ allF L N ↔ f ∈ allF N L := by
  obtain ⟨k, a, b⟩ := f
  simp only [allF, List.mem_append, deadsN_mem, crossN_mem, tuF, tkI]
  split
  · rename_i e; subst e; omega
  · split
    · rename_i e; subst e; omega
    · split
      · rename_i e; subst e; omega
      · split
        · rename_i e; subst e; omega
        · omega
theorem k14 {L N : Int} (hL : 1 ≤ L ∧ L ≤ 5) (hN : 1 ≤ N ∧ N ≤ 5) {f : F3} (h : f ∈ allF L N) : 1 ≤ f.k ∧ f.k ≤ 4 := (Okf.of hL hN h).1
/-- A set of faults with letters and numbers exchanged, in order. -/
def tuS (L N : Int) (s : List F3) : List F3 := (allF N L).filter fun g => hasF s (tuF g)
theorem tuS_mem {L N : Int} {s : List F3} {g : F3} : g ∈ tuS L N s ↔ g ∈ allF N L ∧ tuF g ∈ s := by
  unfold tuS hasF
  rw [List.mem_filter, decide_eq_true_eq]
theorem set_all {L N : Int} (hL : 1 ≤ L ∧ L ≤ 5) (hN : 1 ≤ N ∧ N ≤ 5) {s : List F3} (h : setB L N s = true) {f : F3} (hf : f ∈ s) : f ∈ allF L N := (faultB_iff hL hN).1 ((setB_iff.1 h).1 f hf)
theorem set_sorted {L N : Int} {s : List F3} (h : setB L N s = true) : s.Pairwise fun g f => cmpF g f < 0 := (setB_iff.1 h).2.imp fun h => (offB_iff.1 h).1
theorem clB_comm (f g : F3) : clB f g = clB g f := by
  unfold clB
  rw [Bool.eq_iff_iff]
  simp only [Bool.and_eq_true, Bool.or_eq_true, decide_eq_true_eq]
  omega
theorem tkI_34 {k : Int} (h : 1 ≤ k ∧ k ≤ 4) : (tkI k = 3 ↔ k = 4) ∧ (tkI k = 4 ↔ k = 3) ∧ (tkI k = 1 ↔ k = 2) ∧ (tkI k = 2 ↔ k = 1) := by
  rcases (show k = 1 ∨ k = 2 ∨ k = 3 ∨ k = 4 by omega) with rfl | rfl | rfl | rfl <;> decide
theorem clB_tu {f g : F3} (hf : 1 ≤ f.k ∧ f.k ≤ 4) (hg : 1 ≤ g.k ∧ g.k ≤ 4) : clB (tuF f) (tuF g) = clB f g := by
  have h1 := tkI_34 hf
  have h2 := tkI_34 hg
  have e : (tkI f.k = tkI g.k) ↔ f.k = g.k := ⟨fun h => by rw [← tkI_tk hf, h, tkI_tk hg], fun h => by rw [h]⟩
  unfold clB tuF
  rw [Bool.eq_iff_iff]
  simp only [Bool.and_eq_true, Bool.or_eq_true, decide_eq_true_eq]
  omega
/-- Two different faults of a set don't cross the same button. -/
theorem set_off {L N : Int} {s : List F3} (h : setB L N s = true) {f g : F3} (hf : f ∈ s) (hg : g ∈ s) (hne : f ≠ g) : clB f g = false := by
  have hp := (setB_iff.1 h).2
  obtain ⟨i, hi, rfl⟩ := List.getElem_of_mem hf
  obtain ⟨j, hj, rfl⟩ := List.getElem_of_mem hg
  have hpi := List.pairwise_iff_getElem.1 hp
  rcases Nat.lt_trichotomy i j with h1 | h1 | h1
  · exact (offB_iff.1 (hpi i j hi hj h1)).2
  · subst h1; exact absurd rfl hne
  · rw [clB_comm]; exact (offB_iff.1 (hpi j i hj hi h1)).2
theorem tuS_set {L N : Int} (hL : 1 ≤ L ∧ L ≤ 5) (hN : 1 ≤ N ∧ N ≤ 5) {s : List F3} (h : setB L N s = true) : setB N L (tuS L N s) = true := by
  refine setB_iff.2 ⟨fun f hf => (faultB_iff hN hL).2 (tuS_mem.1 hf).1, ?_⟩
  have hs : (tuS L N s).Pairwise fun g f => cmpF g f < 0 := (allF_sorted hN hL).filter _
  refine List.Pairwise.imp_of_mem (fun {a b} ha hb hab => ?_) hs
  obtain ⟨a1, a2⟩ := tuS_mem.1 ha
  obtain ⟨b1, b2⟩ := tuS_mem.1 hb
  refine offB_iff.2 ⟨hab, ?_⟩
  rw [← clB_tu (k14 hN hL a1) (k14 hN hL b1)]
  refine set_off h a2 b2 fun e => ?_
  have : a = b := by rw [← tuF_tu (k14 hN hL a1), e, tuF_tu (k14 hN hL b1)]
  rw [this] at hab
  exact cmpF_asymm hab hab
theorem sorted_eq {X Y : List F3} (hX : X.Pairwise fun g f => cmpF g f < 0) (hY : Y.Pairwise fun g f => cmpF g f < 0) (h : ∀ x, x ∈ X ↔ x ∈ Y) : X = Y :=
  (sub_sorted hY hX (fun x hx => (h x).1 hx)).eq_of_length_le (sub_sorted hX hY (fun x hx => (h x).2 hx)).length_le
theorem tuS_tu {L N : Int} (hL : 1 ≤ L ∧ L ≤ 5) (hN : 1 ≤ N ∧ N ≤ 5) {s : List F3} (h : setB L N s = true) : tuS N L (tuS L N s) = s := by
  refine sorted_eq (set_sorted (tuS_set hN hL (tuS_set hL hN h))) (set_sorted h) fun x => ?_
  rw [tuS_mem, tuS_mem]
  constructor
  · rintro ⟨h1, _, h3⟩
    rwa [tuF_tu (k14 hL hN h1)] at h3
  · intro hx
    have h1 := set_all hL hN h hx
    exact ⟨h1, (tuF_mem hN hL).2 h1, by rw [tuF_tu (k14 hL hN h1)]; exact hx⟩
theorem nodup_len {X Y : List F3} (hX : X.Nodup) (hY : Y.Nodup) (h : ∀ x, x ∈ X ↔ x ∈ Y) : X.length = Y.length := by
  have : X.Perm Y := by
    rw [List.perm_iff_count]
    intro a
    have h1 := List.nodup_iff_count.1 hX a
    have h2 := List.nodup_iff_count.1 hY a
    by_cases hm : a ∈ X
    · have h3 := List.count_pos_iff.2 hm
      have h4 := List.count_pos_iff.2 ((h a).1 hm)
      omega
    · rw [List.count_eq_zero.2 hm, List.count_eq_zero.2 (fun q => hm ((h a).2 q))]
  exact this.length_eq
theorem map_nodup {s : List F3} (hs : s.Nodup) (hk : ∀ f ∈ s, 1 ≤ f.k ∧ f.k ≤ 4) : (s.map tuF).Nodup := by
  show List.Pairwise _ _
  rw [List.pairwise_map]
  refine List.Pairwise.imp_of_mem (fun {a b} ha hb hab e => hab ?_) hs
  rw [← tuF_tu (hk a ha), e, tuF_tu (hk b hb)]
theorem tuS_len {L N : Int} (hL : 1 ≤ L ∧ L ≤ 5) (hN : 1 ≤ N ∧ N ≤ 5) {s : List F3} (h : setB L N s = true) : (tuS L N s).length = s.length := by
  have hk : ∀ f ∈ s, 1 ≤ f.k ∧ f.k ≤ 4 := fun f hf => k14 hL hN (set_all hL hN h hf)
  rw [nodup_len (set_nodup (tuS_set hL hN h)) (map_nodup (set_nodup h) hk) fun x => ?_, List.length_map]
  rw [tuS_mem, List.mem_map]
  constructor
  · rintro ⟨h1, h2⟩
    exact ⟨tuF x, h2, tuF_tu (k14 hN hL h1)⟩
  · rintro ⟨f, hf, rfl⟩
    exact ⟨(tuF_mem hN hL).2 (set_all hL hN h hf), by rw [tuF_tu (hk f hf)]; exact hf⟩
/-- What the first cross of a button says. -/
theorem oth_at {L N k m : Int} (hk : k = 3 ∨ k = 4) {s : List F3} (h : setB L N s = true) {f : F3} (hf : f ∈ s) (hfk : f.k = k) : (f.a = m → othL k m s = f.b) ∧ (f.a ≠ m → f.b = m → othL k m s = f.a) := by
  have key : (f.a = m ∨ f.b = m) → ∃ pre post, s = pre ++ f :: post ∧ ∀ g ∈ pre, othN k m g := fun hm => by
    obtain ⟨pre, post, rfl⟩ := List.append_of_mem hf
    refine ⟨pre, post, rfl, fun g hg hgk => ?_⟩
    have hp := (setB_iff.1 h).2
    have hgf : offB g f = true := by
      have := (List.pairwise_append.1 hp).2.2 g hg f List.mem_cons_self
      exact this
    have hc := (offB_iff.1 hgf).2
    unfold clB at hc
    simp only [Bool.and_eq_false_iff, Bool.or_eq_false_iff, decide_eq_false_iff_not] at hc
    omega
  constructor
  · intro ha
    obtain ⟨pre, post, e, hpre⟩ := key (.inl ha)
    rw [e, othL_pre hpre, othL, if_pos hfk, if_pos ha]
  · intro ha hb
    obtain ⟨pre, post, e, hpre⟩ := key (.inr hb)
    rw [e, othL_pre hpre, othL, if_pos hfk, if_neg ha, if_pos hb]
theorem oth_tu {L N k m : Int} (hL : 1 ≤ L ∧ L ≤ 5) (hN : 1 ≤ N ∧ N ≤ 5) (hk : k = 3 ∨ k = 4) {s : List F3} (h : setB L N s = true) : othL (tkI k) m (tuS L N s) = othL k m s := by
  have hk' : tkI k = 3 ∨ tkI k = 4 := by rcases hk with rfl | rfl <;> decide
  have hkr : 1 ≤ k ∧ k ≤ 4 := by omega
  by_cases hex : ∃ f ∈ s, f.k = k ∧ (f.a = m ∨ f.b = m)
  · obtain ⟨f, hf, hfk, hm⟩ := hex
    have hfa := set_all hL hN h hf
    have hg : tuF f ∈ tuS L N s := tuS_mem.2 ⟨(tuF_mem hN hL).2 hfa, by rw [tuF_tu (k14 hL hN hfa)]; exact hf⟩
    obtain ⟨p1, p2⟩ := oth_at (m := m) hk h hf hfk
    obtain ⟨q1, q2⟩ := oth_at (m := m) hk' (tuS_set hL hN h) hg (show tkI f.k = tkI k by rw [hfk])
    by_cases ha : f.a = m
    · rw [p1 ha, q1 ha]; rfl
    · have hb : f.b = m := by omega
      rw [p2 ha hb, q2 ha hb]; rfl
  · have h1 : ∀ f ∈ s, othN k m f := fun f hf hfk => ⟨fun e => hex ⟨f, hf, hfk, .inl e⟩, fun e => hex ⟨f, hf, hfk, .inr e⟩⟩
    have h2 : ∀ g ∈ tuS L N s, othN (tkI k) m g := fun g hg hgk => by
      obtain ⟨g1, g2⟩ := tuS_mem.1 hg
      have e : (tuF g).k = k := by
        show tkI g.k = k
        rw [hgk, tkI_tk hkr]
      exact h1 (tuF g) g2 e
    rw [othL_nil h1, othL_nil h2]
theorem has_tu {L N : Int} (hL : 1 ≤ L ∧ L ≤ 5) (hN : 1 ≤ N ∧ N ≤ 5) {s : List F3} (h : setB L N s = true) {f : F3} (hk : 1 ≤ f.k ∧ f.k ≤ 4) : hasF (tuS L N s) (tuF f) = hasF s f := by
  unfold hasF
  rw [decide_eq_decide, tuS_mem, tuF_tu hk]
  exact ⟨fun q => q.2, fun q => ⟨(tuF_mem hN hL).2 (set_all hL hN h q), q⟩⟩
theorem sel_of {L N a b : Int} (ha : 0 ≤ a ∧ a < L) (hb : 0 ≤ b ∧ b < N) : selV L N (a * N + b) = b * L + a := by
  have h0 : ¬ a * N + b < 0 := by have := Int.mul_nonneg ha.1 (show 0 ≤ N by omega); omega
  unfold selV
  rw [if_neg h0]
  have e1 : (a * N + b) % N = b := by rw [Int.add_comm, Int.add_mul_emod_self_right]; exact Int.emod_eq_of_lt hb.1 hb.2
  have e2 : (a * N + b) / N = a := by
    rw [Int.add_comm, Int.add_mul_ediv_right _ _ (by omega), Int.ediv_eq_zero_of_lt hb.1 hb.2]; omega
  rw [e1, e2]
theorem pl_tu {L N l n : Int} (hL : 1 ≤ L ∧ L ≤ 5) (hN : 1 ≤ N ∧ N ≤ 5) (hl : 0 ≤ l ∧ l < L) (hn : 0 ≤ n ∧ n < N) {s : List F3} (h : setB L N s = true) : plV L (tuS L N s) n l = selV L N (plV N s l n) := by
  rw [← rplV_eq (tuS_set hL hN h), ← rplV_eq h]
  unfold rplV
  have e1 : hasF (tuS L N s) ⟨1, n, 0⟩ = hasF s ⟨2, n, 0⟩ := has_tu hL hN h (f := ⟨2, n, 0⟩) (show 1 ≤ (2 : Int) ∧ (2 : Int) ≤ 4 by decide)
  have e2 : hasF (tuS L N s) ⟨2, l, 0⟩ = hasF s ⟨1, l, 0⟩ := has_tu hL hN h (f := ⟨1, l, 0⟩) (show 1 ≤ (1 : Int) ∧ (1 : Int) ≤ 4 by decide)
  have e3 : othL 3 n (tuS L N s) = othL 4 n s := oth_tu (k := 4) hL hN (.inr rfl) h
  have e4 : othL 4 l (tuS L N s) = othL 3 l s := oth_tu (k := 3) hL hN (.inl rfl) h
  rw [e1, e2, e3, e4, Bool.or_comm]
  have hO : ∀ f ∈ s, Okf L N f := fun f hf => Okf.of hL hN (set_all hL hN h hf)
  have r1 := othL_rng (L := L) (N := N) (k := 3) (M := L) (.inl ⟨rfl, rfl⟩) (m := l) hO hl
  have r2 := othL_rng (L := L) (N := N) (k := 4) (M := N) (.inr ⟨rfl, rfl⟩) (m := n) hO hn
  split
  · rfl
  · rw [sel_of r1 r2]
/-- What is played, in two numbers. -/
theorem sel_cut {L N x : Int} (hL : 1 ≤ L ∧ L ≤ 5) (hN : 1 ≤ N ∧ N ≤ 5) (hx : 0 ≤ x ∧ x ≤ L * N - 1) : ∃ a b, x = a * N + b ∧ (0 ≤ a ∧ a < L) ∧ (0 ≤ b ∧ b < N) := by
  refine ⟨x / N, x % N, ?_, ⟨Int.ediv_nonneg hx.1 (by omega), ?_⟩, Int.emod_nonneg x (by omega), Int.emod_lt_of_pos x (by omega)⟩
  · have := Int.mul_ediv_add_emod x N
    rw [Int.mul_comm] at this
    omega
  · exact Int.ediv_lt_of_lt_mul (by omega) (by omega)
theorem sel_neg {L N : Int} : selV L N (-1) = -1 := by unfold selV; rw [if_pos (by omega)]
theorem sel_rng {L N x : Int} (hL : 1 ≤ L ∧ L ≤ 5) (hN : 1 ≤ N ∧ N ≤ 5) (hx : -1 ≤ x ∧ x ≤ L * N - 1) : -1 ≤ selV L N x ∧ selV L N x ≤ N * L - 1 := by
  by_cases h : x = -1
  · rw [h, sel_neg]
    have := Int.mul_le_mul hN.1 hL.1 (by omega) (by omega)
    omega
  · obtain ⟨a, b, rfl, ha, hb⟩ := sel_cut hL hN ⟨by omega, hx.2⟩
    rw [sel_of ha hb]
    have h1 : 0 ≤ b * L := Int.mul_nonneg hb.1 (by omega)
    have h2 : b * L ≤ (N - 1) * L := Int.mul_le_mul_of_nonneg_right (by omega) (by omega)
    rw [Int.sub_mul] at h2
    omega
theorem sel_sel {L N x : Int} (hL : 1 ≤ L ∧ L ≤ 5) (hN : 1 ≤ N ∧ N ≤ 5) (hx : -1 ≤ x ∧ x ≤ L * N - 1) : selV N L (selV L N x) = x := by
  by_cases h : x = -1
  · rw [h, sel_neg, sel_neg]
  · obtain ⟨a, b, rfl, ha, hb⟩ := sel_cut hL hN ⟨by omega, hx.2⟩
    rw [sel_of ha hb, sel_of hb ha]
/-- The presses of the exchanged box. -/
def tuP (L N : Int) (P : List F3) : List F3 := P.map fun p => ⟨p.a, p.k, selV L N p.b⟩
theorem ex_tu {L N : Int} (hL : 1 ≤ L ∧ L ≤ 5) (hN : 1 ≤ N ∧ N ≤ 5) {s : List F3} (h : setB L N s = true) : ∀ {P : List F3}, (∀ p ∈ P, ((0 ≤ p.k ∧ p.k < L) ∧ (0 ≤ p.a ∧ p.a < N)) ∧ (-1 ≤ p.b ∧ p.b ≤ L * N - 1)) → exB L (tuS L N s) (tuP L N P) = exB N s P
  | [], _ => rfl
  | p :: P, hP => by
    have ih := ex_tu hL hN h (P := P) (fun q hq => hP q (List.mem_cons_of_mem _ hq))
    obtain ⟨⟨hl, hn⟩, hb⟩ := hP p List.mem_cons_self
    unfold exB tuP at ih ⊢
    rw [List.map_cons, List.all_cons, List.all_cons, ih]
    congr 1
    rw [decide_eq_decide]
    show plV L (tuS L N s) p.a p.k = selV L N p.b ↔ _
    rw [pl_tu hL hN hl hn h]
    have hr := plV_rng (l := p.k) (n := p.a) (s := s) hN.1 (fun f hf => Okf.of hL hN (set_all hL hN h hf)) hl hn
    exact ⟨fun e => by rw [← sel_sel hL hN hr, e, sel_sel hL hN hb], fun e => by rw [e]⟩
end Go.Proofs.Ytmpihcencnkpbaa
