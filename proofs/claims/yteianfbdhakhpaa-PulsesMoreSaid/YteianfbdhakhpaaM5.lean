import Derived.Test.YteianfbdhakhpaaM4
import Derived.Test.YteianfbdhakhpaaTO
/-! More sparks. -/
namespace Go.Proofs.Yteianfbdhakhpaa
set_option linter.unusedSimpArgs false
set_option linter.unusedVariables false
open Go Go.RowKit

theorem setsG_sub (e : Nat) : ∀ (m low : Nat) (f : List Int), (setsG e m low f).Sublist (setsG e (m + 1) low f)
  | 0, low, f => by
    show [f].Sublist (f :: _)
    exact List.Sublist.cons_cons f (List.nil_sublist _)
  | m + 1, low, f => by
    rw [setsG_succ, setsG_succ]
    refine List.Sublist.append (List.Sublist.refl _) ?_
    unfold setsN
    generalize List.range' low (e - low) = ns
    induction ns with
    | nil => exact List.Sublist.refl _
    | cons n ns ih =>
      rw [List.flatMap_cons, List.flatMap_cons]
      exact List.Sublist.append (setsG_sub e m (n + 1) _) ih
theorem setsG_subs (e low : Nat) (f : List Int) {m k : Nat} (h : m ≤ k) : (setsG e m low f).Sublist (setsG e k low f) := by
  induction k with
  | zero => obtain rfl : m = 0 := by omega
            exact List.Sublist.refl _
  | succ k ih =>
    by_cases he : m = k + 1
    · subst he; exact List.Sublist.refl _
    · exact (ih (by omega)).trans (setsG_sub e k low f)
theorem rdL_subs (X : Pu) {m k : Nat} (h : m ≤ k) : (rdL X m).Sublist (rdL X k) := (setsG_subs _ _ _ h).filterMap _
theorem RS_at_sub {X : Pu} {k : Int} (h : X.sp ≤ k) : (RS X).Sublist (RS (X.at k)) := by
  unfold RS
  rw [rdL_at]
  exact rdL_subs X (show X.sp.toNat ≤ k.toNat by omega)
theorem nodup_len {α : Type} [DecidableEq α] : ∀ (a b : List α), a.Nodup → (∀ x ∈ a, x ∈ b) → a.length ≤ b.length
  | [], _, _, _ => Nat.zero_le _
  | x :: a, b, hn, hs => by
    have hx := hs x (by simp)
    have h1 := List.nodup_cons.1 hn
    have h2 := nodup_len a (b.erase x) h1.2 (fun y hy => by
      have : y ≠ x := fun e => h1.1 (e ▸ hy)
      exact (List.mem_erase_of_ne this).2 (hs y (List.mem_cons_of_mem _ hy)))
    rw [List.length_erase_of_mem hx] at h2
    have : 0 < b.length := List.length_pos_of_mem hx
    rw [List.length_cons]; omega
theorem dN_sub {a b : List (List Int)} (h : ∀ x ∈ a, x ∈ b) : dN a ≤ dN b :=
  nodup_len _ _ (dR_nodup a) (fun x hx => (dR_mem b x).2 (h x ((dR_mem a x).1 hx)))
theorem dN_le (a : List (List Int)) : dN a ≤ a.length := nodup_len _ _ (dR_nodup a) (fun x hx => (dR_mem a x).1 hx)
theorem dN_pos {a : List (List Int)} (h : a ≠ []) : 1 ≤ dN a := by
  obtain ⟨x, hx⟩ := List.exists_mem_of_ne_nil _ h
  exact List.length_pos_of_mem ((dR_mem a x).2 hx)
theorem lowF_iff {s : Int} {rs : List Rd} {k : Nat} : lowF s rs ≤ k ↔ 24 ≤ k ∨ ∃ r ∈ rs, cntF (eqB s) r.2 ≤ k := by
  have hh : ∀ (rs : List Rd) (z : Nat), rs.foldl (fun m r => min m (cntF (eqB s) r.2)) z ≤ k ↔ z ≤ k ∨ ∃ r ∈ rs, cntF (eqB s) r.2 ≤ k := by
    intro rs
    induction rs with
    | nil => intro z; simp
    | cons r rs ih =>
      intro z
      rw [List.foldl_cons, ih]
      simp only [List.mem_cons, exists_eq_or_imp]
      rw [← or_assoc]
      refine or_congr ?_ Iff.rfl
      constructor
      · intro h
        rcases Nat.le_total z (cntF (eqB s) r.2) with h2 | h2
        · rw [Nat.min_eq_left h2] at h; exact .inl h
        · rw [Nat.min_eq_right h2] at h; exact .inr h
      · rintro (h | h)
        · exact Nat.le_trans (Nat.min_le_left _ _) h
        · exact Nat.le_trans (Nat.min_le_right _ _) h
  exact hh rs 24
theorem higF_iff {s : Int} {rs : List Rd} {k : Nat} : higF s rs ≤ k ↔ ∀ r ∈ rs, cntF (eqB s) r.2 ≤ k := by
  have hh : ∀ (rs : List Rd) (z : Nat), rs.foldl (fun m r => max m (cntF (eqB s) r.2)) z ≤ k ↔ z ≤ k ∧ ∀ r ∈ rs, cntF (eqB s) r.2 ≤ k := by
    intro rs
    induction rs with
    | nil => intro z; simp
    | cons r rs ih =>
      intro z
      rw [List.foldl_cons, ih]
      simp only [List.mem_cons, forall_eq_or_imp, Nat.max_le]
      exact and_assoc
  have := hh rs 0
  unfold higF
  rw [this]
  simp
/-- Whether all numbers of a list are in another one. -/
def inAll (a b : List Int) : Bool := a.all fun x => inL x b
theorem inL_mem {x : Int} {l : List Int} : inL x l = true ↔ x ∈ l := by simp [inL]
theorem soL_mem {f : Nat → Nat → Bool} {rs : List Rd} {n : Nat} {x : Int} : x ∈ soL f rs n ↔ ∃ i, i < n ∧ f (cntK rs i) rs.length = true ∧ x = (i : Int) := by
  unfold soL
  simp only [List.mem_map, List.mem_filter, List.mem_range]
  constructor
  · rintro ⟨i, ⟨h1, h2⟩, rfl⟩; exact ⟨i, h1, h2, rfl⟩
  · rintro ⟨i, h1, h2, rfl⟩; exact ⟨i, ⟨h1, h2⟩, rfl⟩
theorem cntK_mono {a b : List Rd} (h : a.Sublist b) (i : Nat) : cntK a i ≤ cntK b i := (h.filter _).length_le
theorem cntK_all {rs : List Rd} {i : Nat} : cntK rs i = rs.length ↔ ∀ r ∈ rs, inL (i : Int) r.1 = true := List.length_filter_eq_length_iff
theorem inAll_iff {a b : List Int} : inAll a b = true ↔ ∀ x ∈ a, x ∈ b := by
  unfold inAll
  rw [List.all_eq_true]
  exact ⟨fun h x hx => inL_mem.1 (h x hx), fun h x hx => inL_mem.2 (h x hx)⟩
structure MoreLaw (X Y : Pu) (s : Int) : Prop where
  e : erX Y true = 0
  m : manN X ≤ manN Y
  l : lsN X ≤ lsN Y
  l1 : 1 ≤ lsN X
  lm : lsN X ≤ manN X
  ae : askE X s = 0
  be : askE Y s = 0
  lo : askLo Y s ≤ askLo X s
  lh : askLo X s ≤ askHi X s
  hi : askHi X s ≤ askHi Y s
  re : inAll (soX reB Y) (soX reB X) = true
  sp : inAll (soX spB Y) (soX spB X) = true
theorem more_law {X : Pu} {k : Int} (hv : vB X = true) (hk : X.sp ≤ k) (hk3 : k ≤ 3) (he : erX X true = 0) {s : Int} (hs : selB X s = true) : MoreLaw X (X.at k) s := by
  have hs0 := (vB_ok hv).2.1
  have hvY := vB_at hv (k := k) (by omega)
  have hsub := RS_at_sub hk
  have hX := erX_few hv
  have hle : (fewX X : Int) ≤ X.sp := Classical.byContradiction fun h => by rw [if_neg h] at hX; omega
  have heY : erX (X.at k) true = 0 := by
    rw [erX_few hvY, fewX_at]; exact if_pos (show (fewX X : Int) ≤ k by omega)
  have hne := (erO_zero he).2.2
  have hne' : RS X ≠ [] := hne
  have hsY : selB (X.at k) s = true := hs
  have hae : askE X s = 0 := by unfold askE; rw [hs]; exact he
  have hbe : askE (X.at k) s = 0 := by unfold askE; rw [hsY]; exact heY
  have h24 := RS_len24 hv
  have hsX : ∀ f, soX f X = soL f (RS X) X.ts.length := fun f => by unfold soX; rw [if_pos he]
  have hsoY : ∀ f, soX f (X.at k) = soL f (RS (X.at k)) X.ts.length := fun f => by unfold soX; rw [if_pos heY]; rfl
  refine ⟨heY, ?_, ?_, ?_, ?_, hae, hbe, ?_, ?_, ?_, ?_, ?_⟩
  · unfold manN; rw [if_pos he, if_pos heY]; exact hsub.length_le
  · unfold lsN; rw [if_pos he, if_pos heY]
    exact dN_sub fun x hx => (hsub.map (·.2)).subset hx
  · unfold lsN; rw [if_pos he]
    exact dN_pos (by simpa using hne')
  · unfold lsN manN; rw [if_pos he, if_pos he]
    exact Nat.le_trans (dN_le _) (by simp)
  · unfold askLo; rw [if_pos hae, if_pos hbe]
    rw [lowF_iff]
    rcases lowF_iff.1 (Nat.le_refl (lowF s (RS X))) with h | ⟨r, hr, h⟩
    · exact .inl h
    · exact .inr ⟨r, hsub.subset hr, h⟩
  · unfold askLo askHi; rw [if_pos hae, if_pos hae]
    obtain ⟨r, hr⟩ := List.exists_mem_of_ne_nil _ hne'
    exact Nat.le_trans (lowF_iff.2 (.inr ⟨r, hr, Nat.le_refl _⟩)) (higF_iff.1 (Nat.le_refl _) r hr)
  · unfold askHi; rw [if_pos hae, if_pos hbe]
    exact higF_iff.2 fun r hr => higF_iff.1 (Nat.le_refl _) r (hsub.subset hr)
  · rw [inAll_iff, hsX, hsoY]
    intro x hx
    obtain ⟨i, h1, h2, rfl⟩ := soL_mem.1 hx
    refine soL_mem.2 ⟨i, h1, ?_, rfl⟩
    have := cntK_mono hsub i
    simp only [reB, decide_eq_true_eq] at h2 ⊢
    omega
  · rw [inAll_iff, hsX, hsoY]
    intro x hx
    obtain ⟨i, h1, h2, rfl⟩ := soL_mem.1 hx
    refine soL_mem.2 ⟨i, h1, ?_, rfl⟩
    simp only [spB, decide_eq_true_eq] at h2 ⊢
    rw [cntK_all] at h2 ⊢
    exact fun r hr => h2 r (hsub.subset hr)
theorem soX_len (f : Nat → Nat → Bool) (X : Pu) : (soX f X).length ≤ X.ts.length := by
  unfold soX
  split
  · exact soL_len _ _ _
  · exact Nat.zero_le _
end Go.Proofs.Yteianfbdhakhpaa
