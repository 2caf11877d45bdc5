import Derived.Test.YtakodllejndfeaaT32
import Derived.Test.YtakodllejndfeaaWB
/-! RoyaltiesTwo: what is true of two as one. -/
namespace Go.Proofs.Ytakodllejndfeaa
set_option linter.unusedSimpArgs false
set_option linter.unusedVariables false
set_option linter.unusedSimpArgs false
set_option linter.unusedVariables false

theorem has_lt {O : List Int} {i : Nat} (h : i < O.length) : hasB O (i : Int) = true := by unfold hasB; rw [inI_iff]; omega
/-- What is true of two writers as one, if there are plays. -/
structure TwoF (n : Nat) (p : Int) (S T : List Sd) (O : List Int) (u v : Nat) : Prop where
  ft : ∀ i, i < n → FrOk (p * clS T (i : Int)) (exU p T O i) (exL p T O i) (100 * alS S)
  fs : ∀ i, i < n → FrOk (p * clS S (i : Int)) (exU p S O i) (exL p S O i) (100 * alS S)
  eu : p * clS T (u : Int) = p * clS S (u : Int) + p * clS S (v : Int)
  ev : p * clS T (v : Int) = 0
  eo : ∀ i, i < n → i ≠ u → i ≠ v → p * clS T (i : Int) = p * clS S (i : Int)
  sum : (shR p T O).sum = p
  len : (shR p T O).length = n
  san : sanB n (shR p T O) 9999 = true
theorem two_vb {p : Int} {S : List Sd} {O : List Int} {u v : Nat} (h : vB p S O = true) (hu : u < O.length) (hv : v < O.length) (huv : u ≠ v) : vB p (joS O.length u v S) O = true ∧ askE p (joS O.length u v S) O true = errO S ∧ errO (joS O.length u v S) = errO S := by
  have h1 := joS_vB h hu hv huv
  have h2 := joS_al O.length u v S
  refine ⟨h1, ?_, ?_⟩
  · unfold askE errO; rw [if_pos h1, if_pos rfl, h2]
  · unfold errO; rw [h2]
theorem two_law {p : Int} {S : List Sd} {O : List Int} {u v : Nat} (h : vB p S O = true) (hu : u < O.length) (hv : v < O.length) (huv : u ≠ v) (ha : alS S ≠ 0) : TwoF O.length p S (joS O.length u v S) O u v := by
  obtain ⟨h1, h2, h3⟩ := two_vb h hu hv huv
  have hV := vB_ok h
  have hVT := vB_ok h1
  have hal := joS_al O.length u v S
  have hE : askE p S O true = 0 := by unfold askE; rw [if_pos h, if_pos rfl, if_neg ha]
  have hET : askE p (joS O.length u v S) O true = 0 := by rw [h2]; unfold errO; rw [if_neg ha]
  have hcl := fun (w : Int) hw => joS_cl (w := w) hu hv huv hw hV.sd
  have hft := fun i (hi : i < O.length) => fr_ok hVT (by rw [hal]; exact ha) hET hi
  rw [hal] at hft
  have hQ := qok_of hVT (by rw [hal]; exact ha) hVT.p0 hVT.p9
  refine ⟨hft, fun i hi => fr_ok hV ha hE hi, ?_, ?_, fun i hi h4 h5 => ?_, ?_, shR_len hET, sanB_ok (shR_len hET) (fun x hx => shR_rng p _ O x hx)⟩
  · rw [hcl _ ⟨by omega, by omega⟩, if_pos rfl, Int.mul_add]
  · rw [hcl _ ⟨by omega, by omega⟩, if_neg (by omega), if_pos rfl, Int.mul_zero]
  · rw [hcl _ ⟨by omega, by omega⟩, if_neg (by omega), if_neg (by omega)]
  · rw [shR_ok hET]
    exact sh_sum hQ.toCOk
/-- A list's sum, its first ones, and one more. -/
theorem sum_take {L : List Int} {k : Nat} {x : Int} (h : L[k]? = some x) : (L.take (k + 1)).sum = (L.take k).sum + x := by
  rw [take_snoc h, List.sum_append]; simp
theorem sum_rng {L : List Int} (h : ∀ x ∈ L, 0 ≤ x ∧ x ≤ 9999) : 0 ≤ L.sum ∧ L.sum ≤ 9999 * L.length := by
  induction L with
  | nil => simp
  | cons x L ih =>
    have h1 := ih fun y hy => h y (List.mem_cons_of_mem _ hy)
    have h2 := h x (List.mem_cons_self ..)
    simp only [List.sum_cons, List.length_cons]
    omega
end Go.Proofs.Ytakodllejndfeaa
