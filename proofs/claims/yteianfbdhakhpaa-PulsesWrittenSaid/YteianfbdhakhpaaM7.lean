import Derived.Test.YteianfbdhakhpaaM6
import Derived.Test.YteianfbdhakhpaaTS
/-! What is written, read: the laws. -/
namespace Go.Proofs.Yteianfbdhakhpaa
set_option linter.unusedSimpArgs false
set_option linter.unusedVariables false
open Go Go.RowKit

theorem accL_next : ∀ (ds : List Int) (t : Int) (i : Nat) (y z : Int), (accL t ds)[i]? = some y → (accL t ds)[i + 1]? = some z → ∃ d ∈ ds, z = y + d
  | [], t, i, y, z, h, _ => by simp [accL] at h
  | d :: ds, t, 0, y, z, h, h2 => by
    cases ds with
    | nil => simp [accL] at h2
    | cons e r =>
      simp [accL] at h h2
      exact ⟨e, by simp, by omega⟩
  | d :: ds, t, i + 1, y, z, h, h2 => by
    have e : accL t (d :: ds) = (t + d) :: accL (t + d) ds := rfl
    rw [e, List.getElem?_cons_succ] at h h2
    obtain ⟨q, hq, hz⟩ := accL_next ds (t + d) i y z h h2
    exact ⟨q, by simp [hq], hz⟩
theorem ris_of {lo hi : Int} {l : List Int} (h1 : ∀ x ∈ l, lo ≤ x ∧ x ≤ hi) (h2 : ∀ i y z, l[i]? = some y → l[i + 1]? = some z → y < z) : risB lo hi l = true := by
  unfold risB
  rw [List.all_eq_true]
  intro i hi
  have hi := List.mem_range.1 hi
  have e : l.getD i 0 = l[i] := by simp [List.getD, hi]
  unfold risOk
  rw [Bool.and_eq_true, fromI_iff, e]
  refine ⟨h1 _ (List.getElem_mem hi), ?_⟩
  rcases i with _ | j
  · simp
  · have e2 : l.getD (j + 1 - 1) 0 = l[j] := by simp [List.getD, show j < l.length by omega]
    rw [e2, Bool.or_eq_true, decide_eq_true_eq, decide_eq_true_eq]
    exact .inr (h2 j _ _ (List.getElem?_eq_getElem (by omega)) (List.getElem?_eq_getElem hi))
theorem dsL_pos {X : Pu} (ok : POk X) (s : Int) : ∀ d ∈ dsL X s, 0 < d := fun d hd => by
  have hp := ok.pi; have hs := ok.sl; have hg := ok.ga; have ha := ok.pa
  rw [dsL_rst] at hd
  simp only [rst, List.mem_append, List.mem_replicate, List.mem_cons] at hd
  rcases hd with rfl | ⟨_, rfl⟩ | rfl | ⟨_, rfl⟩ <;> omega
/-- The train of what is written, without sparks. -/
def Pu.wr (X : Pu) (L : List Int) (t : Int) : Pu := ⟨X.l, X.n, X.pi, X.sl, X.ga, X.pa, 0, wrtL X L t⟩
theorem wr_valid {X : Pu} (hv : vB X = true) {L : List Int} {t : Int} (hb : wrB X L t = true) : vB (X.wr L t) = true := by
  have ok := (vB_ok hv).1
  rw [vB_iff] at *
  obtain ⟨h1, h2, h3, h4, h5, h6, h7, h8⟩ := hv
  unfold wrB at hb
  rw [Bool.and_eq_true, decide_eq_true_eq, decide_eq_true_eq] at hb
  refine ⟨h1, h2, h3, h4, h5, h6, by show 0 ≤ (0 : Int) ∧ (0 : Int) ≤ 3; omega, hb.1, ?_⟩
  refine ris_of (fun x hx => fromI_iff.1 (cntF_all hb.2 x hx)) (fun i y z hy hz => ?_)
  obtain ⟨d, hd, rfl⟩ := accL_next _ _ _ _ _ hy hz
  unfold alD at hd
  obtain ⟨s, _, hs⟩ := List.mem_flatMap.1 hd
  have := dsL_pos ok s d hs
  omega
theorem lof_wr (X : Pu) (L : List Int) (t : Int) (ts : List Int) : lof (X.wr L t) ts = lof X ts := by
  have := lof_wt (X.at 0) (wrtL X L t) ts
  rw [show (X.at 0).wt (wrtL X L t) = X.wr L t from rfl] at this
  rw [this]
  exact lofA_at X 0 _ _
theorem RS_wr {X : Pu} (ok : POk X) {L : List Int} (t : Int) (h : ∀ s ∈ L, 0 ≤ s ∧ s < X.l * X.n) : RS (X.wr L t) = [([], L)] := by
  show (setsG (wrtL X L t).length 0 0 []).filterMap (rdO (X.wr L t)) = _
  rw [setsG]
  have e : rdO (X.wr L t) [] = some ([], L) := by
    unfold rdO
    rw [lof_wr, show (X.wr L t).ts = wrtL X L t from rfl]
    unfold woL
    rw [woA_nil, lof_wrt ok t h]
    rfl
  rw [List.filterMap_cons, e]
  rfl
structure WrLaw (X : Pu) (L : List Int) (t : Int) : Prop where
  e : erX (X.wr L t) true = 0
  m : manN (X.wr L t) = 1
  re : rdE (X.wr L t) true = 0
  li : rdLi (X.wr L t) true = L
  so : (soX reB (X.wr L t)).length = (wrtL X L t).length
theorem wr_law {X : Pu} (hv : vB X = true) {L : List Int} {t : Int} (hb : wrB X L t = true) (h : ∀ s ∈ L, 0 ≤ s ∧ s < X.l * X.n) : WrLaw X L t := by
  have ok := (vB_ok hv).1
  have hR := RS_wr ok t h
  have hvY := wr_valid hv hb
  have he : erX (X.wr L t) true = 0 := by
    unfold erX
    rw [hR]
    have hc : chkE (X.wr L t) true = 0 := by unfold chkE; rw [hvY]; rfl
    unfold erO; rw [hc]; simp
  have hre : rdE (X.wr L t) true = 0 := by
    unfold rdE
    rw [if_pos he, hR]
    rw [if_pos]
    simp [sameB, cntR, slB]
  refine ⟨he, ?_, hre, ?_, ?_⟩
  · unfold manN; rw [if_pos he, hR]; rfl
  · unfold rdLi; rw [if_pos hre, hR]; rfl
  · unfold soX; rw [if_pos he, hR]
    unfold soL
    rw [List.length_map, List.filter_eq_self.2 (fun i _ => by simp [reB, cntK, cntR, inL])]
    simp [Pu.wr]
theorem wr_first {X : Pu} {s : Int} {L : List Int} {t : Int} : (wrtL X (s :: L) t)[0]? = some t := by rw [wrtL_cons]; rfl
theorem wr_nil {X : Pu} {L : List Int} {t : Int} : (wrtL X L t).length = 0 ↔ L.length = 0 := by
  cases L with
  | nil => simp [wrtL, alD, accL]
  | cons s L => rw [wrtL_cons]; simp
end Go.Proofs.Yteianfbdhakhpaa
