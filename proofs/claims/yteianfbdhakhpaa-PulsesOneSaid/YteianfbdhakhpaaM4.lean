import Derived.Test.YteianfbdhakhpaaM3
import Derived.Test.YteianfbdhakhpaaTF
/-! The later train. -/
namespace Go.Proofs.Yteianfbdhakhpaa
set_option linter.unusedSimpArgs false
set_option linter.unusedVariables false
open Go Go.RowKit

/-- The same train with other times. -/
def Pu.wt (X : Pu) (ts : List Int) : Pu := ⟨X.l, X.n, X.pi, X.sl, X.ga, X.pa, X.sp, ts⟩
theorem adjB_wt (X : Pu) (t : List Int) : ∀ g : List Int, adjB (X.wt t) g = adjB X g
  | [] => rfl
  | [_] => rfl
  | x :: y :: r => by
    have := adjB_wt X t (y :: r)
    unfold adjB
    rw [this]; rfl
theorem selO_wt (X : Pu) (t : List Int) (p : List Int) : selO (X.wt t) p = selO X p := by
  unfold selO grB
  simp only [adjB_wt]
  rfl
theorem lofA_wt (X : Pu) (t : List Int) : ∀ (ps : List (List Int)) (acc : List Int), lofA (X.wt t) ps acc = lofA X ps acc
  | [], _ => rfl
  | p :: ps, acc => by
    unfold lofA
    rw [selO_wt]
    cases selO X p with
    | none => rfl
    | some v => exact lofA_wt X t ps _
theorem lof_wt (X : Pu) (t ts : List Int) : lof (X.wt t) ts = lof X ts := lofA_wt X t _ _
/-- Times, all later. -/
def shL (b : Int) (ts : List Int) : List Int := ts.map (· + b)
theorem prt_sh (b d : Int) : ∀ (r cur : List Int), prt d (shL b cur) (shL b r) = (prt d cur r).map (shL b)
  | [], _ => rfl
  | [x], cur => by simp [prt, shL]
  | x :: y :: r, cur => by
    have e : shL b (x :: y :: r) = (x + b) :: (y + b) :: shL b r := rfl
    have e2 : (y + b) :: shL b r = shL b (y :: r) := rfl
    rw [e, prt, prt, show y + b - (x + b) = y - x by omega]
    split
    · rw [e2, List.map_cons]
      have := prt_sh b d (y :: r) []
      rw [show shL b ([] : List Int) = [] from rfl] at this
      rw [this]; simp [shL]
    · rw [e2, show shL b cur ++ [x + b] = shL b (cur ++ [x]) by simp [shL]]
      exact prt_sh b d (y :: r) (cur ++ [x])
theorem adjB_sh (X : Pu) (b : Int) : ∀ g : List Int, adjB X (shL b g) = adjB X g
  | [] => rfl
  | [_] => rfl
  | x :: y :: r => by
    have := adjB_sh X b (y :: r)
    have e : shL b (x :: y :: r) = (x + b) :: (y + b) :: shL b r := rfl
    have e2 : (y + b) :: shL b r = shL b (y :: r) := rfl
    rw [e]
    show (fromI (X.pi - X.sl) (y + b - (x + b)) (X.pi + X.sl) && adjB X ((y + b) :: shL b r)) = (fromI (X.pi - X.sl) (y - x) (X.pi + X.sl) && adjB X (y :: r))
    rw [e2, this, show y + b - (x + b) = y - x by omega]
theorem selO_sh (X : Pu) (b : Int) (p : List Int) : selO X (shL b p) = selO X p := by
  have h := prt_sh b X.ga p []
  unfold selO prtL
  rw [show shL b ([] : List Int) = [] from rfl] at h
  rw [h]
  rcases prt X.ga [] p with _ | ⟨g0, _ | ⟨g1, _ | ⟨g2, r⟩⟩⟩
  · rfl
  · rfl
  · simp only [List.map_cons, List.map_nil, grB, adjB_sh]
    simp [shL]
  · rfl
theorem lofA_sh (X : Pu) (b : Int) : ∀ (ps : List (List Int)) (acc : List Int), lofA X (ps.map (shL b)) acc = lofA X ps acc
  | [], _ => rfl
  | p :: ps, acc => by
    rw [List.map_cons]
    unfold lofA
    rw [selO_sh]
    cases selO X p with
    | none => rfl
    | some v => exact lofA_sh X b ps _
theorem lof_sh (X : Pu) (b : Int) (ts : List Int) : lof X (shL b ts) = lof X ts := by
  unfold lof prtL
  have h := prt_sh b X.pa ts []
  rw [show shL b ([] : List Int) = [] from rfl] at h
  rw [h, lofA_sh]
theorem woA_sh (sp : List Int) (b : Int) : ∀ (r : List Int) (k : Nat), woA sp k (shL b r) = shL b (woA sp k r)
  | [], _ => rfl
  | x :: r, k => by
    have e : shL b (x :: r) = (x + b) :: shL b r := rfl
    rw [e, woA, woA, woA_sh sp b r (k + 1)]
    split <;> rfl
theorem rdL_sh (X : Pu) (b : Int) (m : Nat) : rdL (X.wt (shL b X.ts)) m = rdL X m := by
  unfold rdL
  have e : rdO (X.wt (shL b X.ts)) = rdO X := by
    funext s
    unfold rdO
    rw [lof_wt, show (X.wt (shL b X.ts)).ts = shL b X.ts from rfl]
    unfold woL
    rw [woA_sh, lof_sh]
  rw [e, show (X.wt (shL b X.ts)).ts.length = X.ts.length by simp [Pu.wt, shL]]
set_option linter.unusedSectionVars false
section
variable {X Y : Pu} (hv : vB Y = vB X) (hr : ∀ m, rdL Y m = rdL X m) (hs : Y.sp = X.sp) (hl : Y.ts.length = X.ts.length)
include hv hr hs
theorem RS_same : RS Y = RS X := by unfold RS; rw [hs, hr]
theorem chkE_same (o : Bool) : chkE Y o = chkE X o := by unfold chkE; rw [hv]
theorem erX_same (o : Bool) : erX Y o = erX X o := by unfold erX; rw [RS_same hv hr hs, chkE_same hv hr hs]
theorem manN_same : manN Y = manN X := by unfold manN; rw [erX_same hv hr hs, RS_same hv hr hs]
theorem fewX_same : fewX Y = fewX X := by unfold fewX; rw [hr]
theorem fewE_same : fewE Y = fewE X := by unfold fewE; rw [hv, fewX_same hv hr hs]
theorem fewN_same : fewN Y = fewN X := by unfold fewN; rw [fewE_same hv hr hs, fewX_same hv hr hs]
theorem rdE_same (o : Bool) : rdE Y o = rdE X o := by unfold rdE; rw [erX_same hv hr hs, RS_same hv hr hs]
theorem rdLi_same (o : Bool) : rdLi Y o = rdLi X o := by unfold rdLi; rw [rdE_same hv hr hs, RS_same hv hr hs]
end
end Go.Proofs.Yteianfbdhakhpaa
