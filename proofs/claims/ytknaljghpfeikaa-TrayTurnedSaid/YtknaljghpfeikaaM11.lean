import Derived.Test.YtknaljghpfeikaaM2
namespace Go.Proofs.Ytknaljghpfeikaa

/-- The other number of a side if the last record comes first and fronts and backs are exchanged. -/
def mirP (n : Nat) (p : Int × Int) : Int × Int := (2 * (n : Int) - 1 - p.1, p.2)
def mirR (rs : List (Int × Int)) : List (Int × Int) := (rs.map fun r => (r.2, r.1)).reverse
def mirT (T : Tr) : Tr := ⟨mirR T.rcs, T.rcs.length - 1 - T.at0, !T.up0, T.step, T.prs.map (mirP T.rcs.length)⟩
def mirC (n : Nat) (c : Car) : Car := { c with pos := n - 1 - c.pos, up := !c.up, side := (if c.side = -1 then -1 else 2 * (n : Int) - 1 - c.side), plays := c.plays.map (mirP n), pins := fun i => decide (i < 2 * n) && c.pins (2 * n - 1 - i) }
theorem mirR_len (rs : List (Int × Int)) : (mirR rs).length = rs.length := by simp [mirR]
theorem mirR_at {rs : List (Int × Int)} {i : Nat} (h : i < rs.length) : (mirR rs).getD i (0, 0) = ((rs.getD (rs.length - 1 - i) (0, 0)).2, (rs.getD (rs.length - 1 - i) (0, 0)).1) := by
  have h2 : rs.length - 1 - i < rs.length := by omega
  simp [mirR, List.getD_eq_getElem?_getD, h, h2]
theorem mir_vt {T : Tr} (hv : VT T) : VT (mirT T) := by
  have n1 := hv.n1; have n6 := hv.n6; have hat := hv.at0
  have hl : (mirT T).rcs.length = T.rcs.length := mirR_len _
  refine ⟨by rw [hl]; exact n1, by rw [hl]; exact n6, fun r hr => ?_, by rw [hl]; show T.rcs.length - 1 - T.at0 < _; omega, hv.st, ?_, fun p hp => ?_⟩
  · have hr' : r ∈ mirR T.rcs := hr
    simp only [mirR, List.mem_reverse, List.mem_map] at hr'
    obtain ⟨a, ha, rfl⟩ := hr'
    have := hv.rc a ha
    dsimp only
    omega
  · show (T.prs.map _).length ≤ 13
    rw [List.length_map]; exact hv.p13
  · rw [hl]
    obtain ⟨q, hq, rfl⟩ := List.mem_map.1 (show p ∈ T.prs.map (mirP T.rcs.length) from hp)
    have := hv.pr q hq
    unfold mirP
    dsimp only
    omega
theorem mir_side {n pos : Nat} (up : Bool) (h : pos < n) : sideAt (!up) (n - 1 - pos) = 2 * n - 1 - sideAt up pos := by
  unfold sideAt
  cases up <;> simp <;> omega
theorem mir_next {n pos : Nat} (up : Bool) (h : pos < n) : hasNext n (!up) (n - 1 - pos) = hasNext n up pos := by
  unfold hasNext
  cases up <;> simp <;> omega
theorem mir_secs {T : Tr} {k : Nat} (h : k < 2 * T.rcs.length) : secs (mirT T) (2 * T.rcs.length - 1 - k) = secs T k := by
  have e := mirR_at (rs := T.rcs) (i := (2 * T.rcs.length - 1 - k) / 2) (by omega)
  have e1 : T.rcs.length - 1 - (2 * T.rcs.length - 1 - k) / 2 = k / 2 := by omega
  rw [e1] at e
  unfold secs
  rw [show (mirT T).rcs = mirR T.rcs from rfl, e]
  by_cases hk : k % 2 = 0
  · rw [if_pos hk, if_neg (by omega)]
  · rw [if_neg hk, if_pos (by omega)]
theorem mir_nextP (n : Nat) (prs : List (Int × Int)) (t : Int) : nextP (prs.map (mirP n)) t = nextP prs t := by
  unfold nextP
  rw [List.foldl_map]
  rfl
theorem mir_none {n : Nat} (hn : n ≤ 6) {s : Nat → Bool} (hs : ∀ i, s i = true → i < 2 * n) : noneSet (fun i => decide (i < 2 * n) && s (2 * n - 1 - i)) = noneSet s := by
  unfold noneSet
  rw [Bool.eq_iff_iff, List.all_eq_true, List.all_eq_true]
  constructor
  · intro h i hi
    cases hsi : s i
    · rfl
    · have hl := hs i hsi
      have h1 := h (2 * n - 1 - i) (by rw [List.mem_range]; omega)
      dsimp only at h1
      rw [show 2 * n - 1 - (2 * n - 1 - i) = i by omega, hsi, decide_eq_true (show 2 * n - 1 - i < 2 * n by omega)] at h1
      cases h1
  · intro h i hi
    dsimp only
    by_cases hl : i < 2 * n
    · have h1 := h (2 * n - 1 - i) (by rw [List.mem_range]; omega)
      rw [decide_eq_true hl, Bool.true_and]
      exact h1
    · rw [decide_eq_false hl]; rfl
theorem mir_hear {n : Nat} {prs : List (Int × Int)} (hp : ∀ p ∈ prs, 0 ≤ p.1 ∧ p.1 < 2 * (n : Int)) (h t : Int) (s : Nat → Bool) :
    hearS (prs.map (mirP n)) h t (fun i => decide (i < 2 * n) && s (2 * n - 1 - i)) = fun i => decide (i < 2 * n) && hearS prs h t s (2 * n - 1 - i) := by
  funext i
  rw [hear_at, hear_at, List.any_map]
  by_cases hl : i < 2 * n
  · rw [decide_eq_true hl, Bool.true_and, Bool.true_and]
    congr 1
    rw [Bool.eq_iff_iff, List.any_eq_true, List.any_eq_true]
    constructor
    · rintro ⟨p, h1, h2⟩
      refine ⟨p, h1, ?_⟩
      have h3 := hp p h1
      rw [Function.comp, Bool.and_eq_true, Bool.and_eq_true] at h2
      rw [Bool.and_eq_true, Bool.and_eq_true]
      have a1 : h < p.2 := of_decide_eq_true h2.1.1
      have a2 : p.2 ≤ t := of_decide_eq_true h2.1.2
      have a3 : i = (2 * (n : Int) - 1 - p.1).toNat := of_decide_eq_true h2.2
      exact ⟨⟨decide_eq_true a1, decide_eq_true a2⟩, decide_eq_true (by omega)⟩
    · rintro ⟨p, h1, h2⟩
      refine ⟨p, h1, ?_⟩
      have h3 := hp p h1
      rw [Bool.and_eq_true, Bool.and_eq_true] at h2
      rw [Function.comp, Bool.and_eq_true, Bool.and_eq_true]
      have a1 : h < p.2 := of_decide_eq_true h2.1.1
      have a2 : p.2 ≤ t := of_decide_eq_true h2.1.2
      have a3 : 2 * n - 1 - i = p.1.toNat := of_decide_eq_true h2.2
      have a4 : i = (2 * (n : Int) - 1 - p.1).toNat := by omega
      exact ⟨⟨decide_eq_true a1, decide_eq_true a2⟩, decide_eq_true a4⟩
  · rw [decide_eq_false hl, Bool.false_and, Bool.false_and, Bool.false_or, List.any_eq_false]
    intro p h1 h2
    have h3 := hp p h1
    rw [Function.comp, Bool.and_eq_true] at h2
    have a3 : i = (2 * (n : Int) - 1 - p.1).toNat := of_decide_eq_true h2.2
    omega
theorem mir_hearC {T : Tr} (hv : VT T) (c : Car) : hearC (mirT T) (mirC T.rcs.length c) = mirC T.rcs.length (hearC T c) := by
  unfold hearC
  have e := mir_hear (n := T.rcs.length) (prs := T.prs) (fun p hp => by have := hv.pr p hp; omega) c.heard c.time c.pins
  show ({ mirC T.rcs.length c with pins := hearS (T.prs.map (mirP T.rcs.length)) c.heard c.time (fun i => decide (i < 2 * T.rcs.length) && c.pins (2 * T.rcs.length - 1 - i)), heard := c.time } : Car) = _
  rw [e]
  rfl
theorem mir_leave {T : Tr} {c : Car} (hp : c.pos < T.rcs.length) : leaveC (mirT T) (mirC T.rcs.length c) = mirC T.rcs.length (leaveC T c) := by
  unfold leaveC
  have e := mir_next c.up hp
  rw [show (mirT T).rcs.length = T.rcs.length from mirR_len _, show (mirC T.rcs.length c).up = !c.up from rfl, show (mirC T.rcs.length c).pos = T.rcs.length - 1 - c.pos from rfl, e]
  split <;> rfl
theorem mir_step {T : Tr} (hv : VT T) {c : Car} (hi : Inv T c) : stepC (mirT T) (mirC T.rcs.length c) = mirC T.rcs.length (stepC T c) := by
  unfold stepC
  rw [mir_hearC hv]
  have hi2 := hear_inv hv hi
  generalize hearC T c = d at hi2
  have hpos := hi2.pos
  have hn6 := hv.n6
  unfold actC
  rw [show (mirC T.rcs.length d).going = d.going from rfl]
  by_cases hg : d.going = true
  · rw [if_pos hg, if_pos hg]
    have hx := (hi2.go hg).1
    unfold arriveC mirC
    unfold hasNext at hx
    cases hu : d.up <;> rw [hu] at hx <;> simp at hx <;> simp <;> omega
  rw [if_neg hg, if_neg hg]
  by_cases hs : d.side = -1
  · have hs' : (mirC T.rcs.length d).side = -1 := by show (if d.side = -1 then (-1 : Int) else _) = -1; rw [if_pos hs]
    rw [if_neg (show ¬ (mirC T.rcs.length d).side ≠ -1 by rw [hs']; simp), if_neg (show ¬ d.side ≠ -1 by rw [hs]; simp)]
    have en : noneSet (mirC T.rcs.length d).pins = noneSet d.pins := mir_none hn6 fun i h => hi2.pin i h
    rw [en]
    by_cases hnn : noneSet d.pins = true
    · rw [if_pos hnn, if_pos hnn]
      show ({ mirC T.rcs.length d with time := nextP (T.prs.map (mirP T.rcs.length)) d.time } : Car) = _
      rw [mir_nextP]
      rfl
    rw [if_neg hnn, if_neg hnn]
    have eu : (mirC T.rcs.length d).up = !d.up := rfl
    have ep : (mirC T.rcs.length d).pos = T.rcs.length - 1 - d.pos := rfl
    rw [eu, ep, mir_side d.up hpos]
    have hk := side_lt (up := d.up) hpos
    generalize sideAt d.up d.pos = k at hk
    have epn : (mirC T.rcs.length d).pins (2 * T.rcs.length - 1 - k) = d.pins k := by
      show (decide (2 * T.rcs.length - 1 - k < 2 * T.rcs.length) && d.pins (2 * T.rcs.length - 1 - (2 * T.rcs.length - 1 - k))) = _
      rw [decide_eq_true (by omega), show 2 * T.rcs.length - 1 - (2 * T.rcs.length - 1 - k) = k by omega, Bool.true_and]
    rw [epn]
    by_cases hpk : d.pins k = true
    · rw [if_pos hpk, if_pos hpk]
      unfold playC
      rw [mir_secs hk]
      have e1 : (((2 * T.rcs.length - 1 - k : Nat) : Int)) = 2 * (T.rcs.length : Int) - 1 - (k : Int) := by omega
      have e2 : ¬ ((k : Nat) : Int) = -1 := by omega
      unfold mirC
      dsimp only
      rw [if_neg e2, e1]
      congr 1
      · rw [List.map_append]; rfl
      · funext i
        by_cases hl : i < 2 * T.rcs.length
        · rw [decide_eq_true hl, Bool.true_and, Bool.true_and]
          congr 2
          rw [decide_eq_decide]
          omega
        · rw [decide_eq_false hl]; rfl
    · rw [if_neg hpk, if_neg hpk]
      exact mir_leave hpos
  · have hs0 : (mirC T.rcs.length d).side ≠ -1 := by
      show (if d.side = -1 then (-1 : Int) else 2 * (T.rcs.length : Int) - 1 - d.side) ≠ -1
      rw [if_neg hs]
      have := hi2.sd
      omega
    rw [if_pos hs0, if_pos hs]
    exact mir_leave (T := T) (c := { d with side := -1 }) hpos
theorem mir_start {T : Tr} : mirC T.rcs.length (startC T) = startC (mirT T) := by
  unfold mirC startC mirT
  simp
/-- The turned tray's run. -/
theorem mir_run {T : Tr} (hv : VT T) {b : Int} (hb : b ≤ maxI) : runM (mirT T) b = mirC T.rcs.length (runM T b) := by
  obtain ⟨K, hK⟩ := run_ex hv hb
  obtain ⟨L, hL⟩ := run_ex (mir_vt hv) hb
  have key : ∀ j, j ≤ K → iterC (mirT T) j (startC (mirT T)) = mirC T.rcs.length (iterC T j (startC T)) := by
    intro j
    induction j with
    | zero => intro _; exact mir_start.symm
    | succ j ih =>
      intro hj
      show stepC (mirT T) (iterC (mirT T) j (startC (mirT T))) = _
      rw [ih (by omega)]
      exact mir_step hv (hK.rng j (by omega)).inv
  have htm : ∀ j, j ≤ K → (iterC (mirT T) j (startC (mirT T))).time = (iterC T j (startC T)).time := fun j hj => by rw [key j hj]; rfl
  have hLK : L = K := by
    rcases Nat.lt_trichotomy L K with h | h | h
    · have h1 := hK.lo L h
      have h2 := hL.out
      rw [htm L (by omega)] at h2
      omega
    · exact h
    · have h1 := hL.lo K h
      rw [htm K (Nat.le_refl _)] at h1
      have h2 := hK.out
      omega
  rw [runM_is hL, runM_is hK, hLK]
  exact key K (Nat.le_refl _)
end Go.Proofs.Ytknaljghpfeikaa
