import Derived.Test.YtknaljghpfeikaaM15
import Derived.Test.YtknaljghpfeikaaT40
namespace Go.Proofs.Ytknaljghpfeikaa

theorem servF_is {x y : Int} {q : Int × Int} {B : List (Int × Int)} (hq : servB x y q = true) : ∀ (A : List (Int × Int)) (k : Nat), (∀ p ∈ A, servB x y p = false) → servF x y (A ++ q :: B) k = ((k + A.length : Nat) : Int)
  | [], k, _ => by
    show (if servB x y q then (k : Int) else _) = _
    rw [if_pos hq]; simp
  | p :: A, k, h => by
    show (if servB x y p then (k : Int) else servF x y (A ++ q :: B) (k + 1)) = _
    rw [h p (by simp), if_neg (by simp), servF_is hq A (k + 1) (fun r hr => h r (by simp [hr]))]
    simp only [List.length_cons]
    omega
theorem first_serv {x y : Int} : ∀ L : List (Int × Int), (∃ p ∈ L, servB x y p = true) → ∃ A q B, L = A ++ q :: B ∧ servB x y q = true ∧ ∀ p ∈ A, servB x y p = false
  | [], h => by obtain ⟨p, hp, _⟩ := h; cases hp
  | p :: L, h => by
    by_cases hp : servB x y p = true
    · exact ⟨[], p, L, rfl, hp, fun r hr => by cases hr⟩
    · obtain ⟨r, hr, hs⟩ := h
      rcases List.mem_cons.1 hr with rfl | hr
      · exact absurd hs hp
      · obtain ⟨A, q, B, e, h1, h2⟩ := first_serv L ⟨r, hr, hs⟩
        exact ⟨p :: A, q, B, by rw [e]; rfl, h1, fun t ht => by
          rcases List.mem_cons.1 ht with rfl | ht
          · simpa using hp
          · exact h2 t ht⟩
theorem servB_iff {x y : Int} {p : Int × Int} : servB x y p = true ↔ p.1 = x ∧ y ≤ p.2 := by
  unfold servB; rw [Bool.and_eq_true, decide_eq_true_eq, decide_eq_true_eq]
/-- Plays come in the order of their times. -/
theorem plays_sorted {T : Tr} (hv : VT T) : ∀ (B A : List (Int × Int)) (q : Int × Int), (runM T maxI).plays = A ++ q :: B → ∀ r ∈ B, q.2 ≤ r.2 := by
  have hc := cn_run hv (Int.le_refl maxI)
  intro B
  induction B with
  | nil => intro A q _ r hr; cases hr
  | cons b B ih =>
    intro A q e r hr
    have h1 := (hc.s A q (b :: B) e).1 b B rfl
    have hd := hc.d q (by rw [e]; simp)
    have hs := secs_le hv (k := q.1.toNat) (by omega)
    rcases List.mem_cons.1 hr with rfl | hr
    · omega
    · have := ih (A ++ [q]) b (by rw [e]; simp) r hr
      omega
/-- The play that serves a press. -/
theorem beg_facts {T : Tr} (hv : VT T) {x y : Int} (hm : (x, y) ∈ T.prs) : ∃ A q B, (runM T maxI).plays = A ++ q :: B ∧ q.1 = x ∧ y ≤ q.2 ∧ (∀ p ∈ A, servB x y p = false) ∧ servF x y (runM T maxI).plays 0 = (A.length : Nat) ∧ begF T x y = q.2 := by
  obtain ⟨p, hp, h1, h2⟩ := all_served hv (x, y) hm
  obtain ⟨A, q, B, e, hq, hA⟩ := first_serv (x := x) (y := y) _ ⟨p, hp, servB_iff.2 ⟨h1, h2⟩⟩
  have hs : servF x y (runM T maxI).plays 0 = (A.length : Nat) := by rw [e, servF_is hq A 0 hA, Nat.zero_add]
  refine ⟨A, q, B, e, (servB_iff.1 hq).1, (servB_iff.1 hq).2, hA, hs, ?_⟩
  unfold begF
  rw [hs, Int.toNat_natCast, e, List.getD_eq_getElem?_getD, List.getElem?_append_right (Nat.le_refl _), Nat.sub_self]
  rfl
theorem beg_ge {T : Tr} (hv : VT T) {x y : Int} (hm : (x, y) ∈ T.prs) : y ≤ begF T x y := by
  obtain ⟨A, q, B, _, _, h, _, _, e⟩ := beg_facts hv hm
  rw [e]; exact h
/-- No play of the side from the press on begins before the one that serves it. -/
theorem beg_least {T : Tr} (hv : VT T) {x y s : Int} (hm : (x, y) ∈ T.prs) (hs : (x, s) ∈ (runM T maxI).plays) (hy : y ≤ s) : begF T x y ≤ s := by
  obtain ⟨A, q, B, e, hq, h, hA, _, hb⟩ := beg_facts hv hm
  rw [hb]
  rw [e] at hs
  rcases List.mem_append.1 hs with h1 | h1
  · have := hA _ h1
    rw [(servB_iff (p := (x, s))).2 ⟨rfl, hy⟩] at this
    cases this
  · rcases List.mem_cons.1 h1 with h1 | h1
    · rw [← h1]; exact Int.le_refl _
    · exact plays_sorted hv B A q e _ h1
theorem addP_mem (T : Tr) (x y : Int) : (x, y) ∈ (addP T x y).prs := List.mem_append_right _ (by simp)
theorem beg_mono {T : Tr} {x y1 y2 : Int} (hv1 : VT (addP T x y1)) (hv2 : VT (addP T x y2)) (hx : 0 ≤ x ∧ x < 2 * (T.rcs.length : Int)) (h0 : 0 ≤ y1) (hy : y1 ≤ y2) (hy2 : y2 ≤ 9999) : begF (addP T x y1) x y1 ≤ begF (addP T x y2) x y2 := by
  obtain ⟨k, rfl⟩ : ∃ k : Nat, x = (k : Int) := ⟨x.toNat, by omega⟩
  obtain ⟨A, q, B, e, hq, h, _, _, hb⟩ := beg_facts hv2 (addP_mem T (k : Int) y2)
  have hmem : (((k : Nat) : Int), q.2) ∈ (runM (plusT T k y2) maxI).plays := by
    show _ ∈ (runM (addP T k y2) maxI).plays
    rw [e, ← hq]; simp
  obtain ⟨s1, a1, a2, a3⟩ := mono_plays (T := T) (x := k) hv1 hv2 (by omega) h0 hy hy2 hmem h
  rw [hb]
  exact Int.le_trans (beg_least hv1 (addP_mem T (k : Int) y1) a1 a2) a3
/-- Each pin was asked for, and each play. -/
structure Asked (T : Tr) (c : Car) : Prop where
  pin : ∀ k : Nat, c.pins k = true → ∃ y, ((k : Int), y) ∈ T.prs ∧ y ≤ c.heard ∧ ∀ p ∈ c.plays, p.1 = (k : Int) → p.2 < y
  pl : ∀ A q B, c.plays = A ++ q :: B → ∃ y, (q.1, y) ∈ T.prs ∧ y ≤ q.2 ∧ ∀ p ∈ A, p.1 = q.1 → p.2 < y
  tm : ∀ p ∈ c.plays, p.2 ≤ c.heard
theorem asked_step {T : Tr} (hv : VT T) {c : Car} (hi : Inv T c) (h : Asked T c) : Asked T (stepC T c) := by
  have hhe := hi.he
  have h1 : Asked T (hearC T c) := by
    refine ⟨fun k hk => ?_, h.pl, fun p hp => Int.le_trans (h.tm p hp) hhe.1⟩
    have hk' : hearS T.prs c.heard c.time c.pins k = true := hk
    rw [hear_at, Bool.or_eq_true, List.any_eq_true] at hk'
    rcases hk' with hk' | ⟨p, hp, hh⟩
    · obtain ⟨y, a1, a2, a3⟩ := h.pin k hk'
      exact ⟨y, a1, Int.le_trans a2 hhe.1, a3⟩
    · rw [Bool.and_eq_true, Bool.and_eq_true, decide_eq_true_eq, decide_eq_true_eq, decide_eq_true_eq] at hh
      have hpr := hv.pr p hp
      refine ⟨p.2, by rw [show ((k : Nat) : Int) = p.1 by omega]; exact hp, hh.1.2, fun r hr _ => ?_⟩
      have := h.tm r hr
      omega
  have e0 : (hearC T c).heard = (hearC T c).time := rfl
  unfold stepC
  generalize hearC T c = d at h1 e0
  have keep : ∀ d', d'.plays = d.plays → d'.pins = d.pins → d'.heard = d.heard → Asked T d' := fun d' e1 e2 e3 =>
    ⟨fun k hk => by rw [e2] at hk; rw [e1, e3]; exact h1.pin k hk, fun A q B e => by rw [e1] at e; exact h1.pl A q B e, fun p hp => by rw [e1] at hp; rw [e3]; exact h1.tm p hp⟩
  have lv : ∀ d', d'.plays = d.plays → d'.pins = d.pins → d'.heard = d.heard → Asked T (leaveC T d') := fun d' e1 e2 e3 => by
    obtain ⟨l1, l2, l3⟩ := leave_plays T d'
    exact keep _ (l1.trans e1) (l3.trans e2) (l2.trans e3)
  unfold actC
  split
  · exact keep _ rfl rfl rfl
  · split
    · exact lv _ rfl rfl rfl
    · split
      · exact keep _ rfl rfl rfl
      · split
        · rename_i hp
          obtain ⟨y, a1, a2, a3⟩ := h1.pin _ hp
          refine ⟨fun k hk => ?_, fun A q B e => ?_, fun p hp' => ?_⟩
          · have hk' : (d.pins k && !decide (k = sideAt d.up d.pos)) = true := hk
            rw [Bool.and_eq_true, Bool.not_eq_true', decide_eq_false_iff_not] at hk'
            obtain ⟨y', b1, b2, b3⟩ := h1.pin k hk'.1
            refine ⟨y', b1, b2, fun r hr hrk => ?_⟩
            rcases List.mem_append.1 (show r ∈ d.plays ++ [(((sideAt d.up d.pos : Nat) : Int), d.time)] from hr) with hr | hr
            · exact b3 r hr hrk
            · rw [List.mem_singleton] at hr
              rw [hr] at hrk
              dsimp only at hrk
              omega
          · have e' : d.plays ++ [(((sideAt d.up d.pos : Nat) : Int), d.time)] = A ++ q :: B := e
            rcases List.eq_nil_or_concat B with rfl | ⟨B0, z, rfl⟩
            · have e1 := List.append_inj' e' rfl
              injection e1.2 with e2
              rw [← e2, ← e1.1]
              exact ⟨y, a1, by show y ≤ d.time; omega, fun r hr hrk => a3 r hr hrk⟩
            · rw [List.concat_eq_append, ← List.cons_append, ← List.append_assoc] at e'
              have e1 := List.append_inj' e' rfl
              exact h1.pl A q B0 e1.1
          · rcases List.mem_append.1 (show p ∈ d.plays ++ [(((sideAt d.up d.pos : Nat) : Int), d.time)] from hp') with hr | hr
            · exact h1.tm p hr
            · rw [List.mem_singleton] at hr
              rw [hr]
              show d.time ≤ d.heard
              omega
        · exact lv _ rfl rfl rfl
theorem asked_run {T : Tr} (hv : VT T) : Asked T (runM T maxI) := by
  obtain ⟨K, hK⟩ := run_ex hv (Int.le_refl maxI)
  rw [runM_is hK]
  have key : ∀ j, j ≤ K → Asked T (iterC T j (startC T)) := by
    intro j
    induction j with
    | zero => intro _; exact ⟨fun k hk => (Bool.false_ne_true hk).elim, fun A q B e => (by have := congrArg List.length e; simp [startC, iterC] at this), fun p hp => (List.not_mem_nil (show p ∈ ([] : List (Int × Int)) from hp)).elim⟩
    | succ j ih =>
      intro hj
      exact asked_step hv (hK.rng j (by omega)).inv (ih (by omega))
  exact key K (Nat.le_refl _)
/-- Each play serves a press. -/
theorem play_serves {T : Tr} (hv : VT T) {i : Nat} (hi : i < (runM T maxI).plays.length) : ∃ p ∈ T.prs, servF p.1 p.2 (runM T maxI).plays 0 = (i : Nat) := by
  have e : (runM T maxI).plays = (runM T maxI).plays.take i ++ (runM T maxI).plays[i] :: (runM T maxI).plays.drop (i + 1) := by
    rw [← List.drop_eq_getElem_cons hi, List.take_append_drop]
  obtain ⟨y, a1, a2, a3⟩ := (asked_run hv).pl _ _ _ e
  refine ⟨_, a1, ?_⟩
  have h := servF_is (x := (runM T maxI).plays[i].1) (y := y) (q := (runM T maxI).plays[i]) (B := (runM T maxI).plays.drop (i + 1)) (servB_iff.2 ⟨rfl, a2⟩) ((runM T maxI).plays.take i) 0 (fun p hp => by
    cases hs : servB (runM T maxI).plays[i].1 y p
    · rfl
    · have hs' := servB_iff.1 hs
      have := a3 p hp hs'.1
      omega)
  rw [← e] at h
  rw [h, List.length_take]
  congr 1
  omega
end Go.Proofs.Ytknaljghpfeikaa
