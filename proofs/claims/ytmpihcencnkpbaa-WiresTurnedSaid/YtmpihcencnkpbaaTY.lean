import Derived.Test.YtmpihcencnkpbaaTV
import Derived.Test.YtmpihcencnkpbaaTO
/-! IsTruth; what is true of each truth. -/
namespace Go.Proofs.Ytmpihcencnkpbaa
set_option linter.unusedSimpArgs false
set_option linter.unusedVariables false
open Go Go.RowKit

def truB (L N : Int) (P : List F3) (F : Int) (s : List F3) : Bool := (decide ((s.length : Int) ≤ F) && setB L N s) && exB N s P
set_option maxRecDepth 100000 in
set_option maxHeartbeats 3000000 in
theorem IsTruth_any (L N : Int) (aP : Option Addr) (cP : Nat) (P : List F3) (F : Int) (aS : Option Addr) (cS : Nat) (s : List F3) (w : World) (hP : Pz w aP P) (hS : Fz w aS s) (hv : vB L N P F = true) :
    Calls Try.prog 43 #[.agg #[.int .i64 L, .int .i64 N, .slice aP P.length cP, .int .i64 F], .slice aS s.length cS] w fun e w' => e = .returned (.bool (truB L N P F s)) ∧ Below w.heap.size w w' := by
  obtain ⟨W, hW, hb, _, x0⟩ := boxes1 w #[.int .i64 L, .int .i64 N, .slice aP P.length cP, .int .i64 F] 24
  replace hP := (hP.below hb (Nat.le_refl _)).2 (by have := (vB_siz hv).2.2.1; omega)
  replace hS := hS.below hb (Nat.le_refl _)
  have hst := fun V (h : Fz V aS s) => IsSet_any L N aP cP P F aS cS s V h (vB_siz hv).1 (vB_siz hv).2.1
  have hpo := fun (h1 : setB L N s = true) V (h : Fz V aS s) (hp : Fz V aP P) => IsExplained_any L N aP cP P F aS cS s V h hp (vB_siz hv).1 (vB_siz hv).2.1 (vB_pr hv) (setB_ok hv h1) h1
  unfold truB
  clear hv
  generalize exB N s P = v at *
  generalize setB L N s = b1 at *
  obtain ⟨k, hk⟩ : ∃ k, k = s.length := ⟨_, rfl⟩
  rw [← hk] at hst hpo ⊢
  clear hk
  by_cases hF : (k : Int) ≤ F
  · have HF := hid hF
    cases b1
    · skip
      clear hpo
      have c0 := x0.cell 0 rfl; have c1 := x0.cell 1 rfl; have c2 := x0.cell 2 rfl; have c3 := x0.cell 3 rfl
      go_enter Try.func43, Try.ntmps43
      go_wp2_with fail
      refine (hst _ hS).mono ?_
      rintro e Vc1 ⟨rfl, hb1⟩
      clear c0 c1 c2 c3
      replace x0 := x0.below hb1
      replace hP := hP.below hb1 (Nat.le_refl _)
      replace hS := hS.below hb1 (Nat.le_refl _)
      replace hb := hb.trans (hb1.mono hb.size)
      clear hb1 hW hst
      have c0 := x0.cell 0 rfl; have c1 := x0.cell 1 rfl; have c2 := x0.cell 2 rfl; have c3 := x0.cell 3 rfl
      go_wp2
      go_ret
      exact ⟨ret_bool (by simp [HF.out]), hb⟩
    · skip
      replace hpo := hpo rfl
      have c0 := x0.cell 0 rfl; have c1 := x0.cell 1 rfl; have c2 := x0.cell 2 rfl; have c3 := x0.cell 3 rfl
      go_enter Try.func43, Try.ntmps43
      go_wp2_with fail
      refine (hst _ hS).mono ?_
      rintro e Vc2 ⟨rfl, hb1⟩
      clear c0 c1 c2 c3
      replace x0 := x0.below hb1
      replace hP := hP.below hb1 (Nat.le_refl _)
      replace hS := hS.below hb1 (Nat.le_refl _)
      replace hb := hb.trans (hb1.mono hb.size)
      clear hb1 hW hst
      have c0 := x0.cell 0 rfl; have c1 := x0.cell 1 rfl; have c2 := x0.cell 2 rfl; have c3 := x0.cell 3 rfl
      go_wp2_with fail
      refine (hpo _ hS hP).mono ?_
      rintro e Vc3 ⟨rfl, hb1⟩
      clear c0 c1 c2 c3
      replace x0 := x0.below hb1
      replace hP := hP.below hb1 (Nat.le_refl _)
      replace hS := hS.below hb1 (Nat.le_refl _)
      replace hb := hb.trans (hb1.mono hb.size)
      clear hb1 hpo
      have c0 := x0.cell 0 rfl; have c1 := x0.cell 1 rfl; have c2 := x0.cell 2 rfl; have c3 := x0.cell 3 rfl
      go_wp2
      go_ret
      exact ⟨ret_bool (by simp [HF.out]), hb⟩
  · have HF := hid hF
    clear hpo hst
    have c0 := x0.cell 0 rfl; have c1 := x0.cell 1 rfl; have c2 := x0.cell 2 rfl; have c3 := x0.cell 3 rfl
    go_enter Try.func43, Try.ntmps43
    go_wp2
    go_ret
    exact ⟨ret_bool (by rw [decide_eq_false (show ¬ (k : Int) ≤ F by have := HF.out; omega)]; rfl), hb⟩

theorem pw_same {i : Nat} : ∀ {X : List (List F3)}, (∀ s ∈ X, s.length = i) → X.Pairwise fun a b => a.length ≤ b.length
  | [], _ => List.Pairwise.nil
  | s :: X, h => List.pairwise_cons.2 ⟨fun t ht => by rw [h s List.mem_cons_self, h t (List.mem_cons_of_mem _ ht)]; exact Nat.le_refl _, pw_same (fun t ht => h t (List.mem_cons_of_mem _ ht))⟩
theorem find_min {p : List F3 → Bool} : ∀ {X : List (List F3)} {a b : List F3}, X.Pairwise (fun a b => a.length ≤ b.length) → X.find? p = some a → b ∈ X → p b = true → a.length ≤ b.length
  | x :: X, a, b, hX, hf, hb, hp => by
    obtain ⟨h1, h2⟩ := List.pairwise_cons.1 hX
    cases hx : p x
    · rw [List.find?_cons_of_neg (by rw [hx]; simp)] at hf
      rcases List.mem_cons.1 hb with e | e
      · rw [e, hx] at hp; cases hp
      · exact find_min h2 hf e hp
    · rw [List.find?_cons_of_pos hx] at hf
      obtain rfl : x = a := Option.some.inj hf
      rcases List.mem_cons.1 hb with e | e
      · rw [e]; exact Nat.le_refl _
      · exact h1 b e
theorem setsL_sorted {L N : Int} (hL : 1 ≤ L ∧ L ≤ 5) (hN : 1 ≤ N ∧ N ≤ 5) (m : Nat) : (setsL L N m).Pairwise fun a b => a.length ≤ b.length := by
  rw [setsL_eq, List.pairwise_flatMap]
  refine ⟨fun i _ => pw_same (i := i) (fun s hs => ((levL_mem hL hN).1 hs).2), ?_⟩
  exact List.pairwise_lt_range.imp (fun {i j} hij s hs t ht => by
    rw [((levL_mem hL hN).1 hs).2, ((levL_mem hL hN).1 ht).2]; omega)
theorem flat_all {f : F3} : ∀ (T : List (List F3)), (∀ s ∈ T, s.count f ≤ 1) → T.flatten.count f = T.length → ∀ s ∈ T, f ∈ s
  | s :: T, h, he, t, ht => by
    have h1 := (flat_cnt T (f := f) (fun t ht => h t (List.mem_cons_of_mem _ ht))).1
    have h2 := h s List.mem_cons_self
    rw [List.flatten_cons, List.count_append, List.length_cons] at he
    rcases List.mem_cons.1 ht with e | e
    · rw [e]; exact List.count_pos_iff.1 (by omega)
    · exact flat_all T (fun t ht => h t (List.mem_cons_of_mem _ ht)) (by omega) t e
/-- What is true of each truth. -/
theorem true_law {L N F l n : Int} {P s : List F3} (hr : rdB L N P F = true) (ht : truB L N P F s = true) (hp : prB L N l n = true) :
    (akE L N P F true = 0 ∧ lfE L N P F l n = 0 ∧ fwE L N P F = 0) ∧ (exE L N P F s = 0 ∧ exR L N P F s = true ∧ setB L N s = true ∧ s.length ≤ 40) ∧ ((shR L N P F l n).length ≤ 40 ∧ plV N s l n ∈ shR L N P F l n) ∧
    ((ctR sureS L N P F).length ≤ 40 ∧ (ctR maybeS L N P F).length ≤ 40 ∧ subB (ctR sureS L N P F) s = true ∧ subB s (ctR maybeS L N P F) = true) ∧ fwR L N P F ≤ s.length := by
  obtain ⟨hv, hL4, hN4, _⟩ := rdB_ok hr
  obtain ⟨hL, hN, _, hF, _⟩ := vB_siz hv
  obtain ⟨hl, hn⟩ := prB_rng hL hN hp
  have h40 := allF_40 ⟨hL.1, hL4⟩ ⟨hN.1, hN4⟩
  unfold truB at ht
  simp only [Bool.and_eq_true, decide_eq_true_eq] at ht
  obtain ⟨⟨t1, t2⟩, t3⟩ := ht
  have hm : s ∈ truL L N P F := (truL_mem hL hN).2 ⟨⟨t2, by omega⟩, t3⟩
  have hc : chE L N P F true = 0 := by unfold chE; rw [hv]; rfl
  have h0 : akE L N P F true = 0 := by
    unfold akE
    rw [if_pos hc, if_neg (fun e => by rw [e] at hm; simp at hm)]
  have hlf : lfE L N P F l n = 0 := by unfold lfE; rw [hp]; exact h0
  obtain ⟨hO, hTl⟩ := tru_ok hv
  have hcT : ∀ f, ∀ s ∈ truL L N P F, s.count f ≤ 1 := fun f s hs => setB_cnt ((truL_mem hL hN).1 hs).1.1 f
  have hfw : ∃ s0, fwS L N P = some s0 ∧ s0.length ≤ s.length := by
    have h3 : s ∈ setsL L N 3 := (setsL_mem hL hN).2 ⟨t2, by omega⟩
    cases hf : fwS L N P with
    | none =>
      unfold fwS at hf
      have := List.find?_eq_none.1 hf s h3
      rw [t3] at this; simp at this
    | some s0 => exact ⟨s0, rfl, find_min (setsL_sorted hL hN 3) hf h3 t3⟩
  obtain ⟨s0, hs0, hle⟩ := hfw
  have hex : exE L N P F s = 0 := by unfold exE chE; rw [hv, t2]; rfl
  refine ⟨⟨h0, hlf, (fw_some hc hs0).1⟩, ⟨hex, by unfold exR; rw [if_pos hex]; exact t3, t2, by omega⟩, ⟨?_, ?_⟩, ⟨ctR_len h40, ctR_len h40, ?_, ?_⟩, by rw [(fw_some hc hs0).2]; exact hle⟩
  · unfold shR
    rw [if_pos hlf]
    unfold shV
    refine Nat.le_trans (List.length_filter_le _ _) ?_
    rw [List.length_map, List.length_range]; omega
  · unfold shR
    rw [if_pos hlf, shV_mem]
    have h1 := plV_rng hN.1 (hO s hm) hl hn
    have h2 : L * N ≤ 5 * 5 := Int.mul_le_mul hL.2 hN.2 (by omega) (by omega)
    exact ⟨List.mem_map.2 ⟨s, hm, rfl⟩, by omega, by omega⟩
  · unfold subB hasF
    rw [List.all_eq_true]
    intro f hf
    rw [decide_eq_true_eq]
    unfold ctR ctL at hf
    rw [if_pos h0, List.mem_filter] at hf
    have := hf.2
    unfold sureS at this
    rw [decide_eq_true_eq] at this
    exact flat_all _ (hcT f) this s hm
  · unfold subB hasF
    rw [List.all_eq_true]
    intro f hf
    rw [decide_eq_true_eq]
    unfold ctR ctL
    rw [if_pos h0, List.mem_filter]
    refine ⟨(faultB_iff hL hN).1 ((setB_iff.1 t2).1 f hf), ?_⟩
    unfold maybeS
    rw [decide_eq_true_eq]
    exact List.count_pos_iff.2 (List.mem_flatten.2 ⟨s, hm, hf⟩)
end Go.Proofs.Ytmpihcencnkpbaa
