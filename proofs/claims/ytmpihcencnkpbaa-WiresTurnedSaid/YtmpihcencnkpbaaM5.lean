import Derived.Test.YtmpihcencnkpbaaM4
/-! The answers about the exchanged box. -/
namespace Go.Proofs.Ytmpihcencnkpbaa
set_option linter.unusedSimpArgs false
set_option linter.unusedVariables false
open Go Go.RowKit

theorem presB_in {L N : Int} (hL : 1 ≤ L ∧ L ≤ 5) (hN : 1 ≤ N ∧ N ≤ 5) {P : List F3} : presB L N P = true ↔ ∀ p ∈ P, ((0 ≤ p.k ∧ p.k < L) ∧ (0 ≤ p.a ∧ p.a < N)) ∧ (-1 ≤ p.b ∧ p.b ≤ L * N - 1) := by
  have h25 : 1 * 1 ≤ L * N ∧ L * N ≤ 5 * 5 := ⟨Int.mul_le_mul hL.1 hN.1 (by omega) (by omega), Int.mul_le_mul hL.2 hN.2 (by omega) (by omega)⟩
  have e0 : w64 (L * N) = L * N := w64_in (by omega)
  have e1 : w64 (w64 (L * N) - 1) = L * N - 1 := by rw [e0]; exact w64_in (by omega)
  have e2 : w64 (L - 1) = L - 1 := w64_in (by omega)
  have e3 : w64 (N - 1) = N - 1 := w64_in (by omega)
  unfold presB prB fromI
  rw [e1, e2, e3]
  simp only [List.all_eq_true, Bool.and_eq_true, decide_eq_true_eq]
  constructor
  · intro h p hp
    have := h p hp
    omega
  · intro h p hp
    have := h p hp
    omega
theorem tuP_len (L N : Int) (P : List F3) : (tuP L N P).length = P.length := by simp [tuP]
theorem tuP_take (L N : Int) (P : List F3) (k : Nat) : (tuP L N P).take k = tuP L N (P.take k) := by simp [tuP, List.map_take]
theorem vB_tu {L N F : Int} {P : List F3} (h : vB L N P F = true) : vB N L (tuP L N P) F = true := by
  obtain ⟨hL, hN, h8, hF, hp⟩ := vB_siz h
  have h1 : presB N L (tuP L N P) = true := (presB_in hN hL).2 fun q hq => by
    obtain ⟨p, hpm, rfl⟩ := List.mem_map.1 hq
    obtain ⟨⟨a1, a2⟩, a3⟩ := (presB_in hL hN).1 hp p hpm
    exact ⟨⟨a2, a1⟩, sel_rng hL hN a3⟩
  unfold vB sizB fromI
  rw [h1, tuP_len]
  simp only [Bool.and_eq_true, decide_eq_true_eq, and_true]
  omega
/-- Sets of one box are those of the other one, exchanged. -/
theorem sets_tu {L N : Int} (hL : 1 ≤ L ∧ L ≤ 5) (hN : 1 ≤ N ∧ N ≤ 5) {m : Nat} {s : List F3} (h : s ∈ setsL L N m) : tuS L N s ∈ setsL N L m := by
  obtain ⟨h1, h2⟩ := (setsL_mem hL hN).1 h
  exact (setsL_mem hN hL).2 ⟨tuS_set hL hN h1, by rw [tuS_len hL hN h1]; exact h2⟩
theorem ex_tu2 {L N : Int} (hL : 1 ≤ L ∧ L ≤ 5) (hN : 1 ≤ N ∧ N ≤ 5) {m : Nat} {s : List F3} (h : s ∈ setsL L N m) {P : List F3} (hp : presB L N P = true) : exB L (tuS L N s) (tuP L N P) = exB N s P :=
  ex_tu hL hN ((setsL_mem hL hN).1 h).1 ((presB_in hL hN).1 hp)
theorem back_tu {L N : Int} (hL : 1 ≤ L ∧ L ≤ 5) (hN : 1 ≤ N ∧ N ≤ 5) {m : Nat} {t : List F3} (h : t ∈ setsL N L m) : ∃ s ∈ setsL L N m, tuS L N s = t :=
  ⟨tuS N L t, sets_tu hN hL h, tuS_tu hN hL ((setsL_mem hN hL).1 h).1⟩
theorem tru_tu {L N F : Int} {P : List F3} (h : vB L N P F = true) : (truL N L (tuP L N P) F).Perm ((truL L N P F).map (tuS L N)) := by
  obtain ⟨hL, hN, _, _, hp⟩ := vB_siz h
  refine perm_of ((setsL_nodup hN hL _).filter _) ?_ fun t => ?_
  · show List.Pairwise _ _
    rw [List.pairwise_map]
    refine List.Pairwise.imp_of_mem (fun {a b} ha hb hab e => hab ?_) (show (truL L N P F).Nodup from (setsL_nodup hL hN _).filter _)
    have h1 := ((truL_mem hL hN).1 ha).1.1
    have h2 := ((truL_mem hL hN).1 hb).1.1
    rw [← tuS_tu hL hN h1, e, tuS_tu hL hN h2]
  · unfold truL
    rw [List.mem_filter, List.mem_map]
    constructor
    · rintro ⟨h1, h2⟩
      obtain ⟨s, hs, rfl⟩ := back_tu hL hN h1
      exact ⟨s, List.mem_filter.2 ⟨hs, by rw [← ex_tu2 hL hN hs hp]; exact h2⟩, rfl⟩
    · rintro ⟨s, hs, rfl⟩
      obtain ⟨h1, h2⟩ := List.mem_filter.1 hs
      exact ⟨sets_tu hL hN h1, by rw [ex_tu2 hL hN h1 hp]; exact h2⟩
theorem some_tu {L N : Int} (hL : 1 ≤ L ∧ L ≤ 5) (hN : 1 ≤ N ∧ N ≤ 5) {m : Nat} {P : List F3} (hp : presB L N P = true) : exSome L (setsL N L m) (tuP L N P) = exSome N (setsL L N m) P := by
  unfold exSome
  rw [Bool.eq_iff_iff, List.any_eq_true, List.any_eq_true]
  constructor
  · rintro ⟨t, h1, h2⟩
    obtain ⟨s, hs, rfl⟩ := back_tu hL hN h1
    exact ⟨s, hs, by rw [← ex_tu2 hL hN hs hp]; exact h2⟩
  · rintro ⟨s, hs, h2⟩
    exact ⟨_, sets_tu hL hN hs, by rw [ex_tu2 hL hN hs hp]; exact h2⟩
theorem fw_tu {L N F : Int} {P : List F3} (h : vB L N P F = true) : fwE N L (tuP L N P) F = fwE L N P F ∧ fwR N L (tuP L N P) F = fwR L N P F := by
  obtain ⟨hL, hN, _, _, hp⟩ := vB_siz h
  have hc : chE L N P F true = 0 := by unfold chE; rw [h]; rfl
  have hc' : chE N L (tuP L N P) F true = 0 := by unfold chE; rw [vB_tu h]; rfl
  have hiff : ∀ s ∈ setsL L N 3, exB L (tuS L N s) (tuP L N P) = exB N s P := fun s hs => ex_tu2 hL hN hs hp
  cases h1 : fwS L N P with
  | none =>
    have h2 : fwS N L (tuP L N P) = none := List.find?_eq_none.2 fun t ht => by
      obtain ⟨s, hs, rfl⟩ := back_tu hL hN ht
      rw [hiff s hs]
      exact List.find?_eq_none.1 h1 s hs
    obtain ⟨a1, a2⟩ := fw_none hc h1
    obtain ⟨b1, b2⟩ := fw_none hc' h2
    exact ⟨by rw [a1, b1], by rw [a2, b2]⟩
  | some s =>
    have hs := List.mem_of_find?_eq_some h1
    have hse := List.find?_some h1
    cases h2 : fwS N L (tuP L N P) with
    | none =>
      have := List.find?_eq_none.1 h2 _ (sets_tu hL hN hs)
      rw [hiff s hs] at this
      exact absurd hse this
    | some t =>
      have ht := List.mem_of_find?_eq_some h2
      have hte := List.find?_some h2
      obtain ⟨a1, a2⟩ := fw_some hc h1
      obtain ⟨b1, b2⟩ := fw_some hc' h2
      refine ⟨by rw [a1, b1], ?_⟩
      rw [a2, b2]
      have l1 := find_min (setsL_sorted hN hL 3) h2 (sets_tu hL hN hs) (by rw [hiff s hs]; exact hse)
      rw [tuS_len hL hN ((setsL_mem hL hN).1 hs).1] at l1
      obtain ⟨u, hu, rfl⟩ := back_tu hL hN ht
      have l2 := find_min (setsL_sorted hL hN 3) h1 hu (by rw [← hiff u hu]; exact hte)
      rw [tuS_len hL hN ((setsL_mem hL hN).1 hu).1] at l1 ⊢
      omega
theorem pres_take {L N : Int} {P : List F3} (h : presB L N P = true) (k : Nat) : presB L N (P.take k) = true := by
  unfold presB at h ⊢
  rw [List.all_eq_true] at h ⊢
  exact fun p hp => h p (List.mem_of_mem_take hp)
theorem fi_tu {L N F : Int} {P : List F3} (h : vB L N P F = true) : fiE N L (tuP L N P) F = fiE L N P F ∧ fiR N L (tuP L N P) F = fiR L N P F := by
  obtain ⟨hL, hN, _, _, hp⟩ := vB_siz h
  have hc : chE L N P F true = 0 := by unfold chE; rw [h]; rfl
  have hc' : chE N L (tuP L N P) F true = 0 := by unfold chE; rw [vB_tu h]; rfl
  have hf : fiF L (setsL N L F.toNat) (tuP L N P) = fiF N (setsL L N F.toNat) P := by
    unfold fiF
    rw [tuP_len]
    congr 1
    funext i
    rw [tuP_take, some_tu hL hN (pres_take hp _)]
  unfold fiE fiR
  rw [if_pos hc, if_pos hc', if_pos hc, if_pos hc', hf]
  exact ⟨rfl, rfl⟩
theorem ak_tu {L N F : Int} {P : List F3} (h : vB L N P F = true) : akE N L (tuP L N P) F true = akE L N P F true ∧ (akT N L (tuP L N P) F true).length = (akT L N P F true).length := by
  have hc : chE L N P F true = 0 := by unfold chE; rw [h]; rfl
  have hc' : chE N L (tuP L N P) F true = 0 := by unfold chE; rw [vB_tu h]; rfl
  have hl : (truL N L (tuP L N P) F).length = (truL L N P F).length := by rw [(tru_tu h).length_eq, List.length_map]
  have hE : akE N L (tuP L N P) F true = akE L N P F true := by
    unfold akE
    rw [if_pos hc, if_pos hc']
    by_cases h0 : truL L N P F = []
    · rw [if_pos h0, if_pos (List.eq_nil_of_length_eq_zero (by rw [hl, h0]; rfl))]
    · rw [if_neg h0, if_neg (fun e => h0 (List.eq_nil_of_length_eq_zero (by rw [← hl, e]; rfl)))]
  refine ⟨hE, ?_⟩
  unfold akT
  rw [hE]
  split
  · exact hl
  · rfl
theorem count_map_inj {f : Int → Int} {l : List Int} (hf : ∀ x ∈ l, ∀ y ∈ l, f x = f y → x = y) {x : Int} (hx : x ∈ l) : (l.map f).count (f x) = l.count x := by
  rw [List.count, List.count, List.countP_map]
  refine List.countP_congr fun y hy => ?_
  simp only [Function.comp, beq_iff_eq]
  exact ⟨fun e => hf y hy x hx e, fun e => by rw [e]⟩
theorem mxL_map {f : Int → Int} {l : List Int} (hf : ∀ x ∈ l, ∀ y ∈ l, f x = f y → x = y) : mxL (l.map f) = mxL l := by
  refine (mxL_eq (l := l.map f) (m := mxL l) (fun y hy => ?_) ?_).symm
  · obtain ⟨x, hx, rfl⟩ := List.mem_map.1 hy
    rw [count_map_inj hf hx]; exact mxL_ge hx
  · rcases mxL_at l with e | ⟨x, hx, e⟩
    · exact .inl e
    · exact .inr ⟨f x, List.mem_map.2 ⟨x, hx, rfl⟩, by rw [count_map_inj hf hx]; exact e⟩
theorem lf_tu {L N F l n : Int} {P : List F3} (h : vB L N P F = true) (hp : prB L N l n = true) : lfE N L (tuP L N P) F n l = lfE L N P F l n ∧ lfR N L (tuP L N P) F n l = lfR L N P F l n := by
  obtain ⟨hL, hN, _, _, _⟩ := vB_siz h
  obtain ⟨hl, hn⟩ := prB_rng hL hN hp
  have hp' : prB N L n l = true := by
    have e2 : w64 (L - 1) = L - 1 := w64_in (by omega)
    have e3 : w64 (N - 1) = N - 1 := w64_in (by omega)
    unfold prB fromI
    rw [e2, e3]
    simp only [Bool.and_eq_true, decide_eq_true_eq]
    omega
  have hE : lfE N L (tuP L N P) F n l = lfE L N P F l n := by unfold lfE; rw [hp, hp']; exact (ak_tu h).1
  refine ⟨hE, ?_⟩
  unfold lfR
  rw [hE]
  split
  · have e : plL L ((truL L N P F).map (tuS L N)) n l = (plL N (truL L N P F) l n).map (selV L N) := by
      unfold plL
      rw [List.map_map, List.map_map]
      refine List.map_congr_left fun s hs => ?_
      exact pl_tu hL hN hl hn ((truL_mem hL hN).1 hs).1.1
    rw [mxL_perm (plL_perm (tru_tu h)), e]
    have hr : ∀ x ∈ plL N (truL L N P F) l n, -1 ≤ x ∧ x ≤ L * N - 1 := fun x hx => by
      obtain ⟨s, hs, rfl⟩ := List.mem_map.1 hx
      exact plV_rng hN.1 (fun f hf => Okf.of hL hN (set_all hL hN ((truL_mem hL hN).1 hs).1.1 hf)) hl hn
    refine mxL_map fun x hx y hy e => ?_
    rw [← sel_sel hL hN (hr x hx), e, sel_sel hL hN (hr y hy)]
  · rfl
theorem cnt_tu {L N F : Int} {P : List F3} (h : vB L N P F = true) {g : F3} (hg : g ∈ allF N L) : (truL N L (tuP L N P) F).flatten.count g = (truL L N P F).flatten.count (tuF g) := by
  obtain ⟨hL, hN, _, _, _⟩ := vB_siz h
  rw [cntH_flat (fun s hs => set_nodup ((truL_mem hN hL).1 hs).1.1), cntH_flat (fun s hs => set_nodup ((truL_mem hL hN).1 hs).1.1), cntH_perm (tru_tu h)]
  unfold cntH
  rw [List.filter_map, List.length_map]
  congr 1
  refine List.filter_congr fun s hs => ?_
  have hst := ((truL_mem hL hN).1 hs).1.1
  have hk := k14 hN hL hg
  have e := has_tu hL hN hst (f := tuF g) (by
    have h34 := tkI_34 hk
    show 1 ≤ tkI g.k ∧ tkI g.k ≤ 4
    rcases (show g.k = 1 ∨ g.k = 2 ∨ g.k = 3 ∨ g.k = 4 by omega) with q | q | q | q <;> rw [q] <;> decide)
  rw [tuF_tu hk] at e
  exact e
theorem ct_tu {L N F : Int} {P : List F3} {so : Nat → Nat → Bool} (h : vB L N P F = true) : ctR so N L (tuP L N P) F = tuS L N (ctR so L N P F) := by
  obtain ⟨hL, hN, _, _, _⟩ := vB_siz h
  unfold ctR
  rw [(ak_tu h).1]
  split
  · unfold ctL tuS
    have hl : (truL N L (tuP L N P) F).length = (truL L N P F).length := by rw [(tru_tu h).length_eq, List.length_map]
    refine List.filter_congr fun g hg => ?_
    rw [cnt_tu h hg, hl]
    unfold hasF
    rw [Bool.eq_iff_iff, decide_eq_true_eq, List.mem_filter]
    exact ⟨fun q => ⟨(tuF_mem hL hN).2 hg, q⟩, fun q => q.2⟩
  · unfold tuS hasF
    simp
theorem ct_sub {L N F : Int} {P : List F3} {so : Nat → Nat → Bool} : subB (ctR so L N P F) (allF L N) = true := by
  unfold subB hasF ctR
  rw [List.all_eq_true]
  intro f hf
  rw [decide_eq_true_eq]
  split at hf
  · exact (List.mem_filter.1 hf).1
  · simp at hf
/-- What is true of the exchanged box. -/
theorem turn_law {L N F l n : Int} {P : List F3} (hr : rdB L N P F = true) (hp : prB L N l n = true) :
    ((akE N L (tuP L N P) F true = akE L N P F true ∧ (akT N L (tuP L N P) F true).length = (akT L N P F true).length) ∧ (fwE N L (tuP L N P) F = fwE L N P F ∧ fwR N L (tuP L N P) F = fwR L N P F)) ∧
    ((fiE N L (tuP L N P) F = fiE L N P F ∧ fiR N L (tuP L N P) F = fiR L N P F) ∧ (lfE N L (tuP L N P) F n l = lfE L N P F l n ∧ lfR N L (tuP L N P) F n l = lfR L N P F l n)) ∧
    (ctR sureS N L (tuP L N P) F = tuS L N (ctR sureS L N P F) ∧ ctR maybeS N L (tuP L N P) F = tuS L N (ctR maybeS L N P F)) ∧
    ((subB (ctR sureS L N P F) (allF L N) = true ∧ subB (ctR maybeS L N P F) (allF L N) = true) ∧ (ctR sureS L N P F).length ≤ 40 ∧ (ctR maybeS L N P F).length ≤ 40 ∧ (allF L N).length ≤ 40) := by
  obtain ⟨hv, hL4, hN4, _⟩ := rdB_ok hr
  obtain ⟨hL, hN, _, hF, _⟩ := vB_siz hv
  have h40 := allF_40 ⟨hL.1, hL4⟩ ⟨hN.1, hN4⟩
  exact ⟨⟨ak_tu hv, fw_tu hv⟩, ⟨fi_tu hv, lf_tu hv hp⟩, ⟨ct_tu hv, ct_tu hv⟩, ⟨ct_sub, ct_sub⟩, ctR_len h40, ctR_len h40, h40⟩
end Go.Proofs.Ytmpihcencnkpbaa
