import Derived.Test.YtmpihcencnkpbaaTF
import Derived.Deep.LoopGhost
import Derived.WalkMore
/-! Fewest, First. -/
namespace Go.Proofs.Ytmpihcencnkpbaa
set_option linter.unusedSimpArgs false
set_option linter.unusedVariables false
open Go Go.RowKit

theorem find_at {p : List F3 → Bool} {S : List (List F3)} {j : Nat} {s : List F3} (h : ∀ t ∈ S.take j, p t = false) (hj : S[j]? = some s) (hs : p s = true) : S.find? p = some s := by
  have e : S = S.take j ++ s :: S.drop (j + 1) := by
    have hl := (List.getElem?_eq_some_iff.1 hj).1
    have h2 : S.drop j = s :: S.drop (j + 1) := by
      rw [List.drop_eq_getElem_cons hl]
      congr 1
      rw [List.getElem?_eq_getElem hl] at hj
      exact Option.some.inj hj
    rw [← h2, List.take_append_drop]
  rw [e, List.find?_append, List.find?_eq_none.2 (fun t ht => by rw [h t ht]; simp), List.find?_cons_of_pos hs]
  rfl
theorem find_none {p : List F3 → Bool} {S : List (List F3)} (h : ∀ t ∈ S, p t = false) : S.find? p = none := List.find?_eq_none.2 (fun t ht => by rw [h t ht]; simp)
/-- The first set that explains the presses. -/
def fwS (L N : Int) (P : List F3) : Option (List F3) := (setsL L N 3).find? fun s => exB N s P
def fwE (L N : Int) (P : List F3) (F : Int) : Int := if chE L N P F true = 0 then (if fwS L N P = none then 3 else 0) else chE L N P F true
def fwR (L N : Int) (P : List F3) (F : Int) : Nat := if chE L N P F true = 0 then ((fwS L N P).map List.length).getD 0 else 0
/-- What is so of the outcome of Fewest. -/
theorem fw_bad {L N F : Int} {P : List F3} (h : chE L N P F true ≠ 0) : fwE L N P F = chE L N P F true ∧ fwR L N P F = 0 := ⟨by unfold fwE; rw [if_neg h], by unfold fwR; rw [if_neg h]⟩
theorem fw_some {L N F : Int} {P s : List F3} (h : chE L N P F true = 0) (hs : fwS L N P = some s) : fwE L N P F = 0 ∧ fwR L N P F = s.length := ⟨by unfold fwE; rw [if_pos h, hs]; simp, by unfold fwR; rw [if_pos h, hs]; rfl⟩
theorem fw_none {L N F : Int} {P : List F3} (h : chE L N P F true = 0) (hs : fwS L N P = none) : fwE L N P F = 3 ∧ fwR L N P F = 0 := ⟨by unfold fwE; rw [if_pos h, hs]; simp, by unfold fwR; rw [if_pos h, hs]; rfl⟩

set_option maxRecDepth 100000 in
set_option maxHeartbeats 4000000 in
theorem Fewest_any (L N : Int) (aP : Option Addr) (cP : Nat) (P : List F3) (F : Int) (w : World) (hP : Pz w aP P) : Calls Try.prog 25 #[.agg #[.int .i64 L, .int .i64 N, .slice aP P.length cP, .int .i64 F]] w fun e w' => e = .returned (.tuple #[.int .i64 (fwR L N P F : Nat), .int .i64 (fwE L N P F)]) ∧ Below w.heap.size w w' := by
  obtain ⟨W, hW, hb, _, x0⟩ := boxes1 w #[.int .i64 L, .int .i64 N, .slice aP P.length cP, .int .i64 F] 24
  replace hP := hP.below hb (Nat.le_refl _)
  have hck := check_any L N aP cP P F true W hP.2 hP.1
  have h1 := hid (fun h => fw_bad (L := L) (N := N) (F := F) (P := P) h)
  have h2 := hid (fun h s hs => fw_some (L := L) (N := N) (F := F) (P := P) (s := s) h hs)
  have h3 := hid (fun h hs => fw_none (L := L) (N := N) (F := F) (P := P) h hs)
  have hv := fun (h : chE L N P F true = 0) => (chE_v h).1
  generalize fwE L N P F = rE at *
  generalize fwR L N P F = r at *
  have HV := hid hv
  obtain ⟨E, hE0⟩ : ∃ E, E = chE L N P F true := ⟨_, rfl⟩
  rw [← hE0] at hck h1 h2 h3 HV
  clear hE0 hv
  have c0 := x0.cell 0 rfl; have c1 := x0.cell 1 rfl; have c2 := x0.cell 2 rfl; have c3 := x0.cell 3 rfl
  by_cases hE : E = 0
  · have hv := HV.out hE
    obtain ⟨hL, hN, hP8, _⟩ := vB_siz hv
    have hpr := vB_pr hv
    have hSL := setsL_len hL hN (m := 3) (by omega)
    have hse := fun V => sets_any L N aP cP P F 3 V hL hN (by omega)
    have hex := fun (s : List F3) (hs : s ∈ setsL L N 3) a c v (q1 : Fz v a s) (q2 : Fz v aP P) => explains_any L N aP cP P F a aP c cP s P v q1 q2 hL hN hpr (setB_ok hv ((setsL_mem hL hN).1 hs).1)
    have HEX := hid hex
    replace h2 := hid (h2.out hE)
    replace h3 := hid (h3.out hE)
    unfold fwS at h2 h3
    generalize setsL L N 3 = S at *
    subst hE
    clear h1 HV hv hpr hex
    go_enter Try.func25, Try.ntmps25
    go_wp2_with fail
    refine hck.mono ?_
    rintro e W1 ⟨rfl, hb1⟩
    replace hb := hb.trans (hb1.mono hb.size)
    replace x0 := x0.below hb1
    replace hP := hP.below hb1 (Nat.le_refl _)
    clear hW hb1 c0 c1 c2 c3 hck
    have c0 := x0.cell 0 rfl; have c1 := x0.cell 1 rfl; have c2 := x0.cell 2 rfl; have c3 := x0.cell 3 rfl
    go_wp2_with fail
    refine (hse _).mono ?_
    rintro e W2 ⟨hb1, aT, cT, rfl, hrat, _⟩
    replace hb := hb.trans (hb1.mono hb.size)
    replace x0 := x0.below hb1
    have hPz := (hP.below hb1 (Nat.le_refl _)).2 (by omega)
    clear hb1 c0 c1 c2 c3 hse hP
    obtain ⟨n, hn⟩ : ∃ n, n = S.length := ⟨_, rfl⟩
    rw [← hn] at hSL ⊢
    have HN := hid hn
    clear hn
    go_wp2
    go_loopw [6, 15] (fun v6 v15 wr => ∃ j : Nat, j ≤ n ∧ v15 = .int .i64 (j : Int) ∧ Hid (∀ t ∈ S.take j, exB N t P = false) ∧ Below W2.heap.size W2 wr) (fun _ v15 _ => n - (intOf v15).toNat)
    case atStart => exact ⟨0, Nat.zero_le _, rfl, hid (by simp), Below.refl _ _⟩
    case round =>
      obtain ⟨j, hj, rfl, hno, hbr⟩ := hrel
      by_cases hlt : j < n
      · obtain ⟨bR, oR, s, a', c', rfl, hbl, hc, hsc, hfy, hmem, hgt, htk⟩ := (hrat.below hbr (Nat.le_refl _)).at (k := j) (by rw [← HN.out]; exact hlt)
        have hjI : (j : Int) < n := by omega
        have hz0 : (0 : Int) ≤ (j : Int) := by omega
        have hft := fun v q1 q2 => HEX.out s hmem a' c' v q1 q2
        have hok := fun (h : exB N s P = true) => h2.out s (find_at (p := fun s => exB N s P) hno.out hgt.out h)
        have hno2 : exB N s P = false → ∀ t ∈ S.take (j + 1), exB N t P = false := fun h t ht => by
          rw [htk.out] at ht
          rcases List.mem_append.1 ht with h1 | h1
          · exact hno.out t h1
          · rw [List.mem_singleton.1 h1]; exact h
        obtain ⟨ls, hls⟩ : ∃ ls, ls = s.length := ⟨_, rfl⟩
        rw [← hls] at hft hc hsc
        simp only [← hls] at hok
        have hPr := hPz.below hbr (Nat.le_refl _)
        have xr := x0.below hbr
        have c0 := xr.cell 0 rfl; have c1 := xr.cell 1 rfl; have c2 := xr.cell 2 rfl; have c3 := xr.cell 3 rfl
        have HNO := hid hno2
        have HOK := hid hok
        clear hls hmem hgt htk hok hno2 hno
        cases hfb : exB N s P
        · rw [hfb] at hft
          have HN2 := hid (HNO.out hfb)
          clear HNO HOK hfb
          go_wp2_with fail
          refine (hft _ hfy.1 hPr).mono ?_
          rintro e V1 ⟨rfl, hb3⟩
          replace hbr := hbr.trans (hb3.mono hbr.size)
          clear hb3 hft c0 c1 c2 c3 hc hfy hPr xr
          go_wp2
          go_roundw
          case rel => exact ⟨j + 1, by omega, by go_num, HN2, hbr⟩
          case measure => simp [intOf]; omega
        · rw [hfb] at hft
          obtain ⟨r1, r2⟩ := HOK.out hfb
          have HR := hid (And.intro r1 r2)
          clear HNO HOK hfb r1 r2
          go_wp2_with fail
          refine (hft _ hfy.1 hPr).mono ?_
          rintro e V1 ⟨rfl, hb3⟩
          replace hbr := hbr.trans (hb3.mono hbr.size)
          replace hb := hb.trans (hbr.mono hb.size)
          clear hb3 hft c0 c1 c2 c3 hc hfy hPr xr
          go_wp2
          go_ret2
          exact ⟨by rw [HR.out.1, HR.out.2]; rfl, hb⟩
      · obtain rfl : j = n := by omega
        have hall : ∀ t ∈ S, exB N t P = false := by
          have := hno.out
          rwa [HN.out, List.take_length] at this
        obtain ⟨r1, r2⟩ := h3.out (find_none hall)
        have HR := hid (And.intro r1 r2)
        have hjI : ¬ (j : Int) < (j : Int) := by omega
        replace hb := hb.trans (hbr.mono hb.size)
        clear hall r1 r2 hno
        go_wp2
        go_ret2
        exact ⟨by rw [HR.out.1, HR.out.2]; rfl, hb⟩
  · have hB : (E != 0) = true := by simpa using hE
    obtain ⟨r1, r2⟩ := h1.out hE
    have HR := hid (And.intro r1 r2)
    clear h1 h2 h3 HV r1 r2 hE
    go_enter Try.func25, Try.ntmps25
    go_wp2_with fail
    refine hck.mono ?_
    rintro e W1 ⟨rfl, hb1⟩
    replace hb := hb.trans (hb1.mono hb.size)
    clear hW hb1 c0 c1 c2 c3 hck x0 hP
    go_wp2
    go_ret2
    exact ⟨by rw [HR.out.1, HR.out.2]; rfl, hb⟩

theorem slice_h22 (a : Option Addr) (n c : Nat) (k : Int) (hk : 0 ≤ k ∧ k ≤ (c : Int)) (w : World) : (Instr.slice 22 (.slice a n c) none (some (.int .i64 k)) none).run Try.prog w = .ok (.slice a k.toNat c) w := by
  have ht : Try.prog.underlying 22 = some (.slice (Try.prog.elem 22)) := by kernel_rfl
  have he : Try.prog.elem 22 = 58 := by kernel_rfl
  rw [run_slice_h w 22 a n c ht .i64 k hk.1 hk.2, he, size58]
  simp [Result.andThen, sliced_h]
theorem exB_take {N : Int} {s P : List F3} (h : exB N s P = true) (k : Nat) : exB N s (P.take k) = true := by
  unfold exB at *
  rw [List.all_eq_true] at *
  exact fun p hp => h p (List.mem_of_mem_take hp)
/-- Some set explains the first presses. -/
def exSome (N : Int) (S : List (List F3)) (P : List F3) : Bool := S.any fun s => exB N s P
/-- The first press that cannot be explained with all before it. -/
def fiF (N : Int) (S : List (List F3)) (P : List F3) : Option Nat := (List.range P.length).find? fun i => !exSome N S (P.take (i + 1))
def fiE (L N : Int) (P : List F3) (F : Int) : Int := if chE L N P F true = 0 then (if fiF N (setsL L N F.toNat) P = none then 3 else 0) else chE L N P F true
def fiR (L N : Int) (P : List F3) (F : Int) : Nat := if chE L N P F true = 0 then (fiF N (setsL L N F.toNat) P).getD 0 else 0
theorem fi_bad {L N F : Int} {P : List F3} (h : chE L N P F true ≠ 0) : fiE L N P F = chE L N P F true ∧ fiR L N P F = 0 := ⟨by unfold fiE; rw [if_neg h], by unfold fiR; rw [if_neg h]⟩
theorem fi_some {L N F : Int} {P : List F3} {i : Nat} (h : chE L N P F true = 0) (hs : fiF N (setsL L N F.toNat) P = some i) : fiE L N P F = 0 ∧ fiR L N P F = i := ⟨by unfold fiE; rw [if_pos h, hs]; simp, by unfold fiR; rw [if_pos h, hs]; rfl⟩
theorem fi_none {L N F : Int} {P : List F3} (h : chE L N P F true = 0) (hs : fiF N (setsL L N F.toNat) P = none) : fiE L N P F = 3 ∧ fiR L N P F = 0 := ⟨by unfold fiE; rw [if_pos h, hs]; simp, by unfold fiR; rw [if_pos h, hs]; rfl⟩
theorem fiF_at {N : Int} {S : List (List F3)} {P : List F3} {i : Nat} (h : ∀ k, k < i → exSome N S (P.take (k + 1)) = true) (hi : i < P.length) (hn : exSome N S (P.take (i + 1)) = false) : fiF N S P = some i := by
  unfold fiF
  have e : List.range P.length = List.range i ++ i :: (List.range (P.length - (i + 1))).map (i + 1 + ·) := by
    have h1 : P.length = i + 1 + (P.length - (i + 1)) := by omega
    rw [h1, List.range_add, List.range_succ, List.append_assoc]
    have h2 : i + 1 + (P.length - (i + 1)) - (i + 1) = P.length - (i + 1) := by omega
    rw [h2]; rfl
  rw [e, List.find?_append, List.find?_eq_none.2 (fun k hk => by rw [h k (List.mem_range.1 hk)]; simp), List.find?_cons_of_pos (by rw [hn]; rfl)]
  rfl
theorem fiF_none {N : Int} {S : List (List F3)} {P : List F3} (h : ∀ k, k < P.length → exSome N S (P.take (k + 1)) = true) : fiF N S P = none := List.find?_eq_none.2 (fun k hk => by rw [h k (List.mem_range.1 hk)]; simp)

set_option maxRecDepth 100000 in
set_option maxHeartbeats 6000000 in
theorem First_any (L N : Int) (aP : Option Addr) (cP : Nat) (P : List F3) (F : Int) (w : World) (hP : Pz w aP P) (hcap : P.length ≤ cP) : Calls Try.prog 27 #[.agg #[.int .i64 L, .int .i64 N, .slice aP P.length cP, .int .i64 F]] w fun e w' => e = .returned (.tuple #[.int .i64 (fiR L N P F : Nat), .int .i64 (fiE L N P F)]) ∧ Below w.heap.size w w' := by
  obtain ⟨W, hW, hb, _, x0⟩ := boxes1 w #[.int .i64 L, .int .i64 N, .slice aP P.length cP, .int .i64 F] 24
  replace hP := hP.below hb (Nat.le_refl _)
  have hck := check_any L N aP cP P F true W hP.2 hP.1
  have h1 := hid (fun h => fi_bad (L := L) (N := N) (F := F) (P := P) h)
  have h2 := hid (fun h i hs => fi_some (L := L) (N := N) (F := F) (P := P) (i := i) h hs)
  have h3 := hid (fun h hs => fi_none (L := L) (N := N) (F := F) (P := P) h hs)
  have hv := fun (h : chE L N P F true = 0) => (chE_v h).1
  generalize fiE L N P F = rE at *
  generalize fiR L N P F = r at *
  have HV := hid hv
  obtain ⟨E, hE0⟩ : ∃ E, E = chE L N P F true := ⟨_, rfl⟩
  rw [← hE0] at hck h1 h2 h3 HV
  clear hE0 hv
  by_cases hE : E = 0
  · have hv := HV.out hE
    obtain ⟨hL, hN, hP8, hF3, _⟩ := vB_siz hv
    have hpr := vB_pr hv
    obtain ⟨f, hf⟩ : ∃ f : Nat, F = (f : Int) := ⟨F.toNat, by omega⟩
    subst hf
    rw [Int.toNat_natCast] at h2 h3
    have hSL := setsL_len hL hN (m := f) (by omega)
    have hse := fun V => sets_any L N aP cP P (f : Int) f V hL hN (by omega)
    have hex := fun (s : List F3) (hs : s ∈ setsL L N f) (k : Nat) a c v (q1 : Fz v a s) (q2 : Fz v aP P) => explains_any L N aP cP P (f : Int) a aP c cP s (P.take k) v q1 (q2.take k) hL hN (fun p hp => hpr p (List.mem_of_mem_take hp)) (setB_ok hv ((setsL_mem hL hN).1 hs).1)
    have HEX := hid hex
    replace h2 := hid (h2.out hE)
    replace h3 := hid (h3.out hE)
    generalize setsL L N f = S at *
    subst hE
    obtain ⟨m, hm⟩ : ∃ m, m = P.length := ⟨_, rfl⟩
    rw [← hm] at hP8 hcap hck x0 hW hse
    have HEX2 : Hid (∀ s ∈ S, ∀ k, k ≤ m → ∀ a c v, Fz v a s → Fz v aP P → Calls Try.prog 61 #[.agg #[.int .i64 L, .int .i64 N, .slice aP m cP, .int .i64 (f : Int)], .slice a s.length c, .slice aP k cP] v fun e w' => e = .returned (.bool (exB N s (P.take k))) ∧ Below v.heap.size v w') := hid fun s hs k hk a c v q1 q2 => by
      have := HEX.out s hs k a c v q1 q2
      rw [List.length_take, ← hm, Nat.min_eq_left hk] at this
      exact this
    rw [← hm]
    have HM := hid hm
    clear h1 HV hv hpr hex HEX hm
    have c0 := x0.cell 0 rfl; have c1 := x0.cell 1 rfl; have c2 := x0.cell 2 rfl; have c3 := x0.cell 3 rfl
    go_enter Try.func27, Try.ntmps27
    go_wp2
    go_step3
    go_wp2_with fail
    refine hck.mono ?_
    rintro e W1 ⟨rfl, hb1⟩
    replace hb := hb.trans (hb1.mono hb.size)
    replace x0 := x0.below hb1
    replace hP := hP.below hb1 (Nat.le_refl _)
    clear hW hb1 c0 c1 c2 c3 hck
    have c0 := x0.cell 0 rfl; have c1 := x0.cell 1 rfl; have c2 := x0.cell 2 rfl; have c3 := x0.cell 3 rfl
    go_wp2_with fail
    refine (hse _).mono ?_
    rintro e W2 ⟨hb1, aT, cT, rfl, hrat, _⟩
    replace hb := hb.trans (hb1.mono hb.size)
    replace x0 := x0.below hb1
    have hPz := (hP.below hb1 (Nat.le_refl _)).2 (by have := HM.out; omega)
    clear hb1 c0 c1 c2 c3 hse hP
    obtain ⟨n, hn⟩ : ∃ n, n = S.length := ⟨_, rfl⟩
    rw [← hn] at hSL ⊢
    have HN := hid hn
    clear hn
    have c0 := x0.cell 0 rfl; have c1 := x0.cell 1 rfl; have c2 := x0.cell 2 rfl; have c3 := x0.cell 3 rfl
    go_wp2
    go_step3
    go_wp2
    clear c0 c1 c2 c3
    go_loopg [6, 8, 21] m (fun g v6 v8 v21 wr => ∃ i : Nat, i + g = m ∧ v21 = .int .i64 (i : Int) ∧ Hid (∀ k, k < i → exSome N S (P.take (k + 1)) = true) ∧ Below W2.heap.size W2 wr)
    case atStart => exact ⟨0, by omega, rfl, hid (fun k hk => by omega), Below.refl _ _⟩
    case round =>
      obtain ⟨i, hig, rfl, hyes, hbr⟩ := hrel
      cases gk with
      | zero =>
        obtain rfl : i = m := by omega
        have hiI : ¬ (i : Int) < (i : Int) := by omega
        obtain ⟨r1, r2⟩ := h3.out (fiF_none (fun k hk => hyes.out k (by rw [HM.out]; exact hk)))
        have HR := hid (And.intro r1 r2)
        replace hb := hb.trans (hbr.mono hb.size)
        clear r1 r2 hyes hig
        go_wp2
        (try rw [Exit.noGoto_ret])
        go_ret2
        exact ⟨by rw [HR.out.1, HR.out.2]; rfl, hb⟩
      | succ g =>
        have him : i < m := by omega
        have hiI : (i : Int) < (m : Int) := by omega
        have hi0 : (0 : Int) ≤ (i : Int) := by omega
        have hw1 : IntKind.i64.wrap ((i : Int) + 1) = ((i + 1 : Nat) : Int) := by rw [IntWalk.i64_in _ (by omega)]; omega
        have hbrs := hbr
        go_wp2
        go_loopg [8, 26] n (fun g2 v8 v26 wi => ∃ j : Nat, j + g2 = n ∧ v26 = .int .i64 (j : Int) ∧ Hid (∀ t ∈ S.take j, exB N t (P.take (i + 1)) = false) ∧ Below W2.heap.size W2 wi)
        case atStart => exact ⟨0, by omega, rfl, hid (by simp), hbr⟩
        case round =>
          clear hbr hbrs
          obtain ⟨j, hjg, rfl, hno, hbr⟩ := hrel
          cases gk with
          | zero =>
            obtain rfl : j = n := by omega
            have hjI : ¬ (j : Int) < (j : Int) := by omega
            have hall : exSome N S (P.take (i + 1)) = false := by
              unfold exSome
              rw [← Bool.not_eq_true, List.any_eq_true]
              rintro ⟨t, ht, h⟩
              have := hno.out t (by rw [HN.out, List.take_length]; exact ht)
              rw [this] at h; cases h
            obtain ⟨r1, r2⟩ := h2.out i (fiF_at hyes.out (by rw [← HM.out]; exact him) hall)
            have HR := hid (And.intro r1 r2)
            replace hb := hb.trans (hbr.mono hb.size)
            clear r1 r2 hno hyes hall hjg hig
            go_wp2
            (try rw [Exit.noGoto_ret])
            go_ret2
            exact ⟨by rw [HR.out.1, HR.out.2]; rfl, hb⟩
          | succ g2 =>
            have hjn : j < n := by omega
            obtain ⟨bR, oR, s, a', c', rfl, hbl, hc, hsc, hfy, hmem, hgt, htk⟩ := (hrat.below hbr (Nat.le_refl _)).at (k := j) (by rw [← HN.out]; exact hjn)
            have hjI : (j : Int) < n := by omega
            have hz0 : (0 : Int) ≤ (j : Int) := by omega
            obtain ⟨k1, hk1⟩ : ∃ k1, k1 = i + 1 := ⟨_, rfl⟩
            have hft := fun v q1 q2 => HEX2.out s hmem k1 (by omega) a' c' v q1 q2
            have hw2 : IntKind.i64.wrap ((i : Int) + 1) = (k1 : Int) := by rw [hw1, hk1]
            have hno2 : exB N s (P.take k1) = false → ∀ t ∈ S.take (j + 1), exB N t (P.take (i + 1)) = false := fun h t ht => by
              rw [hk1] at h
              rw [htk.out] at ht
              rcases List.mem_append.1 ht with h1 | h1
              · exact hno.out t h1
              · rw [List.mem_singleton.1 h1]; exact h
            have hys : exB N s (P.take k1) = true → ∀ k, k < i + 1 → exSome N S (P.take (k + 1)) = true := fun h k hk => by
              rw [hk1] at h
              rcases Nat.lt_or_ge k i with h1 | h1
              · exact hyes.out k h1
              · obtain rfl : k = i := by omega
                unfold exSome
                rw [List.any_eq_true]; exact ⟨s, hmem, h⟩
            obtain ⟨ls, hls⟩ : ∃ ls, ls = s.length := ⟨_, rfl⟩
            rw [← hls] at hft hc hsc
            have hPr := hPz.below hbr (Nat.le_refl _)
            have xr := x0.below hbr
            have hsl := slice_h22 aP m cP (k1 : Int) ⟨by omega, by omega⟩
            rw [Int.toNat_natCast] at hsl
            have HNO := hid hno2
            have HYS := hid hys
            have hfs := hfy.1
            have HK1 := hid hk1
            clear hls hmem hgt htk hys hno2 hno hfy hw1 hk1
            go_upto_region 11 with fail
            clear hc
            have hbd := (Below.refl wr.heap.size wr).drew
            have S0 := (And.intro (xr.below hbd) (And.intro (hfs.below hbd (Nat.le_refl _)) (hPr.below hbd (Nat.le_refl _))))
            replace hbr := hbr.trans (hbd.mono hbr.size)
            clear hbd xr hfs hPr
            refine wp_region_head 7 (fun w' => (Bx w' w.heap.size #[.int .i64 L, .int .i64 N, .slice aP m cP, .int .i64 (f : Int)] 24) ∧ (Fz w' a' s) ∧ (Fz w' aP P)) (by kernel_rfl) rfl ?_
            generalize wr.drew = Y0 at *
            refine HeadAt.take (i := 0) (.agg #[.int .i64 L, .int .i64 N, .slice aP m cP, .int .i64 (f : Int)]) rfl (by kernel_rfl) (.inl ⟨rfl, fun w' z => ?_⟩) S0 ?_
            · (have z0 := z.1.cell 0 rfl; have z1 := z.1.cell 1 rfl; have z2 := z.1.cell 2 rfl; have z3 := z.1.cell 3 rfl; simp [go_sem, z0, z1, z2, z3])
            (try simp only [Act.put, List.getElem_toArray, List.getElem_cons_succ, List.getElem_cons_zero, List.setIfInBounds_toArray, List.set_cons_succ, List.set_cons_zero])
            refine HeadAt.take (i := 1) (.slice a' ls c') rfl (by kernel_rfl) (.inl ⟨rfl, fun _ _ => by simp [go_sem]⟩) S0 ?_
            (try simp only [Act.put, List.getElem_toArray, List.getElem_cons_succ, List.getElem_cons_zero, List.setIfInBounds_toArray, List.set_cons_succ, List.set_cons_zero])
            refine HeadAt.take (i := 2) (.pointer (some ⟨w.heap.size, 2, none⟩)) rfl (by kernel_rfl) (.inl ⟨rfl, fun _ _ => by simp [go_sem]⟩) S0 ?_
            (try simp only [Act.put, List.getElem_toArray, List.getElem_cons_succ, List.getElem_cons_zero, List.setIfInBounds_toArray, List.set_cons_succ, List.set_cons_zero])
            refine HeadAt.take (i := 3) (.slice aP m cP) rfl (by kernel_rfl) (.inl ⟨rfl, fun w' z => ?_⟩) S0 ?_
            · (have z0 := z.1.cell 2 rfl; simp [go_sem, z0])
            (try simp only [Act.put, List.getElem_toArray, List.getElem_cons_succ, List.getElem_cons_zero, List.setIfInBounds_toArray, List.set_cons_succ, List.set_cons_zero])
            refine HeadAt.take (i := 4) (.int .i64 (i : Int)) rfl (by kernel_rfl) (.inl ⟨rfl, fun _ _ => by simp [go_sem]⟩) S0 ?_
            (try simp only [Act.put, List.getElem_toArray, List.getElem_cons_succ, List.getElem_cons_zero, List.setIfInBounds_toArray, List.set_cons_succ, List.set_cons_zero])
            refine HeadAt.take (i := 5) (.int .i64 (k1 : Int)) rfl (by kernel_rfl) (.inl ⟨rfl, fun w' z => ?_⟩) S0 ?_
            · (simp [go_sem, hw2])
            (try simp only [Act.put, List.getElem_toArray, List.getElem_cons_succ, List.getElem_cons_zero, List.setIfInBounds_toArray, List.set_cons_succ, List.set_cons_zero])
            refine HeadAt.take (i := 6) (.slice aP k1 cP) rfl (by kernel_rfl) (.inl ⟨rfl, fun w' z => ?_⟩) S0 ?_
            · (simp [go_sem, hsl])
            (try simp only [Act.put, List.getElem_toArray, List.getElem_cons_succ, List.getElem_cons_zero, List.setIfInBounds_toArray, List.set_cons_succ, List.set_cons_zero])
            refine HeadAt.done (by kernel_rfl) ?_
            (try simp only [Act.put, List.drop_succ_cons, List.drop_zero, List.getElem_toArray, List.getElem_cons_succ, List.getElem_cons_zero])
            obtain ⟨xr, hfs, hPr⟩ := S0
            clear xr
            cases hfb : exB N s (P.take k1)
            · rw [hfb] at hft
              have HN2 := hid (HNO.out hfb)
              clear HNO HYS hfb
              go_wp2_with fail
              refine (hft _ hfs hPr).mono ?_
              rintro e V1 ⟨rfl, hb3⟩
              replace hbr := hbr.trans (hb3.mono hbr.size)
              clear hb3 hft hPr hfs
              go_wp2_with fail
              refine NoPanic.normal ?_
              go_wp2
              go_roundg g2
              case measure => omega
              case rel => exact ⟨j + 1, by omega, by go_num, HN2, hbr⟩
            · rw [hfb] at hft
              have HY2 := hid (HYS.out hfb)
              clear HNO HYS hfb
              go_wp2_with fail
              refine (hft _ hfs hPr).mono ?_
              rintro e V1 ⟨rfl, hb3⟩
              replace hbr := hbr.trans (hb3.mono hbr.size)
              clear hb3 hft hPr hfs
              go_wp2_with fail
              refine NoPanic.normal ?_
              go_wp2
              go_roundg g
              case measure => omega
              case rel =>
                have hk1 := HK1.out
                exact ⟨i + 1, by omega, by rw [← hk1], HY2, hbr⟩
  · have hB : (E != 0) = true := by simpa using hE
    obtain ⟨r1, r2⟩ := h1.out hE
    have HR := hid (And.intro r1 r2)
    clear h1 h2 h3 HV r1 r2 hE
    have c0 := x0.cell 0 rfl; have c1 := x0.cell 1 rfl; have c2 := x0.cell 2 rfl; have c3 := x0.cell 3 rfl
    go_enter Try.func27, Try.ntmps27
    go_wp2
    go_step3
    go_wp2_with fail
    refine hck.mono ?_
    rintro e W1 ⟨rfl, hb1⟩
    replace hb := hb.trans (hb1.mono hb.size)
    clear hW hb1 c0 c1 c2 c3 hck x0 hP
    go_wp2
    (try rw [Exit.noGoto_ret])
    go_ret2
    exact ⟨by rw [HR.out.1, HR.out.2]; rfl, hb⟩
end Go.Proofs.Ytmpihcencnkpbaa
