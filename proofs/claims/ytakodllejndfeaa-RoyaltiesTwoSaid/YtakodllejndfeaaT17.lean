import Derived.Test.YtakodllejndfeaaT16
/-! Whether a royal is one that a statement examines; whether an error, and a slice, are what they can be. -/
namespace Go.Proofs.Ytakodllejndfeaa
set_option linter.unusedSimpArgs false
set_option linter.unusedVariables false
open Go Go.RowKit

/-- A side that came in. -/
def SdIn (w : World) (b o : Nat) (s : Sd) : Prop :=
  ∃ (a' : Option Addr) (c : Nat), w.cell? ⟨b, o, none⟩ = some (.int .i64 s.pl) ∧ w.cell? ⟨b, o + 1, none⟩ = some (.slice a' s.ps.length c) ∧ s.ps.length ≤ 9223372036854775807 ∧ (s.ps.length ≤ 1000 → Prs w a' s.ps) ∧ i64R s.pl
/-- A royal that came in: what is far too much is not read. -/
structure RyIn (w : World) (aS aO : Option Addr) (p : Int) (S : List Sd) (O : List Int) : Prop where
  sl : S.length ≤ 9223372036854775807
  sd : S.length ≤ 1000 → ∀ i, i < S.length → ∃ b off, aS = some ⟨b, off, none⟩ ∧ b < w.heap.size ∧ SdIn w b (off + i * 2) (S.getD i sd0)
  ow : Ints w aO O
  pr : i64R p
theorem SdIn.below {w w' : World} {b o : Nat} {s : Sd} (h : SdIn w b o s) {B : Nat} (hb : Below B w w') (hB : w.heap.size ≤ B) : SdIn w' b o s := by
  obtain ⟨a', c, h1, h2, h3, h4, h5⟩ := h
  have l1 := cell_lt h1
  exact ⟨a', c, by rw [hb.cell (p := ⟨b, o, none⟩) (by show b < B; simp at l1; omega)]; exact h1, by rw [hb.cell (p := ⟨b, o + 1, none⟩) (by show b < B; simp at l1; omega)]; exact h2, h3, fun h => (h4 h).below hb hB, h5⟩
theorem RyIn.below {w w' : World} {aS aO : Option Addr} {p : Int} {S : List Sd} {O : List Int} (h : RyIn w aS aO p S O) {B : Nat} (hb : Below B w w') (hB : w.heap.size ≤ B) : RyIn w' aS aO p S O :=
  ⟨h.sl, fun hl i hi => by
    obtain ⟨b, off, h1, h2, h3⟩ := h.sd hl i hi
    have hs := hb.size
    exact ⟨b, off, h1, by omega, h3.below hb hB⟩, h.ow.below hb hB, h.pr⟩
/-- Whether a royal has far too much of something. -/
def farB (S : List Sd) (O : List Int) : Bool := decide (20 < S.length) || decide (40 < O.length) || S.any (fun s => decide (40 < s.ps.length))
theorem RyIn.ry {w : World} {aS aO : Option Addr} {p : Int} {S : List Sd} {O : List Int} (h : RyIn w aS aO p S O) (hf : farB S O = false) : Ry w aS aO p S O := by
  unfold farB at hf
  simp only [Bool.or_eq_false_iff, decide_eq_false_iff_not, List.any_eq_false, decide_eq_true_eq] at hf
  obtain ⟨⟨h1, h2⟩, h3⟩ := hf
  refine ⟨⟨by omega, fun i hi => ?_⟩, h.ow, by omega, h.pr⟩
  obtain ⟨b, off, e, hb, a', c, c1, c2, hl, hP, hr⟩ := h.sd (by omega) i hi
  have := h3 _ (List.mem_of_getElem? (get_of_lt sd0 hi))
  exact ⟨b, off, e, hb, a', c, c1, c2, hP (by omega), by omega, hr⟩
theorem farB_1 {S : List Sd} {O : List Int} (h : 20 < S.length) : farB S O = true := by unfold farB; rw [decide_eq_true h]; rfl
theorem farB_2 {S : List Sd} {O : List Int} (h : 40 < O.length) : farB S O = true := by unfold farB; rw [decide_eq_true h]; simp
theorem farB_3 {S : List Sd} {O : List Int} {s : Sd} (hs : s ∈ S) (h : 40 < s.ps.length) : farB S O = true := by
  unfold farB
  have : S.any (fun s => decide (40 < s.ps.length)) = true := List.any_eq_true.2 ⟨s, hs, decide_eq_true h⟩
  rw [this]; simp
theorem farB_no {S : List Sd} {O : List Int} (h1 : ¬ 20 < S.length) (h2 : ¬ 40 < O.length) (h3 : S.all (fun s => decide (s.ps.length ≤ 40)) = true) : farB S O = false := by
  unfold farB
  rw [decide_eq_false h1, decide_eq_false h2, Bool.false_or, Bool.false_or]
  rw [List.any_eq_false]
  intro s hs
  have := List.all_eq_true.1 h3 s hs
  simp only [decide_eq_true_eq] at *
  omega

set_option maxRecDepth 100000 in
set_option maxHeartbeats 4000000 in
theorem Far_any (p : Int) (aS aO : Option Addr) (cS cO : Nat) (S : List Sd) (O : List Int) (w : World) (hX : RyIn w aS aO p S O) : Calls Try.prog 33 #[.agg #[.int .i64 p, .slice aS S.length cS, .slice aO O.length cO]] w fun e w' => e = .returned (.bool (farB S O)) ∧ Below w.heap.size w w' := by
  obtain ⟨W, hW, hb, _, x0⟩ := boxes1 w #[.int .i64 p, .slice aS S.length cS, .slice aO O.length cO] 25
  have c0 := x0.cell 0 rfl; have c1 := x0.cell 1 rfl; have c2 := x0.cell 2 rfl
  have F1 := fun h => farB_1 (S := S) (O := O) h
  have F2 := fun h => farB_2 (S := S) (O := O) h
  have F3 := fun s hs h => farB_3 (S := S) (O := O) (s := s) hs h
  have F4 := fun h1 h2 h3 => farB_no (S := S) (O := O) h1 h2 h3
  have hl1 := hX.sl; have hl2 := hX.ow.len
  have hX1 := hX.below hb (Nat.le_refl _)
  obtain ⟨r, hr⟩ : ∃ r, r = farB S O := ⟨_, rfl⟩
  rw [← hr] at F1 F2 F3 F4 ⊢
  clear hr hX
  obtain ⟨m, hm⟩ : ∃ m, m = S.length := ⟨_, rfl⟩
  obtain ⟨n, hn⟩ : ∃ n, n = O.length := ⟨_, rfl⟩
  rw [← hm] at F1 F4 hl1 c1 x0 hW ⊢
  rw [← hn] at F2 F4 hl2 c2 x0 hW ⊢
  have HM := hid hm
  clear hm hn
  by_cases h1 : 20 < m
  · have h1I : (20 : Int) < (m : Int) := by omega
    have HR := hid (F1 h1)
    clear F1 F2 F3 F4 h1
    go_enter Try.func33, Try.ntmps33
    go_wp2
    go_ret
    exact ⟨ret_bool (by rw [HR.out]), hb⟩
  · have h1I : ¬ (20 : Int) < (m : Int) := by omega
    by_cases h2 : 40 < n
    · have h2I : (40 : Int) < (n : Int) := by omega
      have HR := hid (F2 h2)
      clear F1 F2 F3 F4 h2 h1
      go_enter Try.func33, Try.ntmps33
      go_wp2
      go_ret
      exact ⟨ret_bool (by rw [HR.out]), hb⟩
    · have h2I : ¬ (40 : Int) < (n : Int) := by omega
      have HF4 := hid (F4 h1 h2)
      clear F1 F2 F4
      go_enter Try.func33, Try.ntmps33
      go_wp2
      go_loopw [3] (fun v3 wr => ∃ k : Nat, k ≤ m ∧ v3 = .int .i64 (k : Int) ∧ Hid ((S.take k).all (fun s => decide (s.ps.length ≤ 40)) = true) ∧ wr = W) (fun v3 _ => m - (intOf v3).toNat)
      case atStart => exact ⟨0, Nat.zero_le _, rfl, hid rfl, rfl⟩
      case round =>
        obtain ⟨k, hk, rfl, HK, rfl⟩ := hrel
        by_cases hlt : k < m
        · obtain ⟨b, off, rfl, hbl, a', c', q0, q1, hpl, hP, hrg⟩ := hX1.sd (by rw [← HM.out]; omega) k (by rw [← HM.out]; exact hlt)
          have hg := get_of_lt (l := S) sd0 (show k < S.length by rw [← HM.out]; exact hlt)
          have hkI : (k : Int) < m := by omega
          have hk0 : (0 : Int) ≤ (k : Int) := by omega
          have hmem := List.mem_of_getElem? hg
          have hno := fun h => F3 _ hmem h
          have hys := fun h => all_take (f := fun s : Sd => decide (s.ps.length ≤ 40)) hg HK.out h
          obtain ⟨q, hq⟩ : ∃ q, q = (S.getD k sd0).ps.length := ⟨_, rfl⟩
          rw [← hq] at q1 hpl hno hys
          by_cases h40 : 40 < q
          · have h40I : (40 : Int) < (q : Int) := by omega
            have HR := hid (hno h40)
            clear hno hys hg hmem hP hq F3 h40
            go_wp2
            go_ret
            exact ⟨ret_bool (by rw [HR.out]), hb⟩
          · have h40I : ¬ (40 : Int) < (q : Int) := by omega
            have HK2 := hid (hys (decide_eq_true (show q ≤ 40 by omega)))
            clear hno hys hg hmem hP hq F3
            go_wp2
            go_roundw
            case rel => exact ⟨k + 1, by omega, by simp, HK2, trivial⟩
            case measure => simp [intOf]; omega
        · have hkm : k = m := by omega
          have hall := HK.out
          rw [hkm, HM.out, List.take_length] at hall
          have HR := hid (HF4.out hall)
          have hkI : ¬ (k : Int) < m := by omega
          clear hall hkm F3 HK HF4
          go_wp2
          go_ret
          exact ⟨ret_bool (by rw [HR.out]), hb⟩
/-- Whether a royal is one that a statement examines. -/
def rdB (p : Int) (S : List Sd) (O : List Int) : Bool := !farB S O && vB p S O
theorem rdB_ok {p : Int} {S : List Sd} {O : List Int} (h : rdB p S O = true) : farB S O = false ∧ vB p S O = true := by
  unfold rdB at h
  simpa using h
set_option maxRecDepth 100000 in
set_option maxHeartbeats 1000000 in
theorem ready_any (p : Int) (aS aO : Option Addr) (cS cO : Nat) (S : List Sd) (O : List Int) (w : World) (hX : RyIn w aS aO p S O) : Calls Try.prog 13 #[.agg #[.int .i64 p, .slice aS S.length cS, .slice aO O.length cO]] w fun e w' => e = .returned (.bool (rdB p S O)) ∧ Below w.heap.size w w' := by
  obtain ⟨W, hW, hb, _, x0⟩ := boxes1 w #[.int .i64 p, .slice aS S.length cS, .slice aO O.length cO] 25
  have hX1 := hX.below hb (Nat.le_refl _)
  have hf := Far_any p aS aO cS cO S O W hX1
  have hry := fun (V : World) (hb : Below W.heap.size W V) h => (hX1.below hb (Nat.le_refl _)).ry h
  have hck := fun V h => chk_any p aS aO cS cO S O V h
  unfold rdB
  generalize farB S O = f at *
  generalize vB p S O = v at *
  have c0 := x0.cell 0 rfl; have c1 := x0.cell 1 rfl; have c2 := x0.cell 2 rfl
  go_enter Try.func13, Try.ntmps13
  cases f
  · go_wp2_with fail
    refine hf.mono ?_
    rintro e W1 ⟨rfl, hb1⟩
    have hry1 := hry _ hb1 (by first | rfl | trivial)
    have hck1 := hck _ hry1
    replace x0 := x0.below hb1
    have hbr := hb.trans (hb1.mono hb.size)
    clear hW hX hX1 hf hry hck c0 c1 c2 hb hb1 hry1
    have c0 := x0.cell 0 rfl; have c1 := x0.cell 1 rfl; have c2 := x0.cell 2 rfl
    cases v
    · go_wp2_with fail
      refine hck1.mono ?_
      rintro e W2 ⟨rfl, hb2⟩
      simp only [cod]
      replace hbr := hbr.trans (hb2.mono hbr.size)
      clear hb2 hck1
      go_wp2
      go_ret
      exact ⟨rfl, hbr⟩
    · go_wp2_with fail
      refine hck1.mono ?_
      rintro e W2 ⟨rfl, hb2⟩
      simp only [cod]
      replace hbr := hbr.trans (hb2.mono hbr.size)
      clear hb2 hck1
      go_wp2
      go_ret
      exact ⟨rfl, hbr⟩
  · go_wp2_with fail
    refine hf.mono ?_
    rintro e W1 ⟨rfl, hb1⟩
    have hbr := hb.trans (hb1.mono hb.size)
    clear hb hb1
    go_wp2
    go_ret
    exact ⟨rfl, hbr⟩
/-- The error of a valid royal. -/
def errO (S : List Sd) : Int := if alS S = 0 then 3 else 0
set_option maxRecDepth 100000 in
set_option maxHeartbeats 1000000 in
theorem plain_any (p : Int) (aS aO : Option Addr) (cS cO : Nat) (S : List Sd) (O : List Int) (e0 : Int) (w : World) (hX : Ry w aS aO p S O) (hV : VOk p S O) : Calls Try.prog 16 #[.agg #[.int .i64 p, .slice aS S.length cS, .slice aO O.length cO], .int .i64 e0] w fun e w' => e = .returned (.bool (decide (e0 = errO S))) ∧ Below w.heap.size w w' := by
  obtain ⟨W, hW, hb, _, x0⟩ := boxes1 w #[.int .i64 p, .slice aS S.length cS, .slice aO O.length cO] 25
  have hp := Plays_any p aS aO cS cO S O W (hX.below hb (Nat.le_refl _)) hV
  obtain ⟨d, hd⟩ : ∃ d, d = decide (e0 = errO S) := ⟨_, rfl⟩
  rw [← hd]
  unfold errO at hd
  obtain ⟨q, hq⟩ : ∃ q, q = alS S := ⟨_, rfl⟩
  rw [← hq] at hp hd
  have c0 := x0.cell 0 rfl; have c1 := x0.cell 1 rfl; have c2 := x0.cell 2 rfl
  clear hq
  by_cases h0 : q = 0
  · have hB : (q == 0) = true := by simp [h0]
    rw [if_pos h0] at hd
    have hB2 : (e0 == 3) = d := by rw [hd]; rfl
    clear h0 hd
    go_enter Try.func16, Try.ntmps16
    go_wp2_with fail
    refine hp.mono ?_
    rintro e W1 ⟨rfl, hb1⟩
    have hbr := hb.trans (hb1.mono hb.size)
    clear hb hb1 hp
    go_wp2
    go_ret
    exact ⟨rfl, hbr⟩
  · have hB : (q == 0) = false := by simp [h0]
    rw [if_neg h0] at hd
    have hB2 : (e0 == 0) = d := by rw [hd]; rfl
    clear h0 hd
    go_enter Try.func16, Try.ntmps16
    go_wp2_with fail
    refine hp.mono ?_
    rintro e W1 ⟨rfl, hb1⟩
    have hbr := hb.trans (hb1.mono hb.size)
    clear hb hb1 hp
    go_wp2
    go_ret
    exact ⟨rfl, hbr⟩
/-- Whether a slice has a number for each writer, from 0 to a limit. -/
def sanB (n : Nat) (l : List Int) (most : Int) : Bool := decide (l.length = n) && l.all fun x => inI 0 x most
theorem sanB_no {n : Nat} {l : List Int} {most x : Int} (hx : x ∈ l) (h : inI 0 x most = false) : sanB n l most = false := by
  unfold sanB
  have : (l.all fun x => inI 0 x most) = false := by
    rw [← Bool.not_eq_true, List.all_eq_true]; intro hh; rw [hh x hx] at h; cases h
  rw [this, Bool.and_false]
set_option maxRecDepth 100000 in
set_option maxHeartbeats 4000000 in
theorem sane_any (p : Int) (aS aO : Option Addr) (cS cO : Nat) (S : List Sd) (O : List Int) (al : Option Addr) (cl : Nat) (l : List Int) (most : Int) (w : World) (hl : Ints w al l) (ho : O.length ≤ 1000) : Calls Try.prog 17 #[.agg #[.int .i64 p, .slice aS S.length cS, .slice aO O.length cO], .slice al l.length cl, .int .i64 most] w fun e w' => e = .returned (.bool (sanB O.length l most)) ∧ Below w.heap.size w w' := by
  obtain ⟨W, hW, hb, _, x0⟩ := boxes1 w #[.int .i64 p, .slice aS S.length cS, .slice aO O.length cO] 25
  have hI := hl.below hb (Nat.le_refl _)
  have hlen := hl.len
  have HN := fun x hx h => sanB_no (n := O.length) (l := l) (most := most) (x := x) hx h
  have HD : sanB O.length l most = (decide (l.length = O.length) && l.all fun x => inI 0 x most) := rfl
  obtain ⟨r, hr⟩ : ∃ r, r = sanB O.length l most := ⟨_, rfl⟩
  rw [← hr] at HN HD ⊢
  clear hr hl
  obtain ⟨n, hn⟩ : ∃ n, n = O.length := ⟨_, rfl⟩
  obtain ⟨m, hm⟩ : ∃ m, m = l.length := ⟨_, rfl⟩
  rw [← hn] at ho x0 hW HD ⊢
  rw [← hm] at hlen HD ⊢
  have HM := hid hm
  clear hn hm
  have c0 := x0.cell 0 rfl; have c1 := x0.cell 1 rfl; have c2 := x0.cell 2 rfl
  by_cases h : m = n
  · have hB : ((m : Int) != (n : Int)) = false := by simp [h]
    rw [decide_eq_true h, Bool.true_and] at HD
    have HDD := hid HD
    clear HD
    go_enter Try.func17, Try.ntmps17
    go_wp2
    go_loopw [7] (fun v7 wr => ∃ k : Nat, k ≤ m ∧ v7 = .int .i64 (k : Int) ∧ Hid ((l.take k).all (fun x => inI 0 x most) = true) ∧ wr = W) (fun v7 _ => m - (intOf v7).toNat)
    case atStart => exact ⟨0, Nat.zero_le _, rfl, hid rfl, rfl⟩
    case round =>
      obtain ⟨k, hk, rfl, HK, rfl⟩ := hrel
      by_cases hlt : k < m
      · obtain ⟨b, off, x, rfl, hbl, hc, hx1, hx2, hg, _⟩ := hI.at (k := k) (by rw [← HM.out]; exact hlt)
        have hkI : (k : Int) < m := by omega
        have hk0 : (0 : Int) ≤ (k : Int) := by omega
        have hno := HN x (List.mem_of_getElem? hg.out)
        have hys := fun h => all_take (f := fun x => inI 0 x most) hg.out HK.out h
        by_cases h0 : x < 0
        · have HR := hid (hno (by simp [inI]; omega))
          clear hno hys HN hg
          go_wp2
          go_ret
          exact ⟨ret_bool (by rw [HR.out]), hb⟩
        · by_cases h9 : most < x
          · have HR := hid (hno (by simp [inI]; omega))
            clear hno hys HN hg
            go_wp2
            go_ret
            exact ⟨ret_bool (by rw [HR.out]), hb⟩
          · have HK2 := hid (hys (inI_iff.2 ⟨by omega, by omega⟩))
            clear hno hys HN hg
            go_wp2
            go_roundw
            case rel => exact ⟨k + 1, by omega, by simp, HK2, trivial⟩
            case measure => simp [intOf]; omega
      · have hkm : k = m := by omega
        have hall := HK.out
        rw [hkm, HM.out, List.take_length] at hall
        have HR := hid (HDD.out.trans hall)
        have hkI : ¬ (k : Int) < m := by omega
        clear hall hkm HN HK HDD
        go_wp2
        go_ret
        exact ⟨ret_bool (by rw [HR.out]), hb⟩
  · have hB : ((m : Int) != (n : Int)) = true := by simp; omega
    rw [decide_eq_false h, Bool.false_and] at HD
    have HR := hid HD
    clear HD HN h
    go_enter Try.func17, Try.ntmps17
    go_wp2
    go_ret
    exact ⟨ret_bool (by rw [HR.out]), hb⟩
end Go.Proofs.Ytakodllejndfeaa
