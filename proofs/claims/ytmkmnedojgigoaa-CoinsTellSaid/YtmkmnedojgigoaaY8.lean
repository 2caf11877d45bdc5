import Derived.Test.YtmkmnedojgigoaaY7
import Derived.Test.YtmkmnedojgigoaaH2
namespace Go.Proofs.Ytmkmnedojgigoaa
open Go.RowKit

set_option maxRecDepth 100000 in
set_option maxHeartbeats 1000000 in
theorem tel_far (r : Int) (an ac : Option Addr) (cn cc : Nat) (N C : List Int) (w : World) (hN : Ints w an N) (hC : Ints w ac C) (hf : farB N C = true) : Calls Try.prog 7 #[.agg #[.int .i64 r, .slice an N.length cn, .slice ac C.length cc]] w (WorksP w) := by
  obtain ⟨W, hW, hb, hs, x0⟩ := boxes1 w #[.int .i64 r, .slice an N.length cn, .slice ac C.length cc] 24
  clear hs
  replace hN := hN.below hb (Nat.le_refl _); replace hC := hC.below hb (Nat.le_refl _)
  have c0 := x0.cell 0 rfl; have c1 := x0.cell 1 rfl; have c2 := x0.cell 2 rfl
  go_enter Try.func7, Try.ntmps7
  go_wp2_with fail
  refine (far_any _ _ _ _ _ _ _ _ hN hC).mono ?_
  rintro e1 W1 ⟨rfl, hb1⟩
  rw [hf]
  replace hb := hb.trans (hb1.mono hb.size)
  clear hW c0 c1 c2 x0 hb1 hN hC
  go_wp2_with fail
  refine (works_any _).mono ?_
  rintro e9 V3 ⟨rfl, hb1⟩
  replace hb := hb.trans (hb1.mono hb.size)
  clear hb1
  go_wp2
  go_ret
  exact ⟨rfl, hb⟩

set_option maxRecDepth 100000 in
set_option maxHeartbeats 1000000 in
theorem tel_big (R : Nat) (an ac : Option Addr) (cn cc : Nat) (N C : List Int) (w : World) (hN : Ints w an N) (hC : Ints w ac C) (hf : farB N C = false) (hv : Vw R N C) (hR : 30 < R) : Calls Try.prog 7 #[.agg #[.int .i64 (R : Int), .slice an N.length cn, .slice ac C.length cc]] w (WorksP w) := by
  have hk : chk (R : Int) N C = 0 := by simp [chk, hv.valid]
  have hRI : (30 : Int) < (R : Int) := by omega
  obtain ⟨W, hW, hb, hs, x0⟩ := boxes1 w #[.int .i64 (R : Int), .slice an N.length cn, .slice ac C.length cc] 24
  clear hs
  replace hN := hN.below hb (Nat.le_refl _); replace hC := hC.below hb (Nat.le_refl _)
  have c0 := x0.cell 0 rfl; have c1 := x0.cell 1 rfl; have c2 := x0.cell 2 rfl
  go_enter Try.func7, Try.ntmps7
  go_wp2_with fail
  refine (far_any _ _ _ _ _ _ _ _ hN hC).mono ?_
  rintro e1 W1 ⟨rfl, hb1⟩
  rw [hf]
  clear hW
  replace hN := hN.below hb1 (Nat.le_refl _); replace hC := hC.below hb1 (Nat.le_refl _); (try clear c0 c1 c2); replace x0 := x0.below hb1; have c0 := x0.cell 0 rfl; have c1 := x0.cell 1 rfl; have c2 := x0.cell 2 rfl; replace hb := hb.trans (hb1.mono hb.size); clear hb1
  go_wp2_with fail
  refine (refCheck_any _ _ _ _ _ _ _ _ hN hC).mono ?_
  rintro e1 W2 ⟨rfl, hb1⟩
  rw [hk]
  (try clear c0 c1 c2); replace x0 := x0.below hb1; have c0 := x0.cell 0 rfl; have c1 := x0.cell 1 rfl; have c2 := x0.cell 2 rfl; replace hb := hb.trans (hb1.mono hb.size); clear hb1
  clear hN hC
  go_wp2_with fail
  refine (works_any _).mono ?_
  rintro e9 V3 ⟨rfl, hb1⟩
  replace hb := hb.trans (hb1.mono hb.size)
  clear hb1
  go_wp2
  go_ret
  exact ⟨rfl, hb⟩

set_option maxRecDepth 100000 in
set_option maxHeartbeats 1000000 in
theorem tel_bad (r : Int) (an ac : Option Addr) (cn cc : Nat) (N C : List Int) (w : World) (hN : Ints w an N) (hC : Ints w ac C) (hf : farB N C = false) (hv : validB r N C = false) : Calls Try.prog 7 #[.agg #[.int .i64 r, .slice an N.length cn, .slice ac C.length cc]] w (WorksP w) := by
  have hk : chk r N C = 10 := by simp [chk, hv]
  have hnl : N.length ≤ 40 ∧ C.length ≤ 40 := by
    simp only [farB, Bool.or_eq_false_iff, decide_eq_false_iff_not] at hf; omega
  have hN0 := hN; have hC0 := hC
  obtain ⟨W, hW, hb, hs, x0⟩ := boxes1 w #[.int .i64 r, .slice an N.length cn, .slice ac C.length cc] 24
  clear hs hN hC
  have c0 := x0.cell 0 rfl; have c1 := x0.cell 1 rfl; have c2 := x0.cell 2 rfl
  go_enter Try.func7, Try.ntmps7
  go_wp2_with fail
  refine (far_any _ _ _ _ _ _ _ _ (hN0.below hb (Nat.le_refl _)) (hC0.below hb (Nat.le_refl _))).mono ?_
  rintro e1 W1 ⟨rfl, hb1⟩
  rw [hf]
  clear hW
  (try clear c0 c1 c2); replace x0 := x0.below hb1; have c0 := x0.cell 0 rfl; have c1 := x0.cell 1 rfl; have c2 := x0.cell 2 rfl; replace hb := hb.trans (hb1.mono hb.size); clear hb1
  go_wp2_with fail
  refine (refCheck_any _ _ _ _ _ _ _ _ (hN0.below hb (Nat.le_refl _)) (hC0.below hb (Nat.le_refl _))).mono ?_
  rintro e1 W2 ⟨rfl, hb1⟩
  rw [hk]
  (try clear c0 c1 c2); replace x0 := x0.below hb1; have c0 := x0.cell 0 rfl; have c1 := x0.cell 1 rfl; have c2 := x0.cell 2 rfl; replace hb := hb.trans (hb1.mono hb.size); clear hb1
  go_wp2_with fail
  refine (copy_any _ _ _ _ _ _ _ _ (hN0.below hb (Nat.le_refl _)) (hC0.below hb (Nat.le_refl _)) hnl.1 hnl.2).mono ?_
  rintro e1 W3 ⟨hb1, a1, a2, e1, e2, rfl, hN, hC⟩
  replace x0 := x0.below hb1; replace hb := hb.trans (hb1.mono hb.size); clear hb1
  clear c0 c1 c2 hf
  go_upto_region 4 with fail
  obtain ⟨W4, hW4, hb1, hs4, x3⟩ := boxes1 W3 #[.int .i64 r, .slice a1 N.length e1, .slice a2 C.length e2] 24
  (try rw [hW4])
  have lg := x0.lt
  replace hN := hN.below hb1 (Nat.le_refl _); replace hC := hC.below hb1 (Nat.le_refl _); replace x0 := x0.below hb1; replace hb := hb.trans (hb1.mono hb.size); clear hb1
  clear hW4 hs4
  generalize W3.heap.size = g at *
  have f0 := x3.cell 0 rfl; have f1 := x3.cell 1 rfl; have f2 := x3.cell 2 rfl
  go_wp2_with fail
  refine (Tell_bad _ _ _ _ _ _ _ _ hN hC hv).mono ?_
  rintro e1 W5 ⟨rfl, hb1⟩
  clear f0 f1 f2
  replace hN := hN.below hb1 (Nat.le_refl _); replace hC := hC.below hb1 (Nat.le_refl _); (try clear f0 f1 f2); replace x3 := x3.below hb1; have f0 := x3.cell 0 rfl; have f1 := x3.cell 1 rfl; have f2 := x3.cell 2 rfl; (try clear c0 c1 c2); replace x0 := x0.below hb1; have c0 := x0.cell 0 rfl; have c1 := x0.cell 1 rfl; have c2 := x0.cell 2 rfl; replace hb := hb.trans (hb1.mono hb.size); clear hb1
  go_wp2_with fail
  refine (same_any _ _ _ _ _ _ _ _ _ _ _ _ _ _ _ hN hC (hN0.below hb (Nat.le_refl _)) (hC0.below hb (Nat.le_refl _))).mono ?_
  rintro e1 W6 ⟨rfl, hb1⟩
  rw [(eq_iff3 r r N C N C).2 ⟨rfl, rfl, rfl⟩]
  clear f0 f1 f2
  (try clear c0 c1 c2); replace x0 := x0.below hb1; have c0 := x0.cell 0 rfl; have c1 := x0.cell 1 rfl; have c2 := x0.cell 2 rfl; replace hb := hb.trans (hb1.mono hb.size); clear hb1
  clear hN hC x3
  go_wp2_with fail
  refine (refCheck_any _ _ _ _ _ _ _ _ (hN0.below hb (Nat.le_refl _)) (hC0.below hb (Nat.le_refl _))).mono ?_
  rintro e1 W7 ⟨rfl, hb1⟩
  rw [hk]
  replace hb := hb.trans (hb1.mono hb.size)
  clear c0 c1 c2 x0 hb1
  go_wp2_with fail
  refine (works_any _).mono ?_
  rintro e9 V3 ⟨rfl, hb1⟩
  replace hb := hb.trans (hb1.mono hb.size)
  clear hb1
  go_wp2
  go_ret
  exact ⟨rfl, hb⟩

theorem len_none {R : Nat} {N C : List Int} {v : Int} (h : LenIs R N C v) (hn : ∀ i, i ≤ 4 → NoneL R N C i) : v = -1 := by
  rcases h with ⟨i, hi, _, ⟨l, hl, ht⟩, _⟩ | ⟨h, _⟩
  · exact absurd ht (hn i hi l hl)
  · exact h
theorem len_some {R : Nat} {N C : List Int} {v : Int} {n : Nat} {ks : List Int} (h : LenIs R N C v) (hn : n ≤ 4) (hk : ks ∈ levL C n) (ht : TellsB R N C ks) (hlo : ∀ i, i < n → NoneL R N C i) : v = n := by
  rcases h with ⟨i, hi, hv, ⟨l, hl, hl2⟩, hq⟩ | ⟨_, h⟩
  · rcases Nat.lt_trichotomy i n with h | h | h
    · exact absurd hl2 (hlo i h l hl)
    · rw [hv, h]
    · exact absurd ht (hq n h ks hk)
  · exact absurd ht (h n hn ks hk)

set_option maxRecDepth 100000 in
set_option maxHeartbeats 1000000 in
theorem tel_ok (R : Nat) (an ac : Option Addr) (cn cc : Nat) (N C : List Int) (w : World) (hN : Ints w an N) (hC : Ints w ac C) (hf : farB N C = false) (hv : Vw R N C) (hR : R ≤ 30) : Calls Try.prog 7 #[.agg #[.int .i64 (R : Int), .slice an N.length cn, .slice ac C.length cc]] w (WorksP w) := by
  have hk : chk (R : Int) N C = 0 := by simp [chk, hv.valid]
  have hRI : ¬ (30 : Int) < (R : Int) := by omega
  have hnl : N.length ≤ 40 ∧ C.length ≤ 40 := by
    simp only [farB, Bool.or_eq_false_iff, decide_eq_false_iff_not] at hf; omega
  have hN0 := hN; have hC0 := hC
  obtain ⟨W, hW, hb, hs, x0⟩ := boxes1 w #[.int .i64 (R : Int), .slice an N.length cn, .slice ac C.length cc] 24
  clear hs hN hC
  have c0 := x0.cell 0 rfl; have c1 := x0.cell 1 rfl; have c2 := x0.cell 2 rfl
  go_enter Try.func7, Try.ntmps7
  go_wp2_with fail
  refine (far_any _ _ _ _ _ _ _ _ (hN0.below hb (Nat.le_refl _)) (hC0.below hb (Nat.le_refl _))).mono ?_
  rintro e1 W1 ⟨rfl, hb1⟩
  rw [hf]
  clear hW
  (try clear c0 c1 c2); replace x0 := x0.below hb1; have c0 := x0.cell 0 rfl; have c1 := x0.cell 1 rfl; have c2 := x0.cell 2 rfl; replace hb := hb.trans (hb1.mono hb.size); clear hb1
  go_wp2_with fail
  refine (refCheck_any _ _ _ _ _ _ _ _ (hN0.below hb (Nat.le_refl _)) (hC0.below hb (Nat.le_refl _))).mono ?_
  rintro e1 W2 ⟨rfl, hb1⟩
  rw [hk]
  (try clear c0 c1 c2); replace x0 := x0.below hb1; have c0 := x0.cell 0 rfl; have c1 := x0.cell 1 rfl; have c2 := x0.cell 2 rfl; replace hb := hb.trans (hb1.mono hb.size); clear hb1
  go_wp2_with fail
  refine (copy_any _ _ _ _ _ _ _ _ (hN0.below hb (Nat.le_refl _)) (hC0.below hb (Nat.le_refl _)) hnl.1 hnl.2).mono ?_
  rintro e1 W3 ⟨hb1, a1, a2, e1, e2, rfl, hN, hC⟩
  replace x0 := x0.below hb1; replace hb := hb.trans (hb1.mono hb.size); clear hb1
  clear c0 c1 c2 hf
  go_upto_region 4 with fail
  obtain ⟨W4, hW4, hb1, hs4, x3⟩ := boxes1 W3 #[.int .i64 (R : Int), .slice a1 N.length e1, .slice a2 C.length e2] 24
  (try rw [hW4])
  have lg := x0.lt
  replace hN := hN.below hb1 (Nat.le_refl _); replace hC := hC.below hb1 (Nat.le_refl _); replace x0 := x0.below hb1; replace hb := hb.trans (hb1.mono hb.size); clear hb1
  clear hW4 hs4
  generalize W3.heap.size = g at *
  have f0 := x3.cell 0 rfl; have f1 := x3.cell 1 rfl; have f2 := x3.cell 2 rfl
  go_wp2_with fail
  refine (Tell_ex _ _ _ _ _ _ _ _ hN hC hv).mono ?_
  rintro e1 W5 ⟨hb1, v, b, rfl, hT⟩
  clear f0 f1 f2
  replace hN := hN.below hb1 (Nat.le_refl _); replace hC := hC.below hb1 (Nat.le_refl _); (try clear f0 f1 f2); replace x3 := x3.below hb1; have f0 := x3.cell 0 rfl; have f1 := x3.cell 1 rfl; have f2 := x3.cell 2 rfl; (try clear c0 c1 c2); replace x0 := x0.below hb1; have c0 := x0.cell 0 rfl; have c1 := x0.cell 1 rfl; have c2 := x0.cell 2 rfl; replace hb := hb.trans (hb1.mono hb.size); clear hb1
  rcases hT with ⟨rfl, a, c, ks, rfl, hI, hl4, hks, ht, hlo⟩ | ⟨rfl, rfl, hno⟩
  · obtain ⟨-, hka⟩ := lev_mem _ ks hks
    have hkB : kindsB C 0 ks = true := by
      unfold kindsB
      rw [Bool.and_eq_true, decide_eq_true_eq]
      exact ⟨hka, by omega⟩
    have htr := fun W h1 h2 h3 => tellsR_any R an ac cn cc N C a c ks W h1 h2 h3 hv hl4 hka true (by simp [ht])
    have hlen := fun v h => len_some (v := v) h hl4 hks ht hlo
    have HL := hid hlen
    obtain ⟨n, hn⟩ : ∃ n, n = ks.length := ⟨_, rfl⟩
    rw [← hn] at htr HL hl4 ⊢
    have hak := fun W h1 h2 => areKinds_any (R : Int) an ac cn cc N C a c ks 0 W h1 h2
    rw [hkB, ← hn] at hak
    have hl4I : ¬ (4 : Int) < (n : Int) := by omega
    clear hks ht hlo hka hkB hlen hn
    go_wp2_with fail
    refine (same_any _ _ _ _ _ _ _ _ _ _ _ _ _ _ _ hN hC (hN0.below hb (Nat.le_refl _)) (hC0.below hb (Nat.le_refl _))).mono ?_
    rintro e1 W6 ⟨rfl, hb1⟩
    rw [(eq_iff3 (R : Int) (R : Int) N C N C).2 ⟨rfl, rfl, rfl⟩]
    clear f0 f1 f2
    replace hI := hI.below hb1 (Nat.le_refl _); (try clear c0 c1 c2); replace x0 := x0.below hb1; have c0 := x0.cell 0 rfl; have c1 := x0.cell 1 rfl; have c2 := x0.cell 2 rfl; replace hb := hb.trans (hb1.mono hb.size); clear hb1
    clear hN hC x3
    go_wp2_with fail
    refine (refCheck_any _ _ _ _ _ _ _ _ (hN0.below hb (Nat.le_refl _)) (hC0.below hb (Nat.le_refl _))).mono ?_
    rintro e1 W7 ⟨rfl, hb1⟩
    rw [hk]
    replace hI := hI.below hb1 (Nat.le_refl _); (try clear c0 c1 c2); replace x0 := x0.below hb1; have c0 := x0.cell 0 rfl; have c1 := x0.cell 1 rfl; have c2 := x0.cell 2 rfl; replace hb := hb.trans (hb1.mono hb.size); clear hb1
    go_wp2_with fail
    refine (length_any _ _ _ _ _ _ _ _ (hN0.below hb (Nat.le_refl _)) (hC0.below hb (Nat.le_refl _)) hv).mono ?_
    rintro e1 W8 ⟨hb1, v, rfl, hv1⟩
    rw [HL.out v hv1]
    clear hv1
    replace hI := hI.below hb1 (Nat.le_refl _); (try clear c0 c1 c2); replace x0 := x0.below hb1; have c0 := x0.cell 0 rfl; have c1 := x0.cell 1 rfl; have c2 := x0.cell 2 rfl; replace hb := hb.trans (hb1.mono hb.size); clear hb1
    have hn0 : ¬ (n : Int) < 0 := by omega
    go_wp2_with fail
    refine (hak _ (hC0.below hb (Nat.le_refl _)) hI).mono ?_
    rintro e1 W9 ⟨rfl, hb1⟩
    replace hI := hI.below hb1 (Nat.le_refl _); (try clear c0 c1 c2); replace x0 := x0.below hb1; have c0 := x0.cell 0 rfl; have c1 := x0.cell 1 rfl; have c2 := x0.cell 2 rfl; replace hb := hb.trans (hb1.mono hb.size); clear hb1
    go_wp2_with fail
    refine (htr _ (hN0.below hb (Nat.le_refl _)) (hC0.below hb (Nat.le_refl _)) hI).mono ?_
    rintro e1 W10 ⟨rfl, hb1⟩
    replace hb := hb.trans (hb1.mono hb.size)
    clear c0 c1 c2 x0 hb1 hI htr hak
    go_wp2_with fail
    refine (works_any _).mono ?_
    rintro e9 V3 ⟨rfl, hb1⟩
    replace hb := hb.trans (hb1.mono hb.size)
    clear hb1
    go_wp2
    go_ret
    exact ⟨rfl, hb⟩
  · have hlen := fun v h => len_none (v := v) h hno
    have HL := hid hlen
    clear hlen hno
    go_wp2_with fail
    refine (same_any _ _ _ _ _ _ _ _ _ _ _ _ _ _ _ hN hC (hN0.below hb (Nat.le_refl _)) (hC0.below hb (Nat.le_refl _))).mono ?_
    rintro e1 W6 ⟨rfl, hb1⟩
    rw [(eq_iff3 (R : Int) (R : Int) N C N C).2 ⟨rfl, rfl, rfl⟩]
    clear f0 f1 f2
    (try clear c0 c1 c2); replace x0 := x0.below hb1; have c0 := x0.cell 0 rfl; have c1 := x0.cell 1 rfl; have c2 := x0.cell 2 rfl; replace hb := hb.trans (hb1.mono hb.size); clear hb1
    clear hN hC x3
    go_wp2_with fail
    refine (refCheck_any _ _ _ _ _ _ _ _ (hN0.below hb (Nat.le_refl _)) (hC0.below hb (Nat.le_refl _))).mono ?_
    rintro e1 W7 ⟨rfl, hb1⟩
    rw [hk]
    (try clear c0 c1 c2); replace x0 := x0.below hb1; have c0 := x0.cell 0 rfl; have c1 := x0.cell 1 rfl; have c2 := x0.cell 2 rfl; replace hb := hb.trans (hb1.mono hb.size); clear hb1
    go_wp2_with fail
    refine (length_any _ _ _ _ _ _ _ _ (hN0.below hb (Nat.le_refl _)) (hC0.below hb (Nat.le_refl _)) hv).mono ?_
    rintro e1 W8 ⟨hb1, v, rfl, hv1⟩
    rw [HL.out v hv1]
    replace hb := hb.trans (hb1.mono hb.size)
    clear c0 c1 c2 x0 hb1 hv1
    go_wp2_with fail
    refine (works_any _).mono ?_
    rintro e9 V3 ⟨rfl, hb1⟩
    replace hb := hb.trans (hb1.mono hb.size)
    clear hb1
    go_wp2
    go_ret
    exact ⟨rfl, hb⟩

theorem tel_any (r : Int) (an ac : Option Addr) (cn cc : Nat) (N C : List Int) (w : World) (hN : Ints w an N) (hC : Ints w ac C) : Calls Try.prog 7 #[.agg #[.int .i64 r, .slice an N.length cn, .slice ac C.length cc]] w (WorksP w) := by
  cases hf : farB N C
  · cases hv : validB r N C
    · exact tel_bad r an ac cn cc N C w hN hC hf hv
    · obtain ⟨R, rfl, hw⟩ := Vw.of_valid hv
      rcases Nat.lt_or_ge 30 R with h | h
      · exact tel_big R an ac cn cc N C w hN hC hf hw h
      · exact tel_ok R an ac cn cc N C w hN hC hf hw h
  · exact tel_far r an ac cn cc N C w hN hC hf
end Go.Proofs.Ytmkmnedojgigoaa
