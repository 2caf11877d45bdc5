/- CoinsCheapest of the commit named in COMMIT returns true: for every wheel and number of plays, in every world that holds them, and it leaves them as they were. No condition is added to the given statement. -/
import Derived.Test.YtmkmnedojgigoaaU3
import Derived.Test.YtmkmnedojgigoaaM1
import Derived.Test.YtmkmnedojgigoaaK4
namespace Go.Proofs.Ytmkmnedojgigoaa
open Go.RowKit

/-- What Cheapest answers. -/
def chpA (r : Int) (N C : List Int) (m : Int) : Int × Int :=
  if validB r N C then (if inR 1 m 20 then (if N = [] ∨ C = [] then (0, 3) else (chp r.toNat N C m.toNat, 0)) else (0, 1)) else (0, 10)
theorem pCheap_any (r : Int) (an ac : Option Addr) (cn cc : Nat) (N C : List Int) (m : Int) (w : World) (hN : Ints w an N) (hC : Ints w ac C) :
    Calls Try.prog 37 #[.agg #[.int .i64 r, .slice an N.length cn, .slice ac C.length cc], .int .i64 m] w fun e w' => e = .returned (.tuple #[.int .i64 (chpA r N C m).1, .int .i64 (chpA r N C m).2]) ∧ Below w.heap.size w w' := by
  cases hv : validB r N C
  · rw [chpA, hv]; exact Cheapest_bad r an ac cn cc N C m w hN hC hv
  · obtain ⟨R, rfl, hw⟩ := Vw.of_valid hv
    rw [chpA, hv, if_pos rfl, Int.toNat_natCast]
    cases hm : inR 1 m 20
    · exact Cheapest_arg R an ac cn cc N C m w hN hC hw hm
    · have hm' := inR_iff.1 hm
      obtain ⟨n, rfl⟩ := Int.eq_ofNat_of_zero_le (show 0 ≤ m by omega)
      rw [if_pos rfl, Int.toNat_natCast]
      by_cases hz : N = [] ∨ C = []
      · rw [if_pos hz]; exact Cheapest_none R an ac cn cc N C n w hN hC hw (by omega) (by omega) hz
      · rw [if_neg hz]; exact Cheapest_ok R an ac cn cc N C n w hN hC hw (by omega) (by omega) (fun h => hz (.inl h)) (fun h => hz (.inr h))
theorem rCheap_any (r : Int) (an ac : Option Addr) (cn cc : Nat) (N C : List Int) (m : Int) (w : World) (hN : Ints w an N) (hC : Ints w ac C) :
    Calls Try.prog 38 #[.agg #[.int .i64 r, .slice an N.length cn, .slice ac C.length cc], .int .i64 m] w fun e w' => e = .returned (.tuple #[.int .i64 (chpA r N C m).1, .int .i64 (chpA r N C m).2]) ∧ Below w.heap.size w w' := by
  cases hv : validB r N C
  · rw [chpA, hv]; exact rcheap_bad r an ac cn cc N C m w hN hC hv
  · obtain ⟨R, rfl, hw⟩ := Vw.of_valid hv
    rw [chpA, hv, if_pos rfl, Int.toNat_natCast]
    cases hm : inR 1 m 20
    · exact rcheap_arg R an ac cn cc N C m w hN hC hw hm
    · have hm' := inR_iff.1 hm
      obtain ⟨n, rfl⟩ := Int.eq_ofNat_of_zero_le (show 0 ≤ m by omega)
      rw [if_pos rfl, Int.toNat_natCast]
      by_cases hz : N = [] ∨ C = []
      · rw [if_pos hz]; exact rcheap_none R an ac cn cc N C n w hN hC hw (by omega) (by omega) hz
      · rw [if_neg hz]; exact rcheap_ok R an ac cn cc N C n w hN hC hw (by omega) (by omega) (fun h => hz (.inl h)) (fun h => hz (.inr h))

set_option maxRecDepth 100000 in
set_option maxHeartbeats 1000000 in
theorem cch_far (r : Int) (an ac : Option Addr) (cn cc : Nat) (N C : List Int) (m : Int) (w : World) (hN : Ints w an N) (hC : Ints w ac C) (hf : farB N C = true) :
    Calls Try.prog 5 #[.agg #[.int .i64 r, .slice an N.length cn, .slice ac C.length cc], .int .i64 m] w (WorksP w) := by
  obtain ⟨W, hW, hb, hs, x0⟩ := boxes1 w #[.int .i64 r, .slice an N.length cn, .slice ac C.length cc] 24
  clear hs
  have hN0 := hN; have hC0 := hC
  clear hN hC
  have c0 := x0.cell 0 rfl; have c1 := x0.cell 1 rfl; have c2 := x0.cell 2 rfl
  go_enter Try.func5, Try.ntmps5
  go_wp2_with fail
  refine (far_any _ _ _ _ _ _ _ _ (hN0.below hb (Nat.le_refl _)) (hC0.below hb (Nat.le_refl _))).mono ?_
  rintro e W1 ⟨rfl, hb1⟩
  rw [hf]
  replace hb := hb.trans (hb1.mono hb.size)
  clear hW hb1 x0 c0 c1 c2
  go_wp2_with fail
  refine (works_any _).mono ?_
  rintro e V3 ⟨rfl, hb1⟩
  replace hb := hb.trans (hb1.mono hb.size)
  clear hb1
  go_wp2
  go_ret
  exact ⟨rfl, hb⟩

set_option maxRecDepth 100000 in
set_option maxHeartbeats 1000000 in
theorem cch_few (r : Int) (an ac : Option Addr) (cn cc : Nat) (N C : List Int) (m : Int) (w : World) (hN : Ints w an N) (hC : Ints w ac C) (hf : farB N C = false) :
    Calls Try.prog 5 #[.agg #[.int .i64 r, .slice an N.length cn, .slice ac C.length cc], .int .i64 m] w (WorksP w) := by
  have hnl : N.length ≤ 40 ∧ C.length ≤ 40 := by
    simp only [farB, Bool.or_eq_false_iff, decide_eq_false_iff_not] at hf; omega
  have hN0 := hN; have hC0 := hC
  obtain ⟨A, hA⟩ : ∃ t, t = (chpA r N C m).1 := ⟨_, rfl⟩
  obtain ⟨B, hB⟩ : ∃ t, t = (chpA r N C m).2 := ⟨_, rfl⟩
  have cu : ∀ (an' ac' : Option Addr) (cn' cc' : Nat) (W : World), Ints W an' N → Ints W ac' C → Calls Try.prog 37 #[.agg #[.int .i64 r, .slice an' N.length cn', .slice ac' C.length cc'], .int .i64 m] W fun e w' => e = .returned (.tuple #[.int .i64 A, .int .i64 B]) ∧ Below W.heap.size W w' := fun an' ac' cn' cc' W h1 h2 => by
    rw [hA, hB]; exact pCheap_any r an' ac' cn' cc' N C m W h1 h2
  have cr : ∀ W : World, Ints W an N → Ints W ac C → Calls Try.prog 38 #[.agg #[.int .i64 r, .slice an N.length cn, .slice ac C.length cc], .int .i64 m] W fun e w' => e = .returned (.tuple #[.int .i64 A, .int .i64 B]) ∧ Below W.heap.size W w' := fun W h1 h2 => by
    rw [hA, hB]; exact rCheap_any r an ac cn cc N C m W h1 h2
  clear hA hB
  obtain ⟨W, hW, hb, hs, x0⟩ := boxes1 w #[.int .i64 r, .slice an N.length cn, .slice ac C.length cc] 24
  clear hs hN hC
  have c0 := x0.cell 0 rfl; have c1 := x0.cell 1 rfl; have c2 := x0.cell 2 rfl
  go_enter Try.func5, Try.ntmps5
  go_wp2_with fail
  refine (far_any _ _ _ _ _ _ _ _ (hN0.below hb (Nat.le_refl _)) (hC0.below hb (Nat.le_refl _))).mono ?_
  rintro e W1 ⟨rfl, hb1⟩
  rw [hf]
  clear hW
  (try clear c0 c1 c2); replace x0 := x0.below hb1; have c0 := x0.cell 0 rfl; have c1 := x0.cell 1 rfl; have c2 := x0.cell 2 rfl; replace hb := hb.trans (hb1.mono hb.size); clear hb1
  go_wp2_with fail
  refine (copy_any _ _ _ _ _ _ _ _ (hN0.below hb (Nat.le_refl _)) (hC0.below hb (Nat.le_refl _)) hnl.1 hnl.2).mono ?_
  rintro e W2 ⟨hb1, a1, a2, e1, e2, rfl, hN, hC⟩
  replace x0 := x0.below hb1; replace hb := hb.trans (hb1.mono hb.size); clear hb1
  clear c0 c1 c2 hf
  go_wp2_with fail
  obtain ⟨W4, hW4, hb1, hs4, x7⟩ := boxes1 W2 #[.int .i64 r, .slice a1 N.length e1, .slice a2 C.length e2] 24
  rw [hW4]
  replace hN := hN.below hb1 (Nat.le_refl _); replace hC := hC.below hb1 (Nat.le_refl _); replace x0 := x0.below hb1; replace hb := hb.trans (hb1.mono hb.size); clear hb1
  clear hW4 hs4
  generalize W2.heap.size = g at *
  refine (cu _ _ _ _ _ hN hC).mono ?_
  rintro e W5 ⟨rfl, hb1⟩
  replace hN := hN.below hb1 (Nat.le_refl _); replace hC := hC.below hb1 (Nat.le_refl _); replace x7 := x7.below hb1; (try clear c0 c1 c2); replace x0 := x0.below hb1; have c0 := x0.cell 0 rfl; have c1 := x0.cell 1 rfl; have c2 := x0.cell 2 rfl; replace hb := hb.trans (hb1.mono hb.size); clear hb1
  go_wp2_with fail
  refine (cr _ (hN0.below hb (Nat.le_refl _)) (hC0.below hb (Nat.le_refl _))).mono ?_
  rintro e W6 ⟨rfl, hb1⟩
  replace hN := hN.below hb1 (Nat.le_refl _); replace hC := hC.below hb1 (Nat.le_refl _); (try clear d0 d1 d2); replace x7 := x7.below hb1; have d0 := x7.cell 0 rfl; have d1 := x7.cell 1 rfl; have d2 := x7.cell 2 rfl; (try clear c0 c1 c2); replace x0 := x0.below hb1; have c0 := x0.cell 0 rfl; have c1 := x0.cell 1 rfl; have c2 := x0.cell 2 rfl; replace hb := hb.trans (hb1.mono hb.size); clear hb1
  clear cu cr
  go_wp2_with fail
  refine (same_any _ _ _ _ _ _ _ _ _ _ _ _ _ _ _ hN hC (hN0.below hb (Nat.le_refl _)) (hC0.below hb (Nat.le_refl _))).mono ?_
  rintro e W7 ⟨rfl, hb1⟩
  rw [(eq_iff3 r r N C N C).2 ⟨rfl, rfl, rfl⟩]
  replace hb := hb.trans (hb1.mono hb.size)
  clear hb1 x0 x7 c0 c1 c2 d0 d1 d2 hN hC
  go_wp2_with fail
  refine (works_any _).mono ?_
  rintro e V3 ⟨rfl, hb1⟩
  replace hb := hb.trans (hb1.mono hb.size)
  clear hb1
  go_wp2
  go_ret
  exact ⟨rfl, hb⟩
theorem cch_any (r : Int) (an ac : Option Addr) (cn cc : Nat) (N C : List Int) (m : Int) (w : World) (hN : Ints w an N) (hC : Ints w ac C) :
    Calls Try.prog 5 #[.agg #[.int .i64 r, .slice an N.length cn, .slice ac C.length cc], .int .i64 m] w (WorksP w) := by
  cases hf : farB N C
  · exact cch_few r an ac cn cc N C m w hN hC hf
  · exact cch_far r an ac cn cc N C m w hN hC hf
end Go.Proofs.Ytmkmnedojgigoaa
namespace Go.Proofs.Ytmkmnedojgigoaa
open Go.ChangeShapes Go.WideShapes Go.ChangeAt Go.RowKit Go.Joins

set_option maxRecDepth 100000 in
set_option maxHeartbeats 2000000 in
theorem cch_lifted (os : Os) (started : os.Started) (H : Type) (enc : TypeId × Value → H) :
    ReturnsInHanded {} Try.checked os 5 .any (Rows.coinsCheapestSpec.pre6 enc Try.prog Try.f5 Rows.coinsCheapestRow.domain false) (Rows.coinsCheapestSpec.post enc Try.prog Try.f5 false true false false) := by
  refine returnsInHanded_of_change (C := Try.checked) jown started (by kernel_rfl) Try.func5
    (ChangeSpec.witness6 (enc := enc) (C := Try.checked) false ⟨#[], #[.agg #[.int .i64 0, .slice none 0 0, .slice none 0 0], .int .i64 0], []⟩ 8 (by kernel_rfl) (by kernel_rfl) (by kernel_rfl) (by kernel_rfl)) ?_
  intro W base args ds gs before hval0 hW hcnd _
  have hval : ∀ (j : Nat) t v, Try.f5.params[j]? = some t → args[j]? = some v → Value.okWide Try.prog W .any base t v := hval0
  have hW' := hW
  obtain ⟨p, q, hA0, hV, rfl, hfz, hnd⟩ := hW
  have hA : DataW.TrodAll enc Try.prog W 0 (fun _ => true) true Try.f5.params.toList args.toList ds p := hA0
  rw [Try.params5] at hA hval
  obtain ⟨v0, v1, d0, d1, p0, p1, rfl, rfl, rfl, h0, h1⟩ := trodAll_two hA
  obtain ⟨rfl, rfl⟩ := trodVars_none hV
  obtain ⟨r, an, ac, cn, cc, N, C, rfl, hN, hC⟩ := wheel_open (hval 0 24 v0 rfl rfl) h0
  obtain ⟨a, rfl, rfl, rfl, wa⟩ := open_int Try.underlying3 (hval 1 3 v1 rfl rfl) h1
  clear hA0 hval0
  simp only [List.append_nil] at hW'
  have hlt : ∀ x ∈ p0, x.block < W.heap.size := fun x hx => by simpa using hW'.lt x (by simpa using hx)
  have ht0 : ∀ (W' : World), Below W.heap.size W W' → DataW.Trod enc Try.prog W' 0 (fun b => decide (b < W.heap.size)) true 24 _ _ _ :=
    fun W' hn => Below.trod jlaid (by kernel_rfl) (of_decide_eq_true (by kernel_rfl)) h0 hn (fun x hx => hlt x hx)
  refine (cch_any r an ac cn cc N C a W hN hC).mono fun e W' ⟨he, hb⟩ => ?_
  subst he
  exact ⟨_, rfl, ⟨_, _, _, [], _, [], hW', trodAll_mk1 (shut_bool Try.underlying4 true), trodAll_mk2 (ht0 _ hb) (shut_int Try.underlying3 wa), rfl, hb.frame _, fun h => by cases h⟩⟩

theorem cch_holds : Rows.CoinsCheapestSaid :=
  OpenClaim.holds_of_wide 5 Try.f5 rfl rfl rfl rfl rfl rfl rfl ⟨rfl, rfl, rfl, rfl, rfl⟩ rfl rfl rfl rfl rfl (by kernel_rfl) Try.func5 (by kernel_rfl)
    (of_decide_eq_true (by kernel_rfl)) (by unfold Func.isWrapper; rw [if_neg (by decide +kernel)]; exact ⟨rfl, rfl⟩)
    (fun os started H enc _ => cch_lifted os started H enc)
end Go.Proofs.Ytmkmnedojgigoaa
