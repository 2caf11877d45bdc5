/- CoinsSeen of the commit named in COMMIT returns true: for every wheel, place and list of kinds, in every world that holds them, and it leaves them as they were. No condition is added to the given statement. -/
import Derived.Test.YtmkmnedojgigoaaL3
import Derived.Test.YtmkmnedojgigoaaK4
namespace Go.Proofs.Ytmkmnedojgigoaa
open Go.RowKit

set_option maxRecDepth 100000 in
set_option maxHeartbeats 1000000 in
theorem seen_not (r : Int) (an ac : Option Addr) (cn cc : Nat) (N C : List Int) (p : Int) (a : Option Addr) (ca : Nat) (ks : List Int) (w : World) (hN : Ints w an N) (hC : Ints w ac C) (hw : isWhl r N C = false) :
    Calls Try.prog 14 #[.agg #[.int .i64 r, .slice an N.length cn, .slice ac C.length cc], .int .i64 p, .slice a ks.length ca] w (WorksP w) := by
  obtain ⟨W, hW, hb, hs, x0⟩ := boxes1 w #[.int .i64 r, .slice an N.length cn, .slice ac C.length cc] 24
  clear hs
  replace hN := hN.below hb (Nat.le_refl _); replace hC := hC.below hb (Nat.le_refl _)
  have c0 := x0.cell 0 rfl; have c1 := x0.cell 1 rfl; have c2 := x0.cell 2 rfl
  go_enter Try.func14, Try.ntmps14
  go_wp2_with fail
  refine (isWheel_any _ _ _ _ _ _ _ _ hN hC).mono ?_
  rintro e W1 ⟨rfl, hb1⟩
  rw [hw]
  replace hb := hb.trans (hb1.mono hb.size)
  clear hN hC x0 c0 c1 c2 hb1 hW
  go_wp2_with fail
  refine (works_any _).mono ?_
  rintro e W2 ⟨rfl, hb1⟩
  replace hb := hb.trans (hb1.mono hb.size)
  clear hb1
  go_wp2
  go_ret
  exact ⟨rfl, hb⟩

def argSeen (R : Nat) (C : List Int) (p : Int) (ks : List Int) : Bool := inR 0 p (R - 1) && (decide (ks.length ≤ 7) && kindsB C 0 ks)

set_option maxRecDepth 100000 in
set_option maxHeartbeats 1000000 in
theorem seen_arg (R : Nat) (an ac : Option Addr) (cn cc : Nat) (N C : List Int) (p : Int) (a : Option Addr) (ca : Nat) (ks : List Int) (w : World) (hN : Ints w an N) (hC : Ints w ac C) (hX : Ints w a ks) (hw : isWhl (R : Int) N C = true) (hv : Vw R N C) (ho : argSeen R C p ks = false) :
    Calls Try.prog 14 #[.agg #[.int .i64 (R : Int), .slice an N.length cn, .slice ac C.length cc], .int .i64 p, .slice a ks.length ca] w (WorksP w) := by
  have lx := hX.len
  obtain ⟨W, hW, hb, hs, x0⟩ := boxes1 w #[.int .i64 (R : Int), .slice an N.length cn, .slice ac C.length cc] 24
  clear hs
  replace hN := hN.below hb (Nat.le_refl _); replace hC := hC.below hb (Nat.le_refl _); replace hX := hX.below hb (Nat.le_refl _)
  have c0 := x0.cell 0 rfl; have c1 := x0.cell 1 rfl; have c2 := x0.cell 2 rfl
  cases hp : inR 0 p ((R : Int) - 1)
  · clear ho
    go_enter Try.func14, Try.ntmps14
    go_wp2_with fail
    refine (isWheel_any _ _ _ _ _ _ _ _ hN hC).mono ?_
    rintro e W1 ⟨rfl, hb1⟩
    rw [hw]
    clear hW
    (try clear c0 c1 c2); replace x0 := x0.below hb1; have c0 := x0.cell 0 rfl; have c1 := x0.cell 1 rfl; have c2 := x0.cell 2 rfl; replace hb := hb.trans (hb1.mono hb.size); clear hb1
    go_wp2_with fail
    refine (rIsPlace_any _ _ _ _ _ _ _ p _ hv).mono ?_
    rintro e W2 ⟨rfl, hb1⟩
    rw [hp]
    replace x0 := x0.below hb1; replace hb := hb.trans (hb1.mono hb.size); clear hb1
    go_wp2_with fail
    refine (works_any _).mono ?_
    rintro e W3 ⟨rfl, hb1⟩
    replace hb := hb.trans (hb1.mono hb.size)
    clear hb1 c0 c1 c2 x0
    go_wp2
    go_ret
    exact ⟨rfl, hb⟩
  · rw [argSeen, hp, Bool.true_and] at ho
    by_cases h1 : ks.length ≤ 7
    · have d1 : decide ((7 : Int) < (ks.length : Int)) = false := by simp; omega
      have h2 : kindsB C 0 ks = false := by simpa [h1] using ho
      clear ho
      go_enter Try.func14, Try.ntmps14
      go_wp2_with fail
      refine (isWheel_any _ _ _ _ _ _ _ _ hN hC).mono ?_
      rintro e W1 ⟨rfl, hb1⟩
      rw [hw]
      clear hW
      replace hC := hC.below hb1 (Nat.le_refl _); replace hX := hX.below hb1 (Nat.le_refl _); (try clear c0 c1 c2); replace x0 := x0.below hb1; have c0 := x0.cell 0 rfl; have c1 := x0.cell 1 rfl; have c2 := x0.cell 2 rfl; replace hb := hb.trans (hb1.mono hb.size); clear hb1
      go_wp2_with fail
      refine (rIsPlace_any _ _ _ _ _ _ _ p _ hv).mono ?_
      rintro e W2 ⟨rfl, hb1⟩
      rw [hp]
      replace hC := hC.below hb1 (Nat.le_refl _); replace hX := hX.below hb1 (Nat.le_refl _); (try clear c0 c1 c2); replace x0 := x0.below hb1; have c0 := x0.cell 0 rfl; have c1 := x0.cell 1 rfl; have c2 := x0.cell 2 rfl; replace hb := hb.trans (hb1.mono hb.size); clear hb1
      go_wp2_with fail
      refine (areKinds_any _ _ _ _ _ _ _ a ca ks 0 _ hC hX).mono ?_
      rintro e W2 ⟨rfl, hb1⟩
      rw [h2]
      replace x0 := x0.below hb1; replace hb := hb.trans (hb1.mono hb.size); clear hb1
      go_wp2_with fail
      refine (works_any _).mono ?_
      rintro e V3 ⟨rfl, hb1⟩
      replace hb := hb.trans (hb1.mono hb.size)
      clear hb1 x0 c0 c1 c2
      go_wp2
      go_ret
      exact ⟨rfl, hb⟩
    · have d1 : decide ((7 : Int) < (ks.length : Int)) = true := by simp; omega
      clear ho
      go_enter Try.func14, Try.ntmps14
      go_wp2_with fail
      refine (isWheel_any _ _ _ _ _ _ _ _ hN hC).mono ?_
      rintro e W1 ⟨rfl, hb1⟩
      rw [hw]
      clear hW
      (try clear c0 c1 c2); replace x0 := x0.below hb1; have c0 := x0.cell 0 rfl; have c1 := x0.cell 1 rfl; have c2 := x0.cell 2 rfl; replace hb := hb.trans (hb1.mono hb.size); clear hb1
      go_wp2_with fail
      refine (rIsPlace_any _ _ _ _ _ _ _ p _ hv).mono ?_
      rintro e W2 ⟨rfl, hb1⟩
      rw [hp]
      replace x0 := x0.below hb1; replace hb := hb.trans (hb1.mono hb.size); clear hb1
      go_wp2_with fail
      refine (works_any _).mono ?_
      rintro e V3 ⟨rfl, hb1⟩
      replace hb := hb.trans (hb1.mono hb.size)
      clear hb1 x0 c0 c1 c2
      go_wp2
      go_ret
      exact ⟨rfl, hb⟩

theorem seen_any (r : Int) (an ac : Option Addr) (cn cc : Nat) (N C : List Int) (p : Int) (a : Option Addr) (ca : Nat) (ks : List Int) (w : World) (hN : Ints w an N) (hC : Ints w ac C) (hX : Ints w a ks) :
    Calls Try.prog 14 #[.agg #[.int .i64 r, .slice an N.length cn, .slice ac C.length cc], .int .i64 p, .slice a ks.length ca] w (WorksP w) := by
  cases hw : isWhl r N C
  · exact seen_not _ _ _ _ _ _ _ p a ca ks w hN hC hw
  · obtain ⟨R, rfl, hv⟩ := isWhl_vw hw
    cases ho : argSeen R C p ks
    · exact seen_arg _ _ _ _ _ _ _ p a ca ks w hN hC hX hw hv ho
    · simp only [argSeen, Bool.and_eq_true, decide_eq_true_eq, inR_iff] at ho
      obtain ⟨q, rfl⟩ := Int.eq_ofNat_of_zero_le ho.1.1
      exact seen_ok R _ _ _ _ _ _ q a ca ks w hN hC hX hw hv (by omega) ho.2.1 ho.2.2

open Go.ChangeShapes Go.WideShapes Go.ChangeAt Go.Joins
set_option maxRecDepth 100000 in
set_option maxHeartbeats 2000000 in
theorem seen_lifted (os : Os) (started : os.Started) (H : Type) (enc : TypeId × Value → H) :
    ReturnsInHanded {} Try.checked os 14 .any (Rows.coinsSeenSpec.pre6 enc Try.prog Try.f14 Rows.coinsSeenRow.domain false) (Rows.coinsSeenSpec.post enc Try.prog Try.f14 false true false false) := by
  refine returnsInHanded_of_change (C := Try.checked) jown started (by kernel_rfl) Try.func14
    (ChangeSpec.witness6 (enc := enc) (C := Try.checked) false ⟨#[], #[.agg #[.int .i64 0, .slice none 0 0, .slice none 0 0], .int .i64 0, .slice none 0 0], []⟩ 8 (by kernel_rfl) (by kernel_rfl) (by kernel_rfl) (by kernel_rfl)) ?_
  intro W base args ds gs before hval0 hW hcnd _
  have hval : ∀ (j : Nat) t v, Try.f14.params[j]? = some t → args[j]? = some v → Value.okWide Try.prog W .any base t v := hval0
  have hW' := hW
  obtain ⟨p, q, hA0, hV, rfl, hfz, hnd⟩ := hW
  have hA : DataW.TrodAll enc Try.prog W 0 (fun _ => true) true Try.f14.params.toList args.toList ds p := hA0
  rw [Try.params14] at hA hval
  obtain ⟨v0, v1, v2, d0, d1, d2, p0, p1, p2, rfl, rfl, rfl, h0, h1, h2⟩ := trodAll_three hA
  obtain ⟨rfl, rfl⟩ := trodVars_none hV
  obtain ⟨r, an, ac, cn, cc, N, C, rfl, hN, hC⟩ := wheel_open (hval 0 24 v0 rfl rfl) h0
  obtain ⟨a, rfl, rfl, rfl, wa⟩ := open_int Try.underlying3 (hval 1 3 v1 rfl rfl) h1
  obtain ⟨b, cb, ys, rfl, hY⟩ := ints_arg (hval 2 22 v2 rfl rfl) h2
  clear hA0 hval0
  simp only [List.append_nil] at hW'
  have hlt : ∀ x ∈ p0 ++ p2, x.block < W.heap.size := fun x hx => by simpa using hW'.lt x (by simpa using hx)
  have ht0 : ∀ (W' : World), Below W.heap.size W W' → DataW.Trod enc Try.prog W' 0 (fun b => decide (b < W.heap.size)) true 24 _ _ _ :=
    fun W' hn => Below.trod jlaid (by kernel_rfl) (of_decide_eq_true (by kernel_rfl)) h0 hn (fun x hx => hlt x (by simp [hx]))
  have ht2 : ∀ (W' : World), Below W.heap.size W W' → DataW.Trod enc Try.prog W' 0 (fun b => decide (b < W.heap.size)) true 22 _ _ _ :=
    fun W' hn => Below.trod jlaid (by kernel_rfl) (of_decide_eq_true (by kernel_rfl)) h2 hn (fun x hx => hlt x (by simp [hx]))
  refine (seen_any r an ac cn cc N C a b cb ys W hN hC hY).mono fun e W' ⟨he, hb⟩ => ?_
  subst he
  exact ⟨_, rfl, ⟨_, _, _, [], _, [], hW', trodAll_mk1 (shut_bool Try.underlying4 true), trodAll_mk3 (ht0 _ hb) (shut_int Try.underlying3 wa) (ht2 _ hb), rfl, hb.frame _, fun h => by cases h⟩⟩

theorem seen_holds : Rows.CoinsSeenSaid :=
  OpenClaim.holds_of_wide 14 Try.f14 rfl rfl rfl rfl rfl rfl rfl ⟨rfl, rfl, rfl, rfl, rfl⟩ rfl rfl rfl rfl rfl (by kernel_rfl) Try.func14 (by kernel_rfl)
    (of_decide_eq_true (by kernel_rfl)) (by unfold Func.isWrapper; rw [if_neg (by decide +kernel)]; exact ⟨rfl, rfl⟩)
    (fun os started H enc _ => seen_lifted os started H enc)
end Go.Proofs.Ytmkmnedojgigoaa
