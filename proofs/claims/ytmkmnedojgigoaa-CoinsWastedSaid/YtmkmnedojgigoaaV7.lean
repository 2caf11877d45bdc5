/- CoinsWasted of the commit named in COMMIT returns true: for every wheel, every purse and every part, in every world that holds them, and it leaves them as they were. No condition is added to the given statement. -/
import Derived.Test.YtmkmnedojgigoaaV6
namespace Go.Proofs.Ytmkmnedojgigoaa
open Go.RowKit

theorem ws_any (r : Int) (an ac : Option Addr) (cn cc : Nat) (N C : List Int) (p s : Option Addr) (cp cs : Nat) (xs ys : List Int) (w : World) (hN : Ints w an N) (hC : Ints w ac C) (hX : Ints w p xs) (hY : Ints w s ys) :
    Calls Try.prog 12 #[.agg #[.int .i64 r, .slice an N.length cn, .slice ac C.length cc], .slice p xs.length cp, .slice s ys.length cs] w (WorksP w) := by
  cases hw : isWhl r N C
  · exact ws_arg0 r an ac cn cc N C p s cp cs xs ys w hN hC hX hY hw
  obtain ⟨R, rfl, hv⟩ := isWhl_vw hw
  by_cases h5 : 40 < (xs.length : Int)
  · exact ws_arg1 R an ac cn cc N C p s cp cs xs ys w hN hC hX hY hw h5
  by_cases h4 : 40 < (ys.length : Int)
  · exact ws_arg2 R an ac cn cc N C p s cp cs xs ys w hN hC hX hY hw h5 h4
  cases ho : okP C xs
  · exact ws_arg3 R an ac cn cc N C p s cp cs xs ys w hN hC hX hY hw h5 h4 ho
  cases h6 : decide (6 < xs.sum)
  rotate_left
  · exact ws_arg4 R an ac cn cc N C p s cp cs xs ys w hN hC hX hY hw hv h5 h4 ho h6
  cases hy : okP C ys
  · exact ws_arg5 R an ac cn cc N C p s cp cs xs ys w hN hC hX hY hw hv h5 h4 ho h6 hy
  by_cases hsub : ∀ j, j < ys.length → ys.getD j 0 ≤ xs.getD j 0
  · refine ws_ok R an ac cn cc N C p s cp cs xs ys w hN hC hX hY hw hv h5 h4 ho h6 hy hsub fun k => ?_
    by_cases hk : k < ys.length
    · have := hsub k hk
      unfold bgN
      omega
    · have e1 : ys.getD k 0 = 0 := by simp [List.getD, List.getElem?_eq_none (Nat.le_of_not_lt hk)]
      unfold bgN
      rw [e1]
      exact Nat.zero_le _
  · exact ws_arg6 R an ac cn cc N C p s cp cs xs ys w hN hC hX hY hw hv h5 h4 ho h6 hy hsub
end Go.Proofs.Ytmkmnedojgigoaa
namespace Go.Proofs.Ytmkmnedojgigoaa
open Go.ChangeShapes Go.WideShapes Go.ChangeAt Go.RowKit Go.Joins

set_option maxRecDepth 100000 in
set_option maxHeartbeats 2000000 in
theorem ws_lifted (os : Os) (started : os.Started) (H : Type) (enc : TypeId × Value → H) :
    ReturnsInHanded {} Try.checked os 12 .any (Rows.coinsWastedSpec.pre6 enc Try.prog Try.f12 Rows.coinsWastedRow.domain false) (Rows.coinsWastedSpec.post enc Try.prog Try.f12 false true false false) := by
  refine returnsInHanded_of_change (C := Try.checked) jown started (by kernel_rfl) Try.func12
    (ChangeSpec.witness6 (enc := enc) (C := Try.checked) false ⟨#[], #[.agg #[.int .i64 0, .slice none 0 0, .slice none 0 0], .slice none 0 0, .slice none 0 0], []⟩ 8 (by kernel_rfl) (by kernel_rfl) (by kernel_rfl) (by kernel_rfl)) ?_
  intro W base args ds gs before hval0 hW hcnd _
  have hval : ∀ (j : Nat) t v, Try.f12.params[j]? = some t → args[j]? = some v → Value.okWide Try.prog W .any base t v := hval0
  have hW' := hW
  obtain ⟨p, q, hA0, hV, rfl, hfz, hnd⟩ := hW
  have hA : DataW.TrodAll enc Try.prog W 0 (fun _ => true) true Try.f12.params.toList args.toList ds p := hA0
  rw [Try.params12] at hA hval
  obtain ⟨v0, v1, v2, d0, d1, d2, p0, p1, p2, rfl, rfl, rfl, h0, h1, h2⟩ := trodAll_three hA
  obtain ⟨rfl, rfl⟩ := trodVars_none hV
  obtain ⟨r, an, ac, cn, cc, N, C, rfl, hN, hC⟩ := wheel_open (hval 0 24 v0 rfl rfl) h0
  obtain ⟨b, cb, xs, rfl, hX⟩ := ints_arg (hval 1 22 v1 rfl rfl) h1
  obtain ⟨d, cd, ys, rfl, hY⟩ := ints_arg (hval 2 22 v2 rfl rfl) h2
  clear hA0 hval0
  simp only [List.append_nil] at hW'
  have hlt : ∀ x ∈ p0 ++ p1 ++ p2, x.block < W.heap.size := fun x hx => by simpa using hW'.lt x (by simpa using hx)
  have ht0 : ∀ (W' : World), Below W.heap.size W W' → DataW.Trod enc Try.prog W' 0 (fun b => decide (b < W.heap.size)) true 24 _ _ _ :=
    fun W' hn => Below.trod jlaid (by kernel_rfl) (of_decide_eq_true (by kernel_rfl)) h0 hn (fun x hx => hlt x (by simp [hx]))
  have ht1 : ∀ (W' : World), Below W.heap.size W W' → DataW.Trod enc Try.prog W' 0 (fun b => decide (b < W.heap.size)) true 22 _ _ _ :=
    fun W' hn => Below.trod jlaid (by kernel_rfl) (of_decide_eq_true (by kernel_rfl)) h1 hn (fun x hx => hlt x (by simp [hx]))
  have ht2 : ∀ (W' : World), Below W.heap.size W W' → DataW.Trod enc Try.prog W' 0 (fun b => decide (b < W.heap.size)) true 22 _ _ _ :=
    fun W' hn => Below.trod jlaid (by kernel_rfl) (of_decide_eq_true (by kernel_rfl)) h2 hn (fun x hx => hlt x (by simp [hx]))
  refine (ws_any r an ac cn cc N C b d cb cd xs ys W hN hC hX hY).mono fun e W' ⟨he, hb⟩ => ?_
  subst he
  exact ⟨_, rfl, ⟨_, _, _, [], _, [], hW', trodAll_mk1 (shut_bool Try.underlying4 true), trodAll_mk3 (ht0 _ hb) (ht1 _ hb) (ht2 _ hb), rfl, hb.frame _, fun h => by cases h⟩⟩

theorem ws_holds : Rows.CoinsWastedSaid :=
  OpenClaim.holds_of_wide 12 Try.f12 rfl rfl rfl rfl rfl rfl rfl ⟨rfl, rfl, rfl, rfl, rfl⟩ rfl rfl rfl rfl rfl (by kernel_rfl) Try.func12 (by kernel_rfl)
    (of_decide_eq_true (by kernel_rfl)) (by unfold Func.isWrapper; rw [if_neg (by decide +kernel)]; exact ⟨rfl, rfl⟩)
    (fun os started H enc _ => ws_lifted os started H enc)
end Go.Proofs.Ytmkmnedojgigoaa
