/- CoinsSum of the commit named in COMMIT returns true: for every wheel and two lists of kinds, in every world that holds them, and it leaves them as they were. No condition is added to the given statement. -/
import Derived.Test.YtmkmnedojgigoaaK3
import Derived.Test.YtmkmnedojgigoaaJ1
namespace Go.Proofs.Ytmkmnedojgigoaa
open Go.ChangeShapes Go.WideShapes Go.ChangeAt Go.RowKit Go.Joins

set_option maxRecDepth 100000 in
/-- A slice of ints that came in, as an argument. -/
theorem ints_arg {H : Type} {enc : TypeId × Value → H} {W : World} {b0 : Nat} {v : Value} {d : DataW H} {p : List MemPlace} (hv : Value.okWide Try.prog W .any b0 22 v)
    (h : DataW.Trod enc Try.prog W 0 (fun _ => true) true 22 v d p) : ∃ a c xs, v = .slice a xs.length c ∧ Ints W a xs := by
  obtain ⟨a, n, c, rfl⟩ := okWide_slice Try.underlying22 hv
  obtain ⟨_, h⟩ := h
  exact ints_open (v := .slice a n c) (y := (d, p)) h
set_option maxRecDepth 100000 in
/-- A wheel that came in. -/
theorem wheel_open {H : Type} {enc : TypeId × Value → H} {W : World} {b0 : Nat} {v : Value} {d : DataW H} {p : List MemPlace} (hv : Value.okWide Try.prog W .any b0 24 v)
    (h : DataW.Trod enc Try.prog W 0 (fun _ => true) true 24 v d p) : ∃ r an ac cn cc N C, v = .agg #[.int .i64 r, .slice an N.length cn, .slice ac C.length cc] ∧ Ints W an N ∧ Ints W ac C := by
  obtain ⟨c0, c1, c2, y0, y1, y2, m, rfl, rfl, rfl, hy0, hy1, hy2⟩ := open_agg3 Try.underlying24 (by kernel_rfl) jcells24 hv h
  obtain ⟨r, e0, rfl, _⟩ := DataW.trod_int Try.underlying3 hy0
  simp at e0
  subst e0
  obtain ⟨an, cn, N, rfl, hN⟩ := ints_open hy1
  obtain ⟨ac, cc, C, rfl, hC⟩ := ints_open hy2
  exact ⟨r, an, ac, cn, cc, N, C, rfl, hN, hC⟩

set_option maxRecDepth 100000 in
set_option maxHeartbeats 2000000 in
theorem sum_lifted (os : Os) (started : os.Started) (H : Type) (enc : TypeId × Value → H) :
    ReturnsInHanded {} Try.checked os 8 .any (Rows.coinsSumSpec.pre6 enc Try.prog Try.f8 Rows.coinsSumRow.domain false) (Rows.coinsSumSpec.post enc Try.prog Try.f8 false true false false) := by
  refine returnsInHanded_of_change (C := Try.checked) jown started (by kernel_rfl) Try.func8
    (ChangeSpec.witness6 (enc := enc) (C := Try.checked) false ⟨#[], #[.agg #[.int .i64 0, .slice none 0 0, .slice none 0 0], .slice none 0 0, .slice none 0 0], []⟩ 8 (by kernel_rfl) (by kernel_rfl) (by kernel_rfl) (by kernel_rfl)) ?_
  intro W base args ds gs before hval0 hW hcnd _
  have hval : ∀ (j : Nat) t v, Try.f8.params[j]? = some t → args[j]? = some v → Value.okWide Try.prog W .any base t v := hval0
  have hW' := hW
  obtain ⟨p, q, hA0, hV, rfl, hfz, hnd⟩ := hW
  have hA : DataW.TrodAll enc Try.prog W 0 (fun _ => true) true Try.f8.params.toList args.toList ds p := hA0
  rw [Try.params8] at hA hval
  obtain ⟨v0, v1, v2, d0, d1, d2, p0, p1, p2, rfl, rfl, rfl, h0, h1, h2⟩ := trodAll_three hA
  obtain ⟨rfl, rfl⟩ := trodVars_none hV
  obtain ⟨r, an, ac, cn, cc, N, C, rfl, hN, hC⟩ := wheel_open (hval 0 24 v0 rfl rfl) h0
  obtain ⟨a, ca, xs, rfl, hX⟩ := ints_arg (hval 1 22 v1 rfl rfl) h1
  obtain ⟨b, cb, ys, rfl, hY⟩ := ints_arg (hval 2 22 v2 rfl rfl) h2
  clear hA0 hval0
  simp only [List.append_nil] at hW'
  have hlt : ∀ x ∈ p0 ++ p1 ++ p2, x.block < W.heap.size := fun x hx => by simpa using hW'.lt x (by simpa using hx)
  have ht0 : ∀ (W' : World), Below W.heap.size W W' → DataW.Trod enc Try.prog W' 0 (fun b => decide (b < W.heap.size)) true 24 _ _ _ :=
    fun W' hn => Below.trod jlaid (by kernel_rfl) (of_decide_eq_true (by kernel_rfl)) h0 hn (fun x hx => hlt x (by simp [hx]))
  have ht1 : ∀ (W' : World), Below W.heap.size W W' → DataW.Trod enc Try.prog W' 0 (fun b => decide (b < W.heap.size)) true 22 _ _ _ :=
    fun W' hn => Below.trod jlaid (by kernel_rfl) (of_decide_eq_true (by kernel_rfl)) h1 hn (fun x hx => hlt x (by simp [hx]))
  have ht2 : ∀ (W' : World), Below W.heap.size W W' → DataW.Trod enc Try.prog W' 0 (fun b => decide (b < W.heap.size)) true 22 _ _ _ :=
    fun W' hn => Below.trod jlaid (by kernel_rfl) (of_decide_eq_true (by kernel_rfl)) h2 hn (fun x hx => hlt x (by simp [hx]))
  refine (sum_any r an ac cn cc N C a b ca cb xs ys W hN hC hX hY).mono fun e W' ⟨he, hb⟩ => ?_
  subst he
  exact ⟨_, rfl, ⟨_, _, _, [], _, [], hW', trodAll_mk1 (shut_bool Try.underlying4 true), trodAll_mk3 (ht0 _ hb) (ht1 _ hb) (ht2 _ hb), rfl, hb.frame _, fun h => by cases h⟩⟩

theorem sum_holds : Rows.CoinsSumSaid :=
  OpenClaim.holds_of_wide 8 Try.f8 rfl rfl rfl rfl rfl rfl rfl ⟨rfl, rfl, rfl, rfl, rfl⟩ rfl rfl rfl rfl rfl (by kernel_rfl) Try.func8 (by kernel_rfl)
    (of_decide_eq_true (by kernel_rfl)) (by unfold Func.isWrapper; rw [if_neg (by decide +kernel)]; exact ⟨rfl, rfl⟩)
    (fun os started H enc _ => sum_lifted os started H enc)
end Go.Proofs.Ytmkmnedojgigoaa
