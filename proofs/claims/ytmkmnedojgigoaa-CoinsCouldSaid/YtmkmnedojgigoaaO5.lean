/- CoinsCould of the commit named in COMMIT returns true: for every wheel and list of coins that were seen, in every world that holds them, and it leaves them as they were. No condition is added to the given statement. -/
import Derived.Test.YtmkmnedojgigoaaO4
import Derived.Test.YtmkmnedojgigoaaK4
import Derived.Deep.SlicePairs
namespace Go.Proofs.Ytmkmnedojgigoaa
open Go.ChangeShapes Go.WideShapes Go.ChangeAt Go.RowKit Go.Joins

theorem jcells50 : Try.prog.cellsOf 50 = 2 := by kernel_rfl
set_option maxRecDepth 100000 in
/-- A slice of pairs that came in, as an argument. -/
theorem prs_arg {H : Type} {enc : TypeId × Value → H} {W : World} {b0 : Nat} {v : Value} {d : DataW H} {p : List MemPlace} (hv : Value.okWide Try.prog W .any b0 47 v)
    (h : DataW.Trod enc Try.prog W 0 (fun _ => true) true 47 v d p) : ∃ (a : Option Addr) (c : Nat) (xs : List (Int × Int)), v = .slice a xs.length c ∧ xs.length ≤ 9223372036854775807 ∧ (xs.length ≤ 1000 → Prs W a xs) := by
  obtain ⟨a, n, c, rfl⟩ := okWide_slice Try.underlying47 hv
  obtain ⟨_, h⟩ := h
  rcases Go.Deep.open_slice_pairs (cs := [.slice a n c]) Try.underlying47 Try.underlying50 jcells50 rfl rfl jcells3 jcells3 h with ⟨hcs, _⟩ | ⟨ad, len, cap, m, n', V0, V1, D0, D1, P0, P1, hcs, _, hl, hm, hmm, _, hi⟩
  · simp at hcs
    obtain ⟨rfl, rfl, rfl⟩ := hcs
    exact ⟨none, 0, [], rfl, by simp, fun _ => ⟨by simp, by simp, fun i hi => by simp at hi⟩⟩
  · simp at hcs
    obtain ⟨rfl, rfl, rfl⟩ := hcs
    simp only [if_true] at hmm
    subst hmm
    have each : ∀ i, i < m → ∃ x y : Int, V0 i = .int .i64 x ∧ V1 i = .int .i64 y ∧ (Lit.int .i64 x).wf = true ∧ (Lit.int .i64 y).wf = true := fun i h => by
      obtain ⟨_, _, h2, h3⟩ := hi i h
      obtain ⟨x, e0, _, wx⟩ := DataW.trod_int Try.underlying3 h2
      obtain ⟨y, e1, _, wy⟩ := DataW.trod_int Try.underlying3 h3
      simp at e0 e1
      exact ⟨x, y, e0, e1, wx, wy⟩
    let f : Nat → Int × Int := fun i => (intOf (V0 i), intOf (V1 i))
    have hlen : ((List.range n).map f).length = n := by simp
    unfold maxLen at hm
    refine ⟨some ad, m, (List.range n).map f, by rw [hlen], by rw [hlen]; omega, fun _ => ⟨by rw [hlen] at *; omega, fun x hx => ?_, fun i hi' => ?_⟩⟩
    · obtain ⟨i, hi', rfl⟩ := List.mem_map.1 hx
      obtain ⟨x, y, e0, e1, wx, wy⟩ := each i (by have := List.mem_range.1 hi'; omega)
      have h1 : IntKind.i64.min = -9223372036854775808 := rfl
      have h2 : IntKind.i64.max = 9223372036854775807 := rfl
      simp only [Lit.wf, Bool.and_eq_true, decide_eq_true_eq, h1, h2] at wx wy
      show _ ≤ intOf (V0 i) ∧ intOf (V0 i) ≤ _ ∧ _ ≤ intOf (V1 i) ∧ intOf (V1 i) ≤ _
      rw [e0, e1]
      simp only [intOf]
      omega
    · rw [hlen] at hi'
      obtain ⟨x, y, e0, e1, wx, wy⟩ := each i (by omega)
      obtain ⟨h0, h1, _⟩ := hi i (by omega)
      obtain ⟨b, off, spot⟩ := ad
      have hspot : spot = none := by
        have := World.cell?_spot (hi 0 (by omega)).1
        simpa [Addr.add] using this
      subst hspot
      rw [add_plain] at h0 h1
      have hlt := cell_lt h0
      refine ⟨b, off, rfl, hlt, ?_, ?_⟩
      · rw [h0]
        simp [List.getD, hi', f, e0, intOf]
      · rw [Nat.add_assoc, h1]
        simp [List.getD, hi', f, e1, intOf]

set_option maxRecDepth 100000 in
set_option maxHeartbeats 2000000 in
theorem ccould_lifted (os : Os) (started : os.Started) (H : Type) (enc : TypeId × Value → H) :
    ReturnsInHanded {} Try.checked os 6 .any (Rows.coinsCouldSpec.pre6 enc Try.prog Try.f6 Rows.coinsCouldRow.domain false) (Rows.coinsCouldSpec.post enc Try.prog Try.f6 false true false false) := by
  refine returnsInHanded_of_change (C := Try.checked) jown started (by kernel_rfl) Try.func6
    (ChangeSpec.witness6 (enc := enc) (C := Try.checked) false ⟨#[], #[.agg #[.int .i64 0, .slice none 0 0, .slice none 0 0], .slice none 0 0], []⟩ 8 (by kernel_rfl) (by kernel_rfl) (by kernel_rfl) (by kernel_rfl)) ?_
  intro W base args ds gs before hval0 hW hcnd _
  have hval : ∀ (j : Nat) t v, Try.f6.params[j]? = some t → args[j]? = some v → Value.okWide Try.prog W .any base t v := hval0
  have hW' := hW
  obtain ⟨p, q, hA0, hV, rfl, hfz, hnd⟩ := hW
  have hA : DataW.TrodAll enc Try.prog W 0 (fun _ => true) true Try.f6.params.toList args.toList ds p := hA0
  rw [Try.params6] at hA hval
  obtain ⟨v0, v1, d0, d1, p0, p1, rfl, rfl, rfl, h0, h1⟩ := trodAll_two hA
  obtain ⟨rfl, rfl⟩ := trodVars_none hV
  obtain ⟨r, an, ac, cn, cc, N, C, rfl, hN, hC⟩ := wheel_open (hval 0 24 v0 rfl rfl) h0
  obtain ⟨b, cb, ys, rfl, hl, hY⟩ := prs_arg (hval 1 47 v1 rfl rfl) h1
  clear hA0 hval0
  simp only [List.append_nil] at hW'
  have hlt : ∀ x ∈ p0 ++ p1, x.block < W.heap.size := fun x hx => by simpa using hW'.lt x (by simpa using hx)
  have ht0 : ∀ (W' : World), Below W.heap.size W W' → DataW.Trod enc Try.prog W' 0 (fun b => decide (b < W.heap.size)) true 24 _ _ _ :=
    fun W' hn => Below.trod jlaid (by kernel_rfl) (of_decide_eq_true (by kernel_rfl)) h0 hn (fun x hx => hlt x (by simp [hx]))
  have ht1 : ∀ (W' : World), Below W.heap.size W W' → DataW.Trod enc Try.prog W' 0 (fun b => decide (b < W.heap.size)) true 47 _ _ _ :=
    fun W' hn => Below.trod jlaid (by kernel_rfl) (of_decide_eq_true (by kernel_rfl)) h1 hn (fun x hx => hlt x (by simp [hx]))
  refine (ccould_any r an ac cn cc N C b cb ys W hN hC hl hY).mono fun e W' ⟨he, hb⟩ => ?_
  subst he
  exact ⟨_, rfl, ⟨_, _, _, [], _, [], hW', trodAll_mk1 (shut_bool Try.underlying4 true), trodAll_mk2 (ht0 _ hb) (ht1 _ hb), rfl, hb.frame _, fun h => by cases h⟩⟩

theorem ccould_holds : Rows.CoinsCouldSaid :=
  OpenClaim.holds_of_wide 6 Try.f6 rfl rfl rfl rfl rfl rfl rfl ⟨rfl, rfl, rfl, rfl, rfl⟩ rfl rfl rfl rfl rfl (by kernel_rfl) Try.func6 (by kernel_rfl)
    (of_decide_eq_true (by kernel_rfl)) (by unfold Func.isWrapper; rw [if_neg (by decide +kernel)]; exact ⟨rfl, rfl⟩)
    (fun os started H enc _ => ccould_lifted os started H enc)
end Go.Proofs.Ytmkmnedojgigoaa
