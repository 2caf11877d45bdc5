/- SharesLater (P9.13): for any contract and two rows of takings, the statement answers true and leaves all as it was. No conditions. -/
import Derived.Test.YthgjjlkdekfdbaaWK
import Derived.SizedLaws
namespace Go.Proofs.Ythgjjlkdekfdbaa
set_option linter.unusedSimpArgs false
set_option linter.unusedVariables false
open Go.ChangeShapes Go.WideShapes Go.ChangeAt Go.RowKit Go.Joins

theorem bytes3 : Try.prog.bytesOf 3 = 8 := by kernel_rfl
/-- A slice of numbers that came in is no longer than the reach lets it be. -/
theorem ints_size41 {H : Type} {enc : TypeId × Value → H} {W : World} {v : Value} {d : DataW H} {p : List MemPlace} {ts : List TypeId} {ds : List (DataW H)} {j : Nat}
    (h : DataW.Trod enc Try.prog W 0 (fun _ => true) true 41 v d p) (hz : (DataW.weightsEach Try.prog ts ds).all (· ≤ reachBytes) = true) (ht : ts[j]? = some 41) (hd : ds[j]? = some d) :
    ∀ (a : Option Addr) (n c : Nat), v = .slice a n c → n ≤ 4611686018427387903 := by
  intro a n c e
  subst e
  obtain ⟨fu, h0⟩ := h
  have h : DataW.trod enc Try.prog W 0 (fun _ => true) true fu 41 [.slice a n c] = some (d, p) := h0
  rcases open_ints Try.underlying41 Try.underlying3 jcells3 h with ⟨hcs, _⟩ | ⟨a', len, cap, zs, hcs, _, hl, hm, hlen, hx, _⟩
  · simp at hcs
    omega
  · simp at hcs
    have e1 : d = .slice (lits .i64 (zs.take len)) (lits .i64 (zs.drop len)) := congrArg Prod.fst hx
    have := sized_slice hz ht (by rw [hd, e1]) Try.underlying41
    rw [bytes3] at this
    have hr : reachBytes < 2 ^ 47 := reachBytes_lt
    have hq : ∀ l : List Int, (lits (H := H) .i64 l).length = l.length := fun l => by simp [lits]
    rw [hq, hq, List.length_take, List.length_drop] at this
    simp only [if_true] at hlen
    omega

set_option maxRecDepth 100000 in
set_option maxHeartbeats 2000000 in
theorem sharesLater_lifted (os : Os) (started : os.Started) (H : Type) (enc : TypeId × Value → H) :
    ReturnsInHanded {} Try.checked os 9 .any (Rows.sharesLaterSpec.pre6 enc Try.prog Try.f9 Rows.sharesLaterRow.domain false) (Rows.sharesLaterSpec.post enc Try.prog Try.f9 false true false false) := by
  refine returnsInHanded_of_change_sized (C := Try.checked) jown started (by kernel_rfl) Try.func9
    (ChangeSpec.witness6 (enc := enc) (C := Try.checked) false ⟨#[], #[.agg #[.slice none 0 0, .int .i64 0], .slice none 0 0, .slice none 0 0], []⟩ 8 (by kernel_rfl) (by kernel_rfl) (by kernel_rfl) (by kernel_rfl)) ?_
  intro W base args ds gs before hval0 hW hcnd hsz _
  have hval : ∀ (j : Nat) t v, Try.f9.params[j]? = some t → args[j]? = some v → Value.okWide Try.prog W .any base t v := hval0
  have hW' := hW
  obtain ⟨p, q, hA0, hV, rfl, hfz, hnd⟩ := hW
  have hA : DataW.TrodAll enc Try.prog W 0 (fun _ => true) true Try.f9.params.toList args.toList ds p := hA0
  rw [Try.params9] at hA hval
  obtain ⟨v0, v1, v2, d0, d1, d2, p0, p1, p2, rfl, rfl, rfl, h0, h1, h2⟩ := trodAll_three hA
  obtain ⟨rfl, rfl⟩ := trodVars_none hV
  obtain ⟨ac0, cc0, cs0, L0, rfl, hS0⟩ := share_open (hval 0 24 v0 rfl rfl) h0
  obtain ⟨b1, c1, xs1, rfl, hI1⟩ := ints_open41 (hval 1 41 v1 rfl rfl) h1
  obtain ⟨b2, c2, xs2, rfl, hI2⟩ := ints_open41 (hval 2 41 v2 rfl rfl) h2
  clear hA0 hval0
  simp only [List.append_nil] at hW'
  have hlt : ∀ x ∈ p0 ++ p1 ++ p2, x.block < W.heap.size := fun x hx => by simpa using hW'.lt x (by simpa using hx)
  have ht0 : ∀ (W' : World), Below W.heap.size W W' → DataW.Trod enc Try.prog W' 0 (fun b => decide (b < W.heap.size)) true 24 _ _ _ :=
    fun W' hn => Below.trod jlaid (by kernel_rfl) (of_decide_eq_true (by kernel_rfl)) h0 hn (fun x hx => hlt x (by simp [hx]))
  have ht1 : ∀ (W' : World), Below W.heap.size W W' → DataW.Trod enc Try.prog W' 0 (fun b => decide (b < W.heap.size)) true 41 _ _ _ :=
    fun W' hn => Below.trod jlaid (by kernel_rfl) (of_decide_eq_true (by kernel_rfl)) h1 hn (fun x hx => hlt x (by simp [hx]))
  have ht2 : ∀ (W' : World), Below W.heap.size W W' → DataW.Trod enc Try.prog W' 0 (fun b => decide (b < W.heap.size)) true 41 _ _ _ :=
    fun W' hn => Below.trod jlaid (by kernel_rfl) (of_decide_eq_true (by kernel_rfl)) h2 hn (fun x hx => hlt x (by simp [hx]))
  refine (sharesLater_any ac0 cc0 cs0 L0 b1 c1 xs1 b2 c2 xs2 W hS0 hI1 hI2 (ints_size41 h1 hsz (j := 1) (by kernel_rfl) rfl _ _ _ rfl) (ints_size41 h2 hsz (j := 2) (by kernel_rfl) rfl _ _ _ rfl)).mono fun e W' ⟨he, hb⟩ => ?_
  subst he
  exact ⟨_, rfl, ⟨_, _, _, [], _, [], hW', trodAll_mk1 (shut_bool Try.underlying4 true), trodAll_mk3 (ht0 _ hb) (ht1 _ hb) (ht2 _ hb), rfl, hb.frame _, fun h => by cases h⟩⟩

theorem sharesLater_holds : Rows.SharesLaterSaid :=
  OpenClaim.holds_of_wide 9 Try.f9 rfl rfl rfl rfl rfl rfl rfl ⟨rfl, rfl, rfl, rfl, rfl⟩ rfl rfl rfl rfl rfl (by kernel_rfl) Try.func9 (by kernel_rfl)
    (of_decide_eq_true (by kernel_rfl)) (by unfold Func.isWrapper; rw [if_neg (by decide +kernel)]; exact ⟨rfl, rfl⟩)
    (fun os started H enc _ => sharesLater_lifted os started H enc)
end Go.Proofs.Ythgjjlkdekfdbaa
