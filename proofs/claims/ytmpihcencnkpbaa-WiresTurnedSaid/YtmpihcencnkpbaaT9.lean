import Derived.Test.YtmpihcencnkpbaaT8
import Derived.Test.YtmpihcencnkpbaaR4
import Derived.Test.YtmpihcencnkpbaaS2
import Derived.Sort.MapsRangeIn
import Derived.Shelf.Sort.Plain
import Derived.Shelf.Slices.In.SortNone
import Derived.Sort.OwnSortedInts
/-! The keys of a map, sorted. -/
namespace Go.Proofs.Ytmpihcencnkpbaa
set_option linter.unusedSimpArgs false
set_option linter.unusedVariables false
open Go Go.RowKit

theorem nodup_le : ∀ (l Q : List Int), l.Nodup → (∀ x ∈ l, x ∈ Q) → l.length ≤ Q.length
  | [], _, _, _ => by simp
  | x :: l, Q, h, hs => by
    rw [List.nodup_cons] at h
    have hx := hs x List.mem_cons_self
    have := nodup_le l (Q.erase x) h.2 (fun y hy => (List.mem_erase_of_ne (fun e => h.1 (by rw [← e]; exact hy))).2 (hs y (List.mem_cons_of_mem _ hy)))
    rw [List.length_erase_of_mem hx] at this
    have hp := List.length_pos_of_mem hx
    rw [List.length_cons]; omega
theorem ranges_heap {H : Type} {P : Program} {k : TypeId} {R : Value → Option (DataW H × List MemPlace)} {w w' : World} {b r n : Nat} {D : DataW H} {left : Lit → Bool} {cnt : Nat} (h : w.ranges P k R b r n D left cnt) (hb : w'.heap[b]? = w.heap[b]?) (hr : w'.heap[r]? = w.heap[r]?) : w'.ranges P k R b r n D left cnt := by
  obtain ⟨es, clock, since, seen, c0, h1, h2, h3, h4, h5, h6⟩ := h
  exact ⟨es, clock, since, seen, c0, hb.trans h1, h2, h3, h4, hr.trans h5, h6⟩
/-- A number that may come next, and what has come in the end. -/
def Nx (Q : List Int) (pre : List Int) (x : Int) : Prop := x ∈ Q ∧ x ∉ pre ∧ pre.Nodup ∧ ∀ y ∈ pre, y ∈ Q
def Fn (Q : List Int) (xs : List Int) : Prop := xs.Nodup ∧ ∀ x, x ∈ xs ↔ x ∈ Q

set_option maxRecDepth 100000 in
set_option maxHeartbeats 2000000 in
theorem keys_itr (c mb n : Nat) (Q : List Int) (D : DataW Unit) (n0 B : Nat) (w : World) (hB : w.heap.size + 2 = B) (xc : Bx w c #[.map (some mb)] 78) (hown : w.ownsMap Try.prog 3 (plainElem Try.prog 3) mb n D) (hD : CntI D Q) (hmb : mb < n0) (hn0 : n0 ≤ w.heap.size) :
    ItrE Try.prog 94 #[] #[.pointer (some ⟨c, 0, none⟩)] (fun x : Int => #[.int .i64 x]) (Nx Q) (Fn Q) (fun W W' => W.grownBy W' (some B)) n0 B w := by
  intro l J W hW hs hJ hY h0
  replace xc := xc.below hW
  replace hown := hown.kept (Below.gr' hW) (by simp)
  have c0 := xc.cell 0 rfl
  refine callsIn_wide (n := 0).1 (callsIn_of_wp Try.func94 rfl trivial ?_ rfl)
  simp only [Try.ntmps94, List.size_toArray, List.length_cons, List.length_nil, Nat.reduceAdd, Nat.reduceSub, Array.replicate_succ, Array.replicate_zero, List.push_toArray, List.append_toArray, List.nil_append, List.cons_append, List.append_nil]
  gi_wp2_with (gi_at_range; refine wpListIn_range_own _ rfl _ 78 rfl 3 3 law3 under78 _ mb n D rfl hown ?_; intro w0 hrg0 hg0 hs0)
  (try go_frame)
  have hJ0 := hJ _ _ _ h0 (hg0.but (some B))
  rw [hs] at hrg0
  have hmx : mb ≠ B := by omega
  clear hg0 hs0 c0 xc hown h0
  gi_loopw [3] (fun v3 wr => ∃ (left : Lit → Bool) (cnt : Nat) (pre : List Int), wr.ranges Try.prog 3 (plainElem Try.prog 3) mb B n D left cnt ∧ J pre wr ∧ Hid ((∀ x, left (.int .i64 x) = true ↔ x ∈ Q ∧ x ∉ pre) ∧ pre.Nodup ∧ ∀ y ∈ pre, y ∈ Q)) (fun _ wr => wr.rangeLeft mb B)
  case atStart =>
    refine ⟨_, _, [], hrg0, hJ0, hid ⟨fun x => ⟨fun h => ?_, fun h => hD.mem x h.1⟩, List.nodup_nil, fun y hy => by simp at hy⟩⟩
    obtain ⟨y, hy, e⟩ := hD.hs _ h
    cases e
    exact ⟨hy, by simp⟩
  case round =>
    clear hrg0 hJ0
    obtain ⟨left, cnt, pre, hrg, hJ1, hlf⟩ := hrel
    gi_wp2_with (gi_at_next; refine wpListIn_next_ranges _ rfl _ rfl 3 law3 (plainElem Try.prog 3) (Value.int .i64) (Value.int .i64) (fun key kl hk => by obtain ⟨x, hx, _⟩ := Maps.keyOf_int_inv Try.underlying3 hk; exact ⟨x, hx⟩) (fun v y hv => by obtain ⟨c, rfl, _⟩ := plainElem_int_inv Try.underlying3 hv; exact ⟨c, rfl⟩) mb B n _ _ _ rfl hrg ?_ ?_)
    · intro _ hl0
      have hfn : Fn Q pre := ⟨hlf.out.2.1, fun x => ⟨fun h => hlf.out.2.2 x h, fun h => by
        by_cases hx : x ∈ pre
        · exact hx
        · have := (hlf.out.1 x).2 ⟨h, hx⟩
          rw [hl0] at this; cases this⟩⟩
      have HR := hid (And.intro hfn hJ1)
      clear hfn hJ1 hl0 hlf hrg hY hJ
      gi_wp2
      go_end0
      exact ⟨⟨_, rfl⟩, pre, HR.out.1, HR.out.2⟩
    · intro x c kl y ps w1 cnt1 hkey hlx hv hat hrg1 hlt hg1 hs1 hen
      obtain ⟨x', ex, rfl, hwx⟩ := Maps.keyOf_int_inv Try.underlying3 hkey
      cases ex
      have hxq := (hlf.out.1 x).1 hlx
      have hJ2 := hJ _ _ _ hJ1 hg1
      have hrB := hrg1.lt
      obtain ⟨fn, tmps, assign, body, hy, hR⟩ := hY pre x ⟨hxq.1, hxq.2, hlf.out.2.1, hlf.out.2.2⟩ w1 hrB hJ2
      have HLF := hid (show (∀ z, ((fun z : Lit => left z && !z.sameKey (.int .i64 x)) (.int .i64 z)) = true ↔ z ∈ Q ∧ z ∉ pre ++ [x]) ∧ (pre ++ [x]).Nodup ∧ ∀ y ∈ pre ++ [x], y ∈ Q from by
        refine ⟨fun z => ?_, ?_, fun y hy => ?_⟩
        · simp only [Bool.and_eq_true, hlf.out.1, List.mem_append, List.mem_singleton, not_or]
          constructor
          · rintro ⟨⟨h1, h2⟩, h3⟩
            refine ⟨h1, h2, fun e => ?_⟩
            subst e
            rw [WideAt.sameKey_self (show WideAt.IsKeyLit (.int .i64 z) from trivial)] at h3; cases h3
          · rintro ⟨h1, h2, h3⟩
            refine ⟨⟨h1, h2⟩, ?_⟩
            rw [Go.Maps.sameKey_ne (litne h3)]; rfl
        · rw [List.nodup_append]
          exact ⟨hlf.out.2.1, by simp, fun a ha b hb e => hxq.2 (by simp at hb; rw [← hb, ← e]; exact ha)⟩
        · rcases List.mem_append.1 hy with h | h
          · exact hlf.out.2.2 y h
          · simp at h; rw [h]; exact hxq.1)
      have HM := hid (And.intro hrg1 (And.intro hrg hlt))
      have HBl := hid hrB
      clear hrg1 hrg hlt hg1 hs1 hJ1 hJ2 hlf hxq hlx hat hv hkey hrB
      gi_wp2_with (refine ⟨rfl, hR.mono ?_⟩; clear hR; rintro e W2 ⟨rfl, hJ3, hk1, hk2⟩)
      have HK := hid (And.intro hJ3 (And.intro (hk1.block mb hmb) (hk2 HBl.out)))
      clear hJ3 hk1 hk2
      gi_wp2
      go_roundw
      case rel =>
        obtain ⟨hJ3, k1, k2⟩ := HK.out
        exact ⟨_, cnt1, pre ++ [x], ranges_heap HM.out.1 k1 k2, hJ3, HLF⟩
      case measure =>
        obtain ⟨hJ3, k1, k2⟩ := HK.out
        rw [(ranges_heap HM.out.1 k1 k2).left_eq, HM.out.2.1.left_eq]; exact HM.out.2.2
end Go.Proofs.Ytmpihcencnkpbaa
