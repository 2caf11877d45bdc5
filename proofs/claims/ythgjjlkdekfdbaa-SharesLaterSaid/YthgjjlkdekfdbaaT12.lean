import Derived.Test.YthgjjlkdekfdbaaT11
import Derived.ArgAppend
import Derived.RangeFuncBound
import Derived.Shelf.Abstract
import Derived.Shelf.RegionOpen
import Derived.OwnWalkIn
import Derived.TacticsInMore
import Derived.LoopNIn
import Derived.LoopIn
/-! All orders, yielded one by one. -/
namespace Go.Proofs.Ythgjjlkdekfdbaa
set_option linter.unusedSimpArgs false
set_option linter.unusedVariables false
open Go Go.RowKit

attribute [local go_sem] Oper.semAt_some

theorem info_parts {t : TypeId} {z : Value} {n b : Nat} (h : (Try.prog.info? t).map (fun i => (i.zero, i.size, i.bytes)) = some (some z, n, b)) : ∃ i, Try.prog.info? t = some i ∧ i.zero = some z ∧ i.size = n ∧ i.bytes = b := by
  rcases hi : Try.prog.info? t with _ | i
  · rw [hi] at h; cases h
  rw [hi] at h
  simp only [Option.map_some, Option.some.injEq, Prod.mk.injEq] at h
  exact ⟨i, rfl, h.1, h.2.1, h.2.2⟩
theorem info3i : (Try.prog.info? 3).map (fun i => (i.zero, i.size, i.bytes)) = some (some (.int .i64 0), 1, 8) := by kernel_rfl
theorem under41 : Try.prog.underlying 41 = some (.slice 3) := by kernel_rfl
/-- A slice of numbers in memory at or beyond B, with room of its own. -/
structure Nw (B : Nat) (a : Option Addr) (n c : Nat) : Prop where
  le : n ≤ c
  mx : c ≤ 9223372036854775807
  no : a = none → c = 0
  at_ : ∀ ad, a = some ad → B ≤ ad.block
/-- What is handed over: an order, in memory at or beyond B. -/
def EO (B : Nat) (x : List Int) (vs : Array Value) (W : World) : Prop := ∃ a c, vs = #[.slice a x.length c] ∧ Ints W a x ∧ Nw B a x.length c
theorem grow_step {W2 : World} {base : Nat} {v : Value} {f : List Int} {k : Int} (h : W2.ownsRow base 3 1 v (f.length + 1) (f.map (Value.int .i64) ++ [.int .i64 k])) (hl : f.length ≤ 10) (hf : ∀ x ∈ f, 0 ≤ x ∧ x ≤ 12) (hk : 0 ≤ k ∧ k ≤ 12) :
    ∃ (a2 : Option Addr) (c2 : Nat), v = .slice a2 (f ++ [k]).length c2 ∧ Ints W2 a2 (f ++ [k]) ∧ Nw base a2 (f ++ [k]).length c2 := by
  have hln : (f ++ [k]).length = f.length + 1 := by rw [List.length_append]; rfl
  have h2 : W2.ownsRow base 3 1 v (f ++ [k]).length ((f ++ [k]).map (Value.int .i64)) := by rw [hln]; simpa using h
  have hrng : ∀ x ∈ f ++ [k], -9223372036854775808 ≤ x ∧ x ≤ 9223372036854775807 := fun x hx => by
    rcases List.mem_append.1 hx with h | h
    · have := hf x h; omega
    · rw [List.mem_singleton.1 h]; omega
  obtain ⟨a2, c2, rfl, hi2⟩ := Ints.of_own h2 (by omega) hrng
  refine ⟨a2, c2, rfl, hi2, ?_⟩
  rcases h2.2 with ⟨_, h0⟩ | ⟨g, cap, cur, e, hb, hg, hc1, hc2, _⟩
  · omega
  · simp only [Value.slice.injEq, true_and] at e
    obtain ⟨rfl, rfl⟩ := e
    unfold maxLen at hc2
    exact ⟨hc1, by omega, (fun e => by cases e), (fun ad e => by cases e; exact hb)⟩

set_option maxRecDepth 100000 in
set_option maxHeartbeats 4000000 in
theorem goOn_zero (n : Nat) (h5 : n ≤ 5) (l n0 B : Nat) (hB : n0 ≤ B) (XS : List (List Int)) (J : List (List Int) → World → Prop)
    (hY : ∀ pre x vs, (∃ rest, XS = pre ++ x :: rest) → ∀ W1, J pre W1 → EO B x vs W1 → YieldAt Fence.wide 0 Try.prog l vs W1 fun e W' => e = .returned (.bool true) ∧ J (pre ++ [x]) W' ∧ Kept n0 B W1 W')
    (f : List Int) (a : Option Addr) (c : Nat) (pre post : List (List Int)) (W : World) (hl : f.length = n) (hF : Ints W a f) (hN : Nw B a f.length c) (hX : XS = pre ++ [f] ++ post) (hj : J pre W) :
    Calls Try.prog 80 #[.slice a f.length c, .int .i64 (n : Int), .func (.yield l) #[] #[]] W fun e W' => e = .returned (.bool true) ∧ J (pre ++ [f]) W' ∧ Kept n0 B W W' := by
  obtain ⟨fn, tmps, assign, body, hy, hR2⟩ := hY pre f #[.slice a f.length c] ⟨post, by rw [hX]; simp⟩ W hj ⟨a, c, rfl, hF, hN⟩
  have hE : ((f.length : Int) == (n : Int)) = true := by simp [hl]
  obtain ⟨m, hm⟩ : ∃ m, m = f.length := ⟨_, rfl⟩
  rw [← hm] at hE hy ⊢
  clear hY hX hF hN hl hm
  refine callsIn_wide (n := 0).1 (callsIn_of_wp Try.func80 rfl trivial ?_ rfl)
  simp only [Try.ntmps80, List.size_toArray, List.length_cons, List.length_nil, Nat.reduceAdd, Nat.reduceSub, Array.replicate_succ, Array.replicate_zero, List.push_toArray, List.append_toArray, List.nil_append, List.cons_append, List.append_nil]
  gi_wp2_with (refine ⟨rfl, hR2.mono ?_⟩; clear hR2; rintro e W3 ⟨rfl, hj3, hk3⟩)
  gi_wp2
  go_ret
  exact ⟨rfl, hj3, hk3⟩

set_option maxRecDepth 100000 in
set_option maxHeartbeats 6000000 in
theorem goOn_rec (n : Nat) (h5 : n ≤ 5) (l n0 B : Nat) (hB : n0 ≤ B) (XS : List (List Int)) (J : List (List Int) → World → Prop) (hJ : ∀ pre W1 W2, J pre W1 → Below W1.heap.size W1 W2 → J pre W2)
    (hY : ∀ pre x vs, (∃ rest, XS = pre ++ x :: rest) → ∀ W1, J pre W1 → EO B x vs W1 → YieldAt Fence.wide 0 Try.prog l vs W1 fun e W' => e = .returned (.bool true) ∧ J (pre ++ [x]) W' ∧ Kept n0 B W1 W') : ∀ (r : Nat) (f : List Int) (a : Option Addr) (c : Nat) (pre post : List (List Int)) (W : World), f.length + r = n → (∀ x ∈ f, 0 ≤ x ∧ x ≤ 12) → Ints W a f → Nw B a f.length c → XS = pre ++ ordsR n r f ++ post → J pre W → B ≤ W.heap.size →
    Calls Try.prog 80 #[.slice a f.length c, .int .i64 (n : Int), .func (.yield l) #[] #[]] W fun e W' => e = .returned (.bool true) ∧ J (pre ++ ordsR n r f) W' ∧ Kept n0 B W W' := by
  obtain ⟨j0, hj0, jz0, jz1, jz2⟩ := info_parts info3i
  intro r
  induction r with
  | zero =>
    intro f a c pre post W hl hfr hF hN hX hj hBW
    exact goOn_zero n h5 l n0 B hB XS J hY f a c pre post W (by omega) hF hN hX hj
  | succ r ih =>
    intro f a c pre post W hl hfr hF hN hX hj hBW
    have hE : ((f.length : Int) == (n : Int)) = false := by simp; omega
    have hf5 : f.length ≤ 4 := by omega
    have hspl := fun k (hk : k < n) => ordsN_split n r f hk
    have hall := ordsN_all n r f
    have hnI : (n : Int) ≤ 5 := by omega
    have hl2 : f.length + 1 + r = n := by omega
    have HX := hid hX; have HL := hid hl2; have HALL := hid hall
    clear hX hl hl2 hall
    obtain ⟨m, hm⟩ : ∃ m, m = f.length := ⟨_, rfl⟩
    have HM := hid hm
    rw [← hm] at hE hN hf5 ⊢
    clear hm
    have hNle := hN.le; have hNmx := hN.mx; have hNno := hN.no
    go_enter Try.func80, Try.ntmps80
    go_wp2
    go_loopw [7, 16] (fun v7 v16 wr => ∃ k : Nat, k ≤ n ∧ v16 = .int .i64 (k : Int) ∧ J (pre ++ ordsN n r f k) wr ∧ Kept n0 B W wr ∧ Ints wr a f) (fun _ v16 _ => n - (intOf v16).toNat)
    case atStart => exact ⟨0, Nat.zero_le _, rfl, by simpa [ordsN] using hj, Kept.refl _ _ _, hF⟩
    case round =>
      clear hF hj
      obtain ⟨k, hk, rfl, hj, hkp, hF⟩ := hrel
      by_cases hlt : k < n
      · have hkI : (k : Int) < (n : Int) := by omega
        have hin := contains_any a c f (k : Int) wr hF
        rw [← HM.out] at hin
        have hsz := hkp.below.size
        cases hbb : inL (k : Int) f
        · rw [hbb] at hin
          have HN := hid (ordsN_yes (n := n) (r := r) hbb)
          have hcl := fun V => clip_any a m c hNle hNmx hNno V
          have hcls := hF.cls
          obtain ⟨post2, hp2⟩ := hspl k hlt
          have HP2 := hid hp2
          have hfl : (f.map (Value.int .i64)).length = m * 1 := by rw [List.length_map, ← HM.out]; omega
          have HFL := hid hfl
          have hmx : m ≤ 4 := hf5
          have hba := below_one (w := wr) (.cells #[.int .i64 (k : Int)] 3)
          have HC := hid (show ∀ b, a = some b → ∀ (j : Nat) (u : Value), (f.map (Value.int .i64))[j]? = some u → (wr.alloc (.cells #[.int .i64 (k : Int)] 3)).cell? (b.add j) = some u from fun b hb j u hu => by
            obtain ⟨b', off, e, hlt2, hc⟩ := (hcls.below hba (Nat.le_refl _)) j u hu
            rw [hb] at e; cases e
            have e1 : (⟨b', off, none⟩ : Addr).add j = ⟨b', off + j, none⟩ := by unfold Addr.add; split <;> simp_all
            rw [e1]; exact hc)
          have HJ := hid (hJ _ _ _ hj hba)
          have hF2 := hF.below hba (Nat.le_refl _)
          have hkp2 := hkp.trans (Kept.of_below (B := B) hba (by omega))
          clear hbb hspl hp2 hfl hj hF hkp hba hcls
          go_wp2_with (first
            | (refine hin.mono ?_; clear hin; rintro e V1 ⟨rfl, rfl⟩)
            | (refine (hcl _).mono ?_; clear hcl; rintro e V2 ⟨rfl, rfl⟩)
            | (at_builtin; refine wpList_append_grows _ rfl _ _ 41 rfl 3 j0 (.int .i64 0) 1 8 under41 hj0 jz0 jz1 jz2 rfl (by decide) a m m (f.map (Value.int .i64)) rfl (fun e => by have := hNno e; omega) HFL.out HC.out ⟨wr.heap.size, 0, none⟩ 1 1 [.int .i64 (k : Int)] rfl rfl (cell_one_new _ _ _) (ints_oneCell .i64 [(k : Int)]) (by omega) (by unfold maxLen; omega) (by omega) ?_; intro v2 W2 hrow2 hg2))
          have hb12 : Below (wr.alloc (.cells #[.int .i64 (k : Int)] 3)).heap.size (wr.alloc (.cells #[.int .i64 (k : Int)] 3)) W2 := ⟨hg2.os, hg2.tape, hg2.output, hg2.size, fun k hk => hg2.block k hk (fun e => by cases e)⟩
          rw [HM.out] at hrow2
          obtain ⟨a2, c2, rfl, hF3, hN3⟩ := grow_step hrow2 (by rw [← HM.out]; omega) hfr (by omega)
          have hN4 : Nw B a2 (f ++ [(k : Int)]).length c2 := ⟨hN3.le, hN3.mx, hN3.no, fun ad e => by have := hN3.at_ ad e; simp at this; omega⟩
          have hln : (f ++ [(k : Int)]).length = m + 1 := by rw [List.length_append, HM.out]; rfl
          have hbk := Kept.of_below (n0 := n0) (B := B) hb12 (by simp; omega)
          have hsz2 := hb12.size
          have hX2 : XS = (pre ++ ordsN n r f k) ++ ordsR n r (f ++ [(k : Int)]) ++ (post2 ++ post) := by rw [HX.out, HP2.out, HN.out]; simp
          have ihc := ih (f ++ [(k : Int)]) a2 c2 (pre ++ ordsN n r f k) (post2 ++ post) W2 (by rw [hln]; have := HL.out; rw [← HM.out] at this; omega) (fun y hy => by
            rcases List.mem_append.1 hy with h | h
            · exact hfr y h
            · rw [List.mem_singleton.1 h]; omega) hF3 hN4 hX2 (hJ _ _ _ HJ.out hb12) (by simp at hsz2; omega)
          have hF4 := (hF2.below hb12 (Nat.le_refl _))
          have hkp3 := hkp2.trans hbk
          rw [hln] at ihc ⊢
          clear hrow2 hg2 hb12 hF3 hN3 hN4 hln hbk hsz2 hX2 hF2 hkp2 HJ HC
          refine ihc.mono ?_
          rintro e W3 ⟨rfl, hj3, hk3⟩
          have hF5 := Ints.kept hk3 hF4 (fun ad e => hN.at_ ad e)
          have hkp4 := hkp3.trans hk3
          have HJ3 := hid hj3
          clear ihc hF4 hkp3 hk3 hj3
          go_wp2
          go_roundw
          case rel => exact ⟨k + 1, by omega, by simp, by rw [HN.out, ← List.append_assoc]; exact HJ3.out, hkp4, hF5⟩
          case measure => simp [intOf]; omega
        · rw [hbb] at hin
          have HN := hid (ordsN_no (n := n) (r := r) hbb)
          clear hbb hspl
          go_wp2_with fail
          refine hin.mono ?_
          rintro e wj ⟨rfl, rfl⟩
          go_wp2
          go_roundw
          case rel => exact ⟨k + 1, by omega, by simp, by rw [HN.out]; exact hj, hkp, hF⟩
          case measure => simp [intOf]; omega
      · have hkn : k = n := by omega
        have hkI : ¬ (k : Int) < (n : Int) := by omega
        have hj2 : J (pre ++ ordsR n (r + 1) f) wr := by
          rw [← HALL.out]; rw [hkn] at hj; exact hj
        have HJ := hid hj2
        clear hkn hj hj2 hspl
        go_wp2
        go_ret
        exact ⟨rfl, HJ.out, hkp⟩
end Go.Proofs.Ythgjjlkdekfdbaa
