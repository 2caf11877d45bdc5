import Derived.Test.YteianfbdhakhpaaT1
/-! Whether a train, a list is valid. -/
namespace Go.Proofs.Yteianfbdhakhpaa
set_option linter.unusedSimpArgs false
set_option linter.unusedVariables false
open Go Go.RowKit

def w64 (x : Int) : Int := IntKind.i64.wrap x
theorem w64_in {x : Int} (h : -9223372036854775808 ≤ x ∧ x ≤ 9223372036854775807) : w64 x = x := IntWalk.i64_in x h
/-- Whether a number is a selection. -/
def selB (X : Pu) (s : Int) : Bool := fromI 0 s (w64 (w64 (X.l * X.n) - 1))
theorem selB_ok {X : Pu} (ok : POk X) (s : Int) : selB X s = fromI 0 s (X.l * X.n - 1) := by
  have m2 : 0 ≤ X.l * X.n := Int.mul_nonneg (by have := ok.l; omega) (by have := ok.n; omega)
  have m3 : X.l * X.n ≤ 5 * 5 := Int.mul_le_mul ok.l.2 ok.n.2 (by have := ok.n; omega) (by omega)
  unfold selB
  rw [w64_in (x := X.l * X.n) (by omega), w64_in (by omega)]
def cntF (f : Int → Bool) (l : List Int) : Nat := (l.filter f).length
def listB (X : Pu) (l : List Int) : Bool := decide (l.length ≤ 24) && decide (cntF (selB X) l = l.length)

set_option maxRecDepth 100000 in
set_option maxHeartbeats 1000000 in
theorem isSelection_any (aT : Option Addr) (cT : Nat) (X : Pu) (s : Int) (w : World) : Calls Try.prog 66 #[.agg #[.int .i64 X.l, .int .i64 X.n, .int .i64 X.pi, .int .i64 X.sl, .int .i64 X.ga, .int .i64 X.pa, .int .i64 X.sp, .slice aT X.ts.length cT], .int .i64 s] w fun e w' => e = .returned (.bool (selB X s)) ∧ Below w.heap.size w w' := by
  obtain ⟨W, hW, hb, _, x0⟩ := boxes1 w #[.int .i64 X.l, .int .i64 X.n, .int .i64 X.pi, .int .i64 X.sl, .int .i64 X.ga, .int .i64 X.pa, .int .i64 X.sp, .slice aT X.ts.length cT] 24
  have e1 : IntKind.i64.wrap (X.l * X.n) = w64 (X.l * X.n) := rfl
  have e2 : IntKind.i64.wrap (w64 (X.l * X.n) - 1) = w64 (w64 (X.l * X.n) - 1) := rfl
  have hf := fun V => isFrom_any 0 s (w64 (w64 (X.l * X.n) - 1)) V
  unfold selB
  generalize w64 (w64 (X.l * X.n) - 1) = m1 at *
  generalize w64 (X.l * X.n) = m2 at *
  generalize fromI 0 s m1 = r at *
  generalize X.ts.length = n at *
  have c0 := x0.cell 0 rfl; have c1 := x0.cell 1 rfl; have c2 := x0.cell 2 rfl; have c3 := x0.cell 3 rfl; have c4 := x0.cell 4 rfl; have c5 := x0.cell 5 rfl; have c6 := x0.cell 6 rfl; have c7 := x0.cell 7 rfl
  go_enter Try.func66, Try.ntmps66
  go_wp2_with fail
  refine (hf _).mono ?_
  rintro e W1 ⟨rfl, rfl⟩
  go_wp2
  go_ret
  exact ⟨rfl, hb⟩
set_option maxRecDepth 100000 in
set_option maxHeartbeats 1000000 in
theorem rIsSelection_any (aT : Option Addr) (cT : Nat) (X : Pu) (s : Int) (w : World) : Calls Try.prog 40 #[.agg #[.int .i64 X.l, .int .i64 X.n, .int .i64 X.pi, .int .i64 X.sl, .int .i64 X.ga, .int .i64 X.pa, .int .i64 X.sp, .slice aT X.ts.length cT], .int .i64 s] w fun e w' => e = .returned (.bool (selB X s)) ∧ Below w.heap.size w w' := by
  obtain ⟨W, hW, hb, _, x0⟩ := boxes1 w #[.int .i64 X.l, .int .i64 X.n, .int .i64 X.pi, .int .i64 X.sl, .int .i64 X.ga, .int .i64 X.pa, .int .i64 X.sp, .slice aT X.ts.length cT] 24
  have e1 : IntKind.i64.wrap (X.l * X.n) = w64 (X.l * X.n) := rfl
  have e2 : IntKind.i64.wrap (w64 (X.l * X.n) - 1) = w64 (w64 (X.l * X.n) - 1) := rfl
  have hf := fun V => within_any 0 s (w64 (w64 (X.l * X.n) - 1)) V
  unfold selB
  generalize w64 (w64 (X.l * X.n) - 1) = m1 at *
  generalize w64 (X.l * X.n) = m2 at *
  generalize fromI 0 s m1 = r at *
  generalize X.ts.length = n at *
  have c0 := x0.cell 0 rfl; have c1 := x0.cell 1 rfl; have c2 := x0.cell 2 rfl; have c3 := x0.cell 3 rfl; have c4 := x0.cell 4 rfl; have c5 := x0.cell 5 rfl; have c6 := x0.cell 6 rfl; have c7 := x0.cell 7 rfl
  go_enter Try.func40, Try.ntmps40
  go_wp2_with fail
  refine (hf _).mono ?_
  rintro e W1 ⟨rfl, rfl⟩
  go_wp2
  go_ret
  exact ⟨rfl, hb⟩
set_option maxRecDepth 100000 in
set_option maxHeartbeats 1000000 in
theorem isListC_any (aT : Option Addr) (cT : Nat) (X : Pu) (g : Nat) (s : Int) (w : World) (x0 : Bx w g #[.int .i64 X.l, .int .i64 X.n, .int .i64 X.pi, .int .i64 X.sl, .int .i64 X.ga, .int .i64 X.pa, .int .i64 X.sp, .slice aT X.ts.length cT] 24) : Calls Try.prog 78 #[.int .i64 s, .pointer (some ⟨g, 0, none⟩)] w fun e w' => e = .returned (.bool (selB X s)) ∧ Below w.heap.size w w' := by
  have hf := fun V => isSelection_any aT cT X s V
  generalize selB X s = r at *
  generalize X.ts.length = n at *
  have c0 := x0.cell 0 rfl; have c1 := x0.cell 1 rfl; have c2 := x0.cell 2 rfl; have c3 := x0.cell 3 rfl; have c4 := x0.cell 4 rfl; have c5 := x0.cell 5 rfl; have c6 := x0.cell 6 rfl; have c7 := x0.cell 7 rfl
  go_enter Try.func78, Try.ntmps78
  go_wp2_with fail
  refine (hf _).mono ?_
  rintro e W1 ⟨rfl, hb⟩
  go_wp2
  go_ret
  exact ⟨rfl, hb⟩
set_option maxRecDepth 100000 in
set_option maxHeartbeats 2000000 in
theorem count78_any (g : Nat) (a : Option Addr) (c : Nat) (l : List Int) (f : Int → Bool) (w : World) (hI : Ints w a l) (hf : ∀ V x, Below w.heap.size w V → x ∈ l → Calls Try.prog 78 #[.int .i64 x, .pointer (some ⟨g, 0, none⟩)] V fun e w' => e = .returned (.bool (f x)) ∧ Below V.heap.size V w') : Calls Try.prog 67 #[.slice a l.length c, .func (.func 78) #[] #[.pointer (some ⟨g, 0, none⟩)]] w fun e w' => e = .returned (.int .i64 (cntF f l)) ∧ Below w.heap.size w w' := by
  have hlen := hI.len
  have hle : cntF f l ≤ l.length := List.length_filter_le _ _
  have HK := hid (show ∀ k x, l[k]? = some x → cntF f (l.take (k + 1)) = cntF f (l.take k) + if f x = true then 1 else 0 from fun k x h => by
    unfold cntF; rw [List.take_add_one, h, List.filter_append, List.length_append]
    cases hx : f x <;> simp [hx])
  have HLE := hid (show ∀ k, cntF f (l.take k) ≤ k from fun k => Nat.le_trans (List.length_filter_le _ _) (by rw [List.length_take]; omega))
  obtain ⟨R, hR⟩ : ∃ R, R = cntF f l := ⟨_, rfl⟩
  rw [← hR] at hle ⊢
  have HR := hid hR
  obtain ⟨n, hn⟩ : ∃ n, n = l.length := ⟨_, rfl⟩
  rw [← hn] at hlen hle ⊢
  have HN := hid hn
  have HF := hid hf
  clear hn hR hf
  go_enter Try.func67, Try.ntmps67
  go_wp2
  go_loopw [5, 10] (fun v5 v10 wr => ∃ k q : Nat, k ≤ n ∧ v10 = .int .i64 (k : Int) ∧ v5 = .int .i64 (q : Int) ∧ Hid (q = cntF f (l.take k)) ∧ Below w.heap.size w wr) (fun _ v10 _ => n - (intOf v10).toNat)
  case atStart => exact ⟨0, 0, Nat.zero_le _, rfl, rfl, hid rfl, Below.refl _ _⟩
  case round =>
    obtain ⟨k, q, hk, rfl, rfl, HQ, hb⟩ := hrel
    by_cases hlt : k < n
    · obtain ⟨b1, o1, x, rfl, _, hc1, _, _, hg1, _⟩ := (hI.below hb (Nat.le_refl _)).at (k := k) (by rw [← HN.out]; exact hlt)
      have hkI : (k : Int) < n := by omega
      have hk0 : (0 : Int) ≤ (k : Int) := by omega
      have hq1 : q ≤ k := by rw [HQ.out]; exact HLE.out k
      have ewq : IntKind.i64.wrap ((q : Int) + 1) = (q : Int) + 1 := IntWalk.i64_in _ (by omega)
      have hcall := HF.out wr x hb (List.mem_of_getElem? hg1.out)
      have hs := HK.out k x hg1.out
      rw [← HQ.out] at hs
      clear hg1
      cases hx : f x with
      | true =>
        rw [hx] at hcall hs
        have HS := hid (show q + 1 = cntF f (l.take (k + 1)) by rw [hs]; rfl)
        clear hs hx
        go_wp2_with fail
        refine hcall.mono ?_
        rintro e V1 ⟨rfl, hb1⟩
        replace hb := hb.trans (hb1.mono hb.size)
        clear hb1 hcall hc1
        go_wp2
        go_roundw
        case rel => exact ⟨k + 1, q + 1, by omega, by simp, by go_num, HS, hb⟩
        case measure => simp [intOf]; omega
      | false =>
        rw [hx] at hcall hs
        have HS := hid (show q = cntF f (l.take (k + 1)) by rw [hs]; rfl)
        clear hs hx
        go_wp2_with fail
        refine hcall.mono ?_
        rintro e V1 ⟨rfl, hb1⟩
        replace hb := hb.trans (hb1.mono hb.size)
        clear hb1 hcall hc1
        go_wp2
        go_roundw
        case rel => exact ⟨k + 1, q, by omega, by simp, rfl, HS, hb⟩
        case measure => simp [intOf]; omega
    · have hkn : k = n := by omega
      have hq := HQ.out
      rw [List.take_of_length_le (by rw [hkn, HN.out]; exact Nat.le_refl _), ← HR.out] at hq
      have HQ2 := hid hq
      clear hq HQ
      go_wp2
      go_ret
      exact ⟨ret_int (by rw [HQ2.out]), hb⟩
set_option maxRecDepth 100000 in
set_option maxHeartbeats 2000000 in
theorem all78_any (aT : Option Addr) (cT : Nat) (X : Pu) (g : Nat) (a : Option Addr) (c : Nat) (l : List Int) (w : World) (hI : Ints w a l) (x0 : Bx w g #[.int .i64 X.l, .int .i64 X.n, .int .i64 X.pi, .int .i64 X.sl, .int .i64 X.ga, .int .i64 X.pa, .int .i64 X.sp, .slice aT X.ts.length cT] 24) : Calls Try.prog 55 #[.slice a l.length c, .func (.func 78) #[] #[.pointer (some ⟨g, 0, none⟩)]] w fun e w' => e = .returned (.bool (decide (cntF (selB X) l = l.length))) ∧ Below w.heap.size w w' := by
  have hc := count78_any g a c l (selB X) w hI (fun V x hb _ => isListC_any aT cT X g x V (x0.below hb))
  generalize cntF (selB X) l = q at *
  obtain ⟨n, hn⟩ : ∃ n, n = l.length := ⟨_, rfl⟩
  rw [← hn] at hc ⊢
  clear hn
  have HE := hid (show ((q : Int) == (n : Int)) = decide (q = n) by
    by_cases h : q = n
    · simp [h]
    · rw [decide_eq_false h, beq_eq_false_iff_ne]; omega)
  go_enter Try.func55, Try.ntmps55
  go_wp2_with fail
  refine hc.mono ?_
  rintro e V1 ⟨rfl, hb1⟩
  go_wp2
  go_ret
  exact ⟨ret_bool (by first | exact HE.out | (rw [← HE.out])), hb1⟩
set_option maxRecDepth 100000 in
set_option maxHeartbeats 2000000 in
theorem isList_any (aT : Option Addr) (cT : Nat) (X : Pu) (a : Option Addr) (c : Nat) (l : List Int) (w : World) (hI : Ints w a l) : Calls Try.prog 52 #[.agg #[.int .i64 X.l, .int .i64 X.n, .int .i64 X.pi, .int .i64 X.sl, .int .i64 X.ga, .int .i64 X.pa, .int .i64 X.sp, .slice aT X.ts.length cT], .slice a l.length c] w fun e w' => e = .returned (.bool (listB X l)) ∧ Below w.heap.size w w' := by
  obtain ⟨W, hW, hb, _, x0⟩ := boxes1 w #[.int .i64 X.l, .int .i64 X.n, .int .i64 X.pi, .int .i64 X.sl, .int .i64 X.ga, .int .i64 X.pa, .int .i64 X.sp, .slice aT X.ts.length cT] 24
  have hal := all78_any aT cT X w.heap.size a c l W (hI.below hb (Nat.le_refl _)) x0
  have hlen := hI.len
  unfold listB
  generalize decide (cntF (selB X) l = l.length) = r at *
  generalize l.length = m at *
  generalize X.ts.length = n at *
  clear x0
  by_cases hm : m ≤ 24
  · have hmI : (m : Int) ≤ 24 := by omega
    rw [decide_eq_true hm, Bool.true_and]
    go_enter Try.func52, Try.ntmps52
    go_wp2_with fail
    refine hal.mono ?_
    rintro e V1 ⟨rfl, hb1⟩
    replace hb := hb.trans (hb1.mono hb.size)
    clear hb1 hal hW
    go_wp2
    go_ret
    exact ⟨rfl, hb⟩
  · have hmI : ¬ (m : Int) ≤ 24 := by omega
    rw [decide_eq_false hm, Bool.false_and]
    clear hal
    go_enter Try.func52, Try.ntmps52
    go_wp2
    go_ret
    exact ⟨rfl, hb⟩

end Go.Proofs.Yteianfbdhakhpaa
