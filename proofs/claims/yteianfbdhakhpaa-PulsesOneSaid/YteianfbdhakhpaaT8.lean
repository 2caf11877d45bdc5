import Derived.Test.YteianfbdhakhpaaT7
import Derived.ArgAppend
import Derived.RangeFuncBound
import Derived.Shelf.Abstract
import Derived.Shelf.RegionOpen
import Derived.OwnWalkIn
import Derived.TacticsInMore
import Derived.LoopNIn
import Derived.LoopIn
/-! All sets of sparks, yielded one by one. -/
namespace Go.Proofs.Yteianfbdhakhpaa
set_option linter.unusedSimpArgs false
set_option linter.unusedVariables false
open Go Go.RowKit

attribute [local go_sem] Oper.semAt_some

/-- What is handed over: a set, in rows of numbers at or beyond B. -/
def ES (B : Nat) (x : List Int) (vs : Array Value) (W : World) : Prop := ∃ a c, vs = #[.slice a x.length c] ∧ Iz B W a x

set_option maxRecDepth 100000 in
set_option maxHeartbeats 4000000 in
theorem grow_zero (e : Nat) (l B n0 : Nat) (XS : List (List Int)) (C : Nat → Prop) (J : List (List Int) → World → Prop)
    (hY : ∀ pre x vs, (∃ rest, XS = pre ++ x :: rest) → ∀ W1, J pre W1 → ES B x vs W1 → YieldAt Fence.wide 0 Try.prog l vs W1 fun e W' => e = .returned (.bool true) ∧ J (pre ++ [x]) W' ∧ Kc 62 n0 C W1 W')
    (low : Nat) (f : List Int) (a : Option Addr) (c : Nat) (pre post : List (List Int)) (W : World) (hF : Iz B W a f) (hX : XS = pre ++ [f] ++ post) (hj : J pre W) :
    Calls Try.prog 98 #[.slice a f.length c, .int .i64 (low : Int), .int .i64 (e : Int), .int .i64 0, .func (.yield l) #[] #[]] W fun r W' => r = .returned (.bool true) ∧ J (pre ++ [f]) W' ∧ Kc 62 n0 C W W' := by
  obtain ⟨fn, tmps, assign, body, hy, hR2⟩ := hY pre f #[.slice a f.length c] ⟨post, by rw [hX]; simp⟩ W hj ⟨a, c, rfl, hF⟩
  obtain ⟨m, hm⟩ : ∃ m, m = f.length := ⟨_, rfl⟩
  rw [← hm] at hy ⊢
  clear hY hX hF hm
  refine callsIn_wide (n := 0).1 (callsIn_of_wp Try.func98 rfl trivial ?_ rfl)
  simp only [Try.ntmps98, List.size_toArray, List.length_cons, List.length_nil, Nat.reduceAdd, Nat.reduceSub, Array.replicate_succ, Array.replicate_zero, List.push_toArray, List.append_toArray, List.nil_append, List.cons_append, List.append_nil]
  gi_wp2_with (refine ⟨rfl, hR2.mono ?_⟩; clear hR2; rintro e W3 ⟨rfl, hj3, hk3⟩)
  gi_wp2
  go_ret
  exact ⟨rfl, hj3, hk3⟩

set_option maxRecDepth 100000 in
set_option maxHeartbeats 6000000 in
theorem grow_rec (e : Nat) (he : e ≤ 24) (l B n0 : Nat) (XS : List (List Int)) (C : Nat → Prop) (hC : ∀ k, C k → k < B) (J : List (List Int) → World → Prop) (hJ : ∀ pre W1 W2, J pre W1 → Cel B W1 W2 → J pre W2)
    (hY : ∀ pre x vs, (∃ rest, XS = pre ++ x :: rest) → ∀ W1, J pre W1 → ES B x vs W1 → YieldAt Fence.wide 0 Try.prog l vs W1 fun e W' => e = .returned (.bool true) ∧ J (pre ++ [x]) W' ∧ Kc 62 n0 C W1 W') :
    ∀ (m low : Nat) (f : List Int) (a : Option Addr) (c : Nat) (pre post : List (List Int)) (W : World), low ≤ e → f.length + m ≤ 3 → (∀ x ∈ f, 0 ≤ x ∧ x ≤ 24) → Iz B W a f → f.length ≤ c → c ≤ 9223372036854775807 → (a = none → c = 0) → XS = pre ++ setsG e m low f ++ post → J pre W → B ≤ W.heap.size →
    Calls Try.prog 98 #[.slice a f.length c, .int .i64 (low : Int), .int .i64 (e : Int), .int .i64 (m : Int), .func (.yield l) #[] #[]] W fun r W' => r = .returned (.bool true) ∧ J (pre ++ setsG e m low f) W' ∧ Kc 62 n0 C W W' := by
  obtain ⟨j0, hj0, jz0, jz1, jz2⟩ := info_parts info3i
  intro m
  induction m with
  | zero =>
    intro low f a c pre post W hlow hl hfr hF hc1 hc2 hc3 hX hj hBW
    exact grow_zero e l B n0 XS C J hY low f a c pre post W hF hX hj
  | succ m ih =>
    intro low f a c pre post W hlow hl hfr hF hc1 hc2 hc3 hX hj hBW
    rw [setsG_succ] at hX ⊢
    obtain ⟨fn, tmps, assign, body, hy, hR2⟩ := hY pre f #[.slice a f.length c] ⟨setsN e m low f e ++ post, by rw [hX]; simp⟩ W hj ⟨a, c, rfl, hF⟩
    have HX := hid hX; have HIH := hid ih
    have HSP := hid (show ∀ k, low ≤ k → k < e → ∃ post, setsN e m low f e = setsN e m low f k ++ setsG e m (k + 1) (f ++ [(k : Int)]) ++ post from fun k h1 h2 => setsN_split h1 h2)
    have HNX := hid (show ∀ k, low ≤ k → setsN e m low f (k + 1) = setsN e m low f k ++ setsG e m (k + 1) (f ++ [(k : Int)]) from fun k h => setsN_next h)
    have HZ := hid (setsN_zero e m low f)
    have HFR := hid hfr; have HL := hid hl
    obtain ⟨q, hq⟩ : ∃ q, q = f.length := ⟨_, rfl⟩
    rw [← hq] at hy hc1 ⊢
    have HQ := hid hq
    have hq2 : q ≤ 2 := by omega
    obtain ⟨mm, hmm⟩ : ∃ mm, mm = m + 1 := ⟨_, rfl⟩
    have hm0 : ((mm : Int) == 0) = false := by rw [beq_eq_false_iff_ne]; omega
    have ewm : IntKind.i64.wrap ((mm : Int) - 1) = (m : Int) := by rw [IntWalk.i64_in _ (by omega)]; omega
    rw [← hmm]
    have hmb : (mm : Int) ≤ 3 := by omega
    have heI : (e : Int) ≤ 24 := by omega
    clear hX ih hq hl hfr hmm hY
    refine callsIn_wide (n := 0).1 (callsIn_of_wp Try.func98 rfl trivial ?_ rfl)
    simp only [Try.ntmps98, List.size_toArray, List.length_cons, List.length_nil, Nat.reduceAdd, Nat.reduceSub, Array.replicate_succ, Array.replicate_zero, List.push_toArray, List.append_toArray, List.nil_append, List.cons_append, List.append_nil]
    gi_wp2_with (refine ⟨rfl, hR2.mono ?_⟩; clear hR2; rintro r W3 ⟨rfl, hj3, hk3⟩)
    gi_wp2
    refine wpIn_wide.2 ?_
    have hF3 := hF.kc (by decide) hk3 hC
    have hB3 := hk3.size
    go_loopw [11] (fun v11 wr => ∃ k : Nat, low ≤ k ∧ k ≤ e ∧ v11 = .int .i64 (k : Int) ∧ J (pre ++ [f] ++ setsN e m low f k) wr ∧ Kc 62 n0 C W wr ∧ Iz B wr a f) (fun v11 _ => e - (intOf v11).toNat)
    case atStart => exact ⟨low, Nat.le_refl _, hlow, rfl, by rw [HZ.out, List.append_nil]; exact hj3, hk3, hF3⟩
    case round =>
      clear hF3 hj3 hF hj hk3
      obtain ⟨k, hlk, hk, rfl, hj, hkp, hF⟩ := hrel
      have hsz := hkp.size
      by_cases hlt : k < e
      · have hkI : (k : Int) < (e : Int) := by omega
        have hk0 : (0 : Int) ≤ (k : Int) := by omega
        have ewk : IntKind.i64.wrap ((k : Int) + 1) = ((k + 1 : Nat) : Int) := by rw [IntWalk.i64_in _ (by omega)]; omega
        have hcl := fun V => clip_any a q c hc1 hc2 hc3 V
        have hfl : (f.map (Value.int .i64)).length = q * 1 := by rw [List.length_map, ← HQ.out]; omega
        have HFL := hid hfl
        have hba := below_one (w := wr) (.cells #[.int .i64 (k : Int)] 3)
        have hcls := hF.i.cls
        have HC := hid (show ∀ b, a = some b → ∀ (j : Nat) (u : Value), (f.map (Value.int .i64))[j]? = some u → (wr.alloc (.cells #[.int .i64 (k : Int)] 3)).cell? (b.add j) = some u from fun b hb j u hu => by
          obtain ⟨b', off, e, hlt2, hc⟩ := (hcls.below hba (Nat.le_refl _)) j u hu
          rw [hb] at e; cases e
          have e1 : (⟨b', off, none⟩ : Addr).add j = ⟨b', off + j, none⟩ := by unfold Addr.add; split <;> simp_all
          rw [e1]; exact hc)
        have hBr : B ≤ wr.heap.size := by omega
        have HJ := hid (hJ _ _ _ hj (Cel.of_below hba hBr))
        have hF2 := hF.below hba
        have hkp2 := hkp.trans (Kc.of_below (T := 62) (n0 := n0) (C := C) hba)
        clear hfl hj hF hkp hba hcls
        go_wp2_with (first
          | (refine (hcl _).mono ?_; clear hcl; rintro e V2 ⟨rfl, rfl⟩)
          | (at_builtin; go_loud (refine wpList_append_grows _ rfl _ _ 22 rfl 3 j0 (.int .i64 0) 1 8 under22 hj0 jz0 jz1 jz2 rfl (by decide) a q q (f.map (Value.int .i64)) rfl (fun e => by have := hc3 e; omega) HFL.out HC.out ⟨wr.heap.size, 0, none⟩ 1 1 [.int .i64 (k : Int)] rfl rfl (cell_one_new _ _ _) (ints_oneCell .i64 [(k : Int)]) (by omega) (by unfold maxLen; omega) (by omega) ?_); intro v2 W2 hrow2 hg2))
        have hb12 : Below (wr.alloc (.cells #[.int .i64 (k : Int)] 3)).heap.size (wr.alloc (.cells #[.int .i64 (k : Int)] 3)) W2 := ⟨hg2.os, hg2.tape, hg2.output, hg2.size, fun k hk => hg2.block k hk (fun e => by cases e)⟩
        obtain ⟨a2, c2, rfl⟩ := own_slice2 hrow2
        have hln : (f ++ [(k : Int)]).length = q + 1 := by rw [List.length_append, HQ.out]; rfl
        have hfr2 : ∀ y ∈ f ++ [(k : Int)], 0 ≤ y ∧ y ≤ 24 := fun y hy => by
          rcases List.mem_append.1 hy with h | h
          · exact HFR.out y h
          · rw [List.mem_singleton.1 h]; omega
        have hz := own_nw (xs := f ++ [(k : Int)]) (by simpa using hrow2) hln.symm (by rw [hln]; omega) (fun y hy => by have := hfr2 y hy; omega)
        have hF4 : Iz B W2 a2 (f ++ [(k : Int)]) := hz.1.mono (by first | omega | (simp; omega))
        have hne : a2 = none → c2 = 0 := fun e => by
          have := (hz.1.i).2.2 0 (by rw [hln]; omega)
          obtain ⟨b, off, e2, -⟩ := this
          rw [e] at e2; cases e2
        obtain ⟨post2, hp2⟩ := HSP.out k hlk hlt
        have hX2 : XS = (pre ++ [f] ++ setsN e m low f k) ++ setsG e m (k + 1) (f ++ [(k : Int)]) ++ (post2 ++ post) := by rw [HX.out, hp2]; simp
        have hsz2 := hb12.size
        have hWs : (wr.alloc (.cells #[.int .i64 (k : Int)] 3)).heap.size = wr.heap.size + 1 := by simp
        have ihc := HIH.out (k + 1) (f ++ [(k : Int)]) a2 c2 (pre ++ [f] ++ setsN e m low f k) (post2 ++ post) W2 (by omega) (by have := HL.out; rw [hln, HQ.out]; omega) hfr2 hF4 hz.2.1 hz.2.2 hne hX2 (hJ _ _ _ HJ.out (Cel.of_below hb12 (by omega))) (by omega)
        rw [hln] at ihc
        have hF5 := hF2.below hb12
        have hkp3 := hkp2.trans (Kc.of_below (T := 62) (n0 := n0) (C := C) hb12)
        have HN := hid (HNX.out k hlk)
        clear hrow2 hg2 hb12 hz hF4 hne hX2 hF2 hkp2 HJ HC hp2 hfr2 hln hsz2 hWs
        refine ihc.mono ?_
        rintro r W4 ⟨rfl, hj4, hk4⟩
        have hF6 := hF5.kc (by decide) hk4 hC
        have hkp4 := hkp3.trans hk4
        have HJ4 := hid hj4
        clear ihc hF5 hkp3 hk4 hj4
        go_wp2
        go_roundw
        case rel => exact ⟨k + 1, by omega, by omega, by go_num, by rw [HN.out, ← List.append_assoc]; exact HJ4.out, hkp4, hF6⟩
        case measure => simp [intOf]; omega
      · have hkn : k = e := by omega
        have hkI : ¬ (k : Int) < (e : Int) := by omega
        rw [hkn] at hj
        have HJ := hid hj
        clear hkn hj
        go_wp2
        gi_wp2
        go_ret
        exact ⟨rfl, by have := HJ.out; simpa using this, hkp⟩

set_option maxRecDepth 100000 in
set_option maxHeartbeats 2000000 in
theorem sets_any (e m : Int) (w : World) : Calls Try.prog 82 #[.int .i64 e, .int .i64 m] w fun r w' => r = .returned (.func (.func 97) #[] #[.pointer (some ⟨w.heap.size, 0, none⟩), .pointer (some ⟨w.heap.size + 1, 0, none⟩)]) ∧ Bx w' w.heap.size #[.int .i64 e] 3 ∧ Bx w' (w.heap.size + 1) #[.int .i64 m] 3 ∧ Below w.heap.size w w' := by
  obtain ⟨W, hW, hb, hs, x0, x1⟩ := boxes2 w #[.int .i64 e] 3 #[.int .i64 m] 3
  go_enter Try.func82, Try.ntmps82
  go_wp2
  go_ret
  exact ⟨rfl, x0, x1, hb⟩

set_option maxRecDepth 100000 in
set_option maxHeartbeats 2000000 in
theorem sets_iter (e m : Nat) (he : e ≤ 24) (hm : m ≤ 3) (n0 : Nat) (C : Nat → Prop) (B : Nat) (hC : ∀ k, C k → k < B) (g1 g2 : Nat) (w : World) (h1 : Bx w g1 #[.int .i64 (e : Int)] 3) (h2 : Bx w g2 #[.int .i64 (m : Int)] 3) : IterF Try.prog 97 #[] #[.pointer (some ⟨g1, 0, none⟩), .pointer (some ⟨g2, 0, none⟩)] ES (setsG e m 0 []) 62 n0 C B w := by
  intro l J W hW hs hJ hY h0
  have hg := grow_rec e he l B n0 (setsG e m 0 []) C hC J hJ hY m 0 [] none 0 [] [] W (by omega) (by simpa using hm) (fun x hx => by simp at hx) (Iz.none_ B W) (Nat.le_refl _) (by omega) (fun _ => rfl) (by simp) h0 (by omega)
  have k1 := h1.below hW
  have k2 := h2.below hW
  have c0 := k1.cell 0 rfl
  have d0 := k2.cell 0 rfl
  rw [List.nil_append] at hg
  simp only [List.length_nil] at hg
  clear hJ hY h0 hs h1 h2 k1 k2
  have hg2 : Calls Try.prog 98 #[.slice none 0 0, .int .i64 0, .int .i64 (e : Int), .int .i64 (m : Int), .func (.yield l) #[] #[]] W fun r W' => r = .returned (.bool true) ∧ J (setsG e m 0 []) W' ∧ Kc 62 n0 C W W' := hg
  clear hg
  go_enter Try.func97, Try.ntmps97
  go_wp2_with fail
  refine hg2.mono ?_
  rintro r W2 ⟨rfl, hj, _⟩
  go_wp2
  go_end0
  exact ⟨⟨_, rfl⟩, hj⟩
end Go.Proofs.Yteianfbdhakhpaa
