import Derived.Test.YtmkmnedojgigoaaL2
import Derived.Test.YtmkmnedojgigoaaK4
namespace Go.Proofs.Ytmkmnedojgigoaa
open Go.RowKit
theorem part3' (xs : Array Value) (j : Nat) (k : IntKind) (x : Int) (h : xs[j]? = some (.int k x)) (w : World) : (part 3 xs j).run Try.prog w = .ok (.int k x) w := by
  obtain ⟨j0, hj, jz0, jz1, jz2⟩ := info_parts info3
  unfold part
  simp [go_sem, sizeOf, typeInfo, hj, jz1, h]
theorem fields50 : (Try.prog.fieldsOf 50).toList.map (fun f => (decide (f.name = "_"), f.type, f.offset)) = [(false, 3, 0), (false, 3, 1)] := by kernel_rfl
theorem seen_neq (a b c d : Int) (w : World) : (binOp .neq 50 (.agg #[.int .i64 a, .int .i64 b]) (.agg #[.int .i64 c, .int .i64 d])).run Try.prog w = .ok (.bool (!(decide (a = c) && decide (b = d)))) w := by
  rw [run_neq_struct, show (10000 : Nat) = 9999 + 1 from rfl, run_equalIn_agg w 9999 50 _ _ (by kernel_rfl) (by kernel_rfl)]
  have h := fields50
  generalize (Try.prog.fieldsOf 50).toList = fs at h
  have p1 := part3' #[.int .i64 a, .int .i64 b] 0 .i64 a rfl
  have p2 := part3' #[.int .i64 a, .int .i64 b] 1 .i64 b rfl
  have p3 := part3' #[.int .i64 c, .int .i64 d] 0 .i64 c rfl
  have p4 := part3' #[.int .i64 c, .int .i64 d] 1 .i64 d rfl
  have e1 : ∀ w, (Op.equalIn 9999 3 (.int .i64 a) (.int .i64 c)).run Try.prog w = .ok (a == c) w := fun w => run_equalIn_int (P := Try.prog) w 9998 3 .i64 .i64 a c Try.underlying3
  have e2 : ∀ w, (Op.equalIn 9999 3 (.int .i64 b) (.int .i64 d)).run Try.prog w = .ok (b == d) w := fun w => run_equalIn_int (P := Try.prog) w 9998 3 .i64 .i64 b d Try.underlying3
  rcases fs with _ | ⟨f, _ | ⟨g, _ | ⟨_, _⟩⟩⟩
  · simp at h
  · simp at h
  · simp only [List.map_cons, List.map_nil, List.cons.injEq, Prod.mk.injEq, and_true, decide_eq_false_iff_not] at h
    obtain ⟨⟨f1, f2, f3⟩, g1, g2, g3⟩ := h
    simp only [Op.eqFields, f1, f2, f3, g1, g2, g3, ne_eq, not_false_eq_true, if_true, Sem.run_bind, p1, p3, Result.andThen_ok, e1]
    by_cases h1 : a = c
    · subst h1
      by_cases h2 : b = d
      · subst h2; simp [p2, e2]
      · have : (b == d) = false := by simp [h2]
        simp [p2, p4, e2, this, h2]
    · have : (a == c) = false := by simp [h1]
      simp [this, h1]
  · simp at h

set_option maxRecDepth 100000 in
set_option maxHeartbeats 1000000 in
theorem sameSeen_any (a b : Option Addr) (ca cb : Nat) (xs ys : List (Int × Int)) (w : World) (hX : Prs w a xs) (hY : Prs w b ys) (hl : ys.length = xs.length) (hs : xs.length ≤ 1000) :
    Calls Try.prog 93 #[.slice a xs.length ca, .slice b ys.length cb] w fun e w' => e = .returned (.bool (decide (xs = ys))) ∧ Below w.heap.size w w' := by
  rw [hl]
  have HL := hid hl; clear hl
  go_enter Try.func93, Try.ntmps93
  go_wp2
  go_loopw [5] (fun v wr => ∃ k : Nat, k ≤ xs.length ∧ v = .int .i64 (k : Int) ∧ Qd w wr ∧ xs.take k = ys.take k) (fun v _ => xs.length - (intOf v).toNat)
  case atStart => exact ⟨0, Nat.zero_le _, rfl, Qd.refl _, rfl⟩
  case round =>
    obtain ⟨k, hk, rfl, hq, hn⟩ := hrel
    have Hn := hid hn; clear hn
    have hX1 := hX.below (hq.below w.heap.size) (Nat.le_refl _)
    have hY1 := hY.below (hq.below w.heap.size) (Nat.le_refl _)
    by_cases hlt : k < xs.length
    · obtain ⟨b1, o1, x1, x2, rfl, hb1, hc1, hc2, _, _, hx, _⟩ := hX1.at hlt
      obtain ⟨b2, o2, y1, y2, rfl, hb2, hd1, hd2, _, _, hy, _⟩ := hY1.at (k := k) (by have := HL.out; omega)
      have hkI : (k : Int) < (xs.length : Int) := by omega
      have hk0 : (0 : Int) ≤ (k : Int) := by omega
      have hs1 := seen_neq x1 x2 y1 y2
      by_cases he : x1 = y1 ∧ x2 = y2
      · obtain ⟨rfl, rfl⟩ := he
        go_wp2
        go_quiet ((fail))
        go_wp2
        go_roundw
        case rel => exact ⟨k + 1, by omega, by go_num, hq.drewN _, by rw [List.take_add_one, List.take_add_one, Hn.out, hx.out, hy.out]⟩
        case measure => simp [intOf]; omega
      · have hb : (!(decide (x1 = y1) && decide (x2 = y2))) = true := by simp; omega
        have hne : xs ≠ ys := fun e => by
          have h1 := hx.out
          rw [e, hy.out] at h1
          have h2 := Option.some.inj h1
          simp only [Prod.mk.injEq] at h2
          exact he ⟨h2.1.symm, h2.2.symm⟩
        have HNE := hid hne
        rw [hb] at hs1
        clear he hb hne
        go_wp2
        go_quiet ((fail))
        go_wp2
        go_ret
        exact ⟨ret_bool (by rw [decide_eq_false HNE.out]), (hq.drewN _).below _⟩
    · have hkI : (xs.length : Int) ≤ (k : Int) := by omega
      have heq : xs = ys := by
        have h1 := Hn.out
        rw [List.take_of_length_le (by omega), List.take_of_length_le (by have := HL.out; omega)] at h1
        exact h1
      have HEQ := hid heq
      clear heq
      go_wp2
      go_ret
      exact ⟨ret_bool (by rw [decide_eq_true HEQ.out]), hq.below _⟩
end Go.Proofs.Ytmkmnedojgigoaa
