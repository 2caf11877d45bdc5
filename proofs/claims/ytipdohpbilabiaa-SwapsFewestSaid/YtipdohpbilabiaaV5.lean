import Derived.Test.YtipdohpbilabiaaV0
/-! The visit that is made of what comes in. -/
namespace Go.Proofs.Ytipdohpbilabiaa
set_option linter.unusedSimpArgs false
set_option linter.unusedVariables false
open Go Go.RowKit

theorem inI_iff {lo x hi : Int} : inI lo x hi = true ↔ lo ≤ x ∧ x ≤ hi := by simp [inI]
theorem all_at {f : Nat → Bool} {n : Nat} (h : (List.range n).all f = true) {i : Nat} (hi : i < n) : f i = true := List.all_eq_true.1 h i (by simp; exact hi)
theorem getD_mem' {α : Type} (l : List α) (d : α) {i : Nat} (hi : i < l.length) : l.getD i d ∈ l := by rw [List.getD_eq_getElem?_getD, List.getElem?_eq_getElem hi]; simp
theorem mem_getD {α : Type} {l : List α} (d : α) {x : α} (h : x ∈ l) : ∃ i, i < l.length ∧ l.getD i d = x := by
  obtain ⟨i, hi, e⟩ := List.mem_iff_getElem.1 h
  exact ⟨i, hi, by rw [List.getD_eq_getElem?_getD, List.getElem?_eq_getElem hi]; simp [e]⟩
theorem ris_mem {hi : Int} {l : List Int} (h : risB hi l = true) : ∀ x ∈ l, 0 ≤ x ∧ x ≤ hi := fun x hx => by
  obtain ⟨i, hi', rfl⟩ := mem_getD 0 hx
  have := all_at h hi'
  unfold risI at this
  simp only [Bool.and_eq_true] at this
  exact inI_iff.1 this.1
theorem up_mem {hi : Int} {l : List Int} (h : upB hi l = true) : ∀ x ∈ l, 0 ≤ x ∧ x ≤ hi := fun x hx => by
  obtain ⟨i, hi', rfl⟩ := mem_getD 0 hx
  exact inI_iff.1 (all_at h hi')
theorem mask_lt2 {n : Nat} : ∀ (l : List Int), (∀ x ∈ l, 0 ≤ x ∧ x < (n : Int)) → mask l < 2 ^ n := by
  have : ∀ (l : List Int) (t : Nat), t < 2 ^ n → (∀ x ∈ l, 0 ≤ x ∧ x < (n : Int)) → l.foldl (fun t x => t ||| 2 ^ x.toNat) t < 2 ^ n := by
    intro l
    induction l with
    | nil => intro t ht _; exact ht
    | cons x l ih =>
      intro t ht h
      have hx := h x (by simp)
      exact ih _ (Nat.or_lt_two_pow ht (Nat.pow_lt_pow_right (by omega) (by omega))) (fun y hy => h y (by simp [hy]))
  exact fun l h => this l 0 (Nat.two_pow_pos _) h

structure XOk (X : Sw) : Prop where
  nb3 : X.bs.length ≤ 3
  t6 : X.st.length ≤ 6
  k4 : X.ks.length ≤ 4
  b3 : ∀ i, i < X.bs.length → (X.bs.getD i []).length ≤ 3 ∧ risB (ntI X) (X.bs.getD i []) = true
  kp : ∀ i, i < X.ks.length → keepI X i = true
  st9 : ∀ x ∈ X.st, 0 ≤ x ∧ x ≤ 9
  er1 : X.er.length = X.st.length
  er2 : ∀ i, i < X.er.length → (X.er.getD i []).length = X.bs.length ∧ ∀ x ∈ X.er.getD i [], 0 ≤ x ∧ x ≤ 999
  ch3 : 0 ≤ X.ch ∧ X.ch ≤ 3
theorem vB_iff {X : Sw} (h : vB X = true) : XOk X := by
  unfold vB at h
  simp only [Bool.and_eq_true, decide_eq_true_eq] at h
  obtain ⟨⟨⟨⟨⟨h1, h2⟩, h3⟩, h4⟩, h5⟩, ⟨h6, h7⟩, h8⟩ := h
  unfold eaB at h7
  simp only [Bool.and_eq_true, decide_eq_true_eq] at h7
  refine ⟨h1, h2, h3, fun i hi => ?_, fun i hi => all_at h5 hi, up_mem h6, h7.1, fun i hi => ?_, inI_iff.1 h8⟩
  · have := all_at h4 hi
    unfold boxI at this
    simpa using this
  · have := all_at h7.2 hi
    unfold eaI at this
    simp only [Bool.and_eq_true, decide_eq_true_eq] at this
    exact ⟨this.1, up_mem this.2⟩
theorem XOk.title {X : Sw} (h : XOk X) : ∀ l ∈ X.bs, ∀ x ∈ l, 0 ≤ x ∧ x < (X.st.length : Int) := fun l hl x hx => by
  obtain ⟨i, hi, rfl⟩ := mem_getD [] hl
  have := ris_mem (h.b3 i hi).2 x hx
  unfold ntI at this
  omega
theorem planM_ok {n : Nat} {LL : List (List Int)} (h : ∀ l ∈ LL, ∀ x ∈ l, 0 ≤ x ∧ x < (n : Int)) : (planM LL).ok (2 ^ n) := by
  have hm : ∀ i, i < LL.length → mask (LL.getD i []) < 2 ^ n := fun i hi => mask_lt2 _ (h _ (getD_mem' LL [] hi))
  have hp := Nat.two_pow_pos n
  refine ⟨?_, ?_, ?_⟩
  · show (if 0 < LL.length then mask (LL.getD 0 []) else 0) < 2 ^ n
    split
    · exact hm 0 (by omega)
    · exact hp
  · show (if 1 < LL.length then mask (LL.getD 1 []) else 0) < 2 ^ n
    split
    · exact hm 1 (by omega)
    · exact hp
  · show (if 2 < LL.length then mask (LL.getD 2 []) else 0) < 2 ^ n
    split
    · exact hm 2 (by omega)
    · exact hp
theorem XOk.keep {X : Sw} (h : XOk X) : ∀ k ∈ X.ks, 0 ≤ k.1 ∧ k.1 < (X.bs.length : Int) ∧ 0 ≤ k.2 ∧ k.2 < (X.st.length : Int) := fun k hk => by
  obtain ⟨i, hi, rfl⟩ := mem_getD (0, 0) hk
  have := h.kp i hi
  unfold keepI at this
  simp only [Bool.and_eq_true] at this
  obtain ⟨h1, h2⟩ := this
  have h1 := inI_iff.1 h1
  unfold inL at h2
  obtain ⟨y, hy, e⟩ := List.any_eq_true.1 h2
  have e : (X.ks.getD i (0, 0)).2 = y := by simpa using e
  have := h.title _ (getD_mem' X.bs [] (i := (X.ks.getD i (0, 0)).1.toNat) (by omega)) y hy
  rw [← e] at this
  omega
theorem stayF_ok {n : Nat} (l : List (Int × Int)) (h : ∀ k ∈ l, 0 ≤ k.2 ∧ k.2 < (n : Int)) : (stayF l).ok (2 ^ n) := by
  have hp := Nat.two_pow_pos n
  have : ∀ (l : List (Int × Int)) (p : Pl), p.ok (2 ^ n) → (∀ k ∈ l, 0 ≤ k.2 ∧ k.2 < (n : Int)) → (l.foldl (fun p k => p.set k.1.toNat (p.get k.1.toNat ||| mask [k.2])) p).ok (2 ^ n) := by
    intro l
    induction l with
    | nil => intro p hp _; exact hp
    | cons x l ih =>
      intro p hp h
      refine ih _ (hp.set _ (Nat.or_lt_two_pow (hp.get _) (mask_lt2 _ fun y hy => ?_))) (fun k hk => h k (by simp [hk]))
      have := h x (by simp)
      simp at hy; subst hy; exact this
  exact this l pl0 ⟨hp, hp, hp⟩ h
theorem vz_ok {X : Sw} (h : XOk X) : VOk X.vz :=
  ⟨h.nb3, h.t6, fun x hx => by have := h.st9 x hx; omega, h.er1, fun r hr => by
    obtain ⟨i, hi, rfl⟩ := mem_getD [] hr
    exact (h.er2 i hi).1, fun r hr => by
    obtain ⟨i, hi, rfl⟩ := mem_getD [] hr
    exact (h.er2 i hi).2, ⟨h.ch3.1, by have := h.ch3.2; show X.ch ≤ 4; omega⟩, planM_ok h.title, stayF_ok _ fun k hk => (h.keep k hk).2.2⟩

set_option maxRecDepth 100000 in
set_option maxHeartbeats 2000000 in
theorem visitOf_bad (ab ast ae ak : Option Addr) (cb cs ce ck : Nat) (X : Sw) (b : Bool) (w : World) (hX : Swp w ab ast ae ak X) (r : Int) (hr : r = if vB X then 1 else 70) (hb : vB X = true → b = false) : Calls Try.prog 53 #[.agg #[.slice ab X.bs.length cb, .slice ast X.st.length cs, .slice ae X.er.length ce, .slice ak X.ks.length ck, .int .i64 X.ch], .bool b] w fun e w' => e = .returned (.tuple #[.agg #[.slice none 0 0, .slice none 0 0, .slice none 0 0, .slice none 0 0, .int .i64 0, .int .u8 0, .int .u8 0, .int .u8 0, .int .u8 0, .int .u8 0, .int .u8 0], .int .i64 r]) ∧ Below w.heap.size w w' := by
  obtain ⟨W, hW, hbw, _, x0, x1⟩ := boxes2 w #[.slice ab X.bs.length cb, .slice ast X.st.length cs, .slice ae X.er.length ce, .slice ak X.ks.length ck, .int .i64 X.ch] 26 #[.slice none 0 0, .slice none 0 0, .slice none 0 0, .slice none 0 0, .int .i64 0, .int .u8 0, .int .u8 0, .int .u8 0, .int .u8 0, .int .u8 0, .int .u8 0] 72
  have hv := valid_any ab ast ae ak cb cs ce ck X W (hX.below hbw (Nat.le_refl _))
  clear hX
  have c0 := x0.cell 0 rfl; have c1 := x0.cell 1 rfl; have c2 := x0.cell 2 rfl; have c3 := x0.cell 3 rfl; have c4 := x0.cell 4 rfl
  cases hvb : vB X
  · rw [hvb] at hv hr
    have HR := hid hr
    clear hr hb hvb
    go_enter Try.func53, Try.ntmps53
    go_wp2_with fail
    refine hv.mono ?_
    rintro e W1 ⟨rfl, hb1⟩
    replace hbw := hbw.trans (hb1.mono hbw.size)
    replace x1 := x1.below hb1
    have d0 := x1.cell 0 rfl; have d1 := x1.cell 1 rfl; have d2 := x1.cell 2 rfl; have d3 := x1.cell 3 rfl; have d4 := x1.cell 4 rfl; have d5 := x1.cell 5 rfl; have d6 := x1.cell 6 rfl; have d7 := x1.cell 7 rfl; have d8 := x1.cell 8 rfl; have d9 := x1.cell 9 rfl; have d10 := x1.cell 10 rfl
    have f0 := x1.free 0; have f1 := x1.free 1; have f2 := x1.free 2; have f3 := x1.free 3; have f4 := x1.free 4; have f5 := x1.free 5; have f6 := x1.free 6; have f7 := x1.free 7; have f8 := x1.free 8; have f9 := x1.free 9; have f10 := x1.free 10
    have x2 := x1.set11 (.slice none 0 0) (.slice none 0 0) (.slice none 0 0) (.slice none 0 0) (.int .i64 0) (.int .u8 0) (.int .u8 0) (.int .u8 0) (.int .u8 0) (.int .u8 0) (.int .u8 0)
    have hb2 := below_put11 hbw (b := w.heap.size + 1) (by omega) (.slice none 0 0) (.slice none 0 0) (.slice none 0 0) (.slice none 0 0) (.int .i64 0) (.int .u8 0) (.int .u8 0) (.int .u8 0) (.int .u8 0) (.int .u8 0) (.int .u8 0)
    have HX := hid (And.intro x2 hb2)
    clear hW c0 c1 c2 c3 c4 hb1 x2 hb2 x1
    go_wp2
    obtain ⟨x2, hb2⟩ := HX.out
    have r0 := x2.cell 0 rfl; have r1 := x2.cell 1 rfl; have r2 := x2.cell 2 rfl; have r3 := x2.cell 3 rfl; have r4 := x2.cell 4 rfl; have r5 := x2.cell 5 rfl; have r6 := x2.cell 6 rfl; have r7 := x2.cell 7 rfl; have r8 := x2.cell 8 rfl; have r9 := x2.cell 9 rfl; have r10 := x2.cell 10 rfl; 
    refine bodyPost_ret (v := .tuple #[.agg #[.slice none 0 0, .slice none 0 0, .slice none 0 0, .slice none 0 0, .int .i64 0, .int .u8 0, .int .u8 0, .int .u8 0, .int .u8 0, .int .u8 0, .int .u8 0], .int .i64 70]) ?_ rfl ⟨by rw [HR.out]; rfl, hb2⟩
    simp [results, Try.results53, go_sem, r0, r1, r2, r3, r4, r5, r6, r7, r8, r9, r10]
  · obtain rfl := hb hvb
    rw [hvb] at hv hr
    have HR := hid hr
    clear hr hb hvb
    go_enter Try.func53, Try.ntmps53
    go_wp2_with fail
    refine hv.mono ?_
    rintro e W1 ⟨rfl, hb1⟩
    replace hbw := hbw.trans (hb1.mono hbw.size)
    replace x1 := x1.below hb1
    have d0 := x1.cell 0 rfl; have d1 := x1.cell 1 rfl; have d2 := x1.cell 2 rfl; have d3 := x1.cell 3 rfl; have d4 := x1.cell 4 rfl; have d5 := x1.cell 5 rfl; have d6 := x1.cell 6 rfl; have d7 := x1.cell 7 rfl; have d8 := x1.cell 8 rfl; have d9 := x1.cell 9 rfl; have d10 := x1.cell 10 rfl
    have f0 := x1.free 0; have f1 := x1.free 1; have f2 := x1.free 2; have f3 := x1.free 3; have f4 := x1.free 4; have f5 := x1.free 5; have f6 := x1.free 6; have f7 := x1.free 7; have f8 := x1.free 8; have f9 := x1.free 9; have f10 := x1.free 10
    have x2 := x1.set11 (.slice none 0 0) (.slice none 0 0) (.slice none 0 0) (.slice none 0 0) (.int .i64 0) (.int .u8 0) (.int .u8 0) (.int .u8 0) (.int .u8 0) (.int .u8 0) (.int .u8 0)
    have hb2 := below_put11 hbw (b := w.heap.size + 1) (by omega) (.slice none 0 0) (.slice none 0 0) (.slice none 0 0) (.slice none 0 0) (.int .i64 0) (.int .u8 0) (.int .u8 0) (.int .u8 0) (.int .u8 0) (.int .u8 0) (.int .u8 0)
    have HX := hid (And.intro x2 hb2)
    clear hW c0 c1 c2 c3 c4 hb1 x2 hb2 x1
    go_wp2
    obtain ⟨x2, hb2⟩ := HX.out
    have r0 := x2.cell 0 rfl; have r1 := x2.cell 1 rfl; have r2 := x2.cell 2 rfl; have r3 := x2.cell 3 rfl; have r4 := x2.cell 4 rfl; have r5 := x2.cell 5 rfl; have r6 := x2.cell 6 rfl; have r7 := x2.cell 7 rfl; have r8 := x2.cell 8 rfl; have r9 := x2.cell 9 rfl; have r10 := x2.cell 10 rfl; 
    refine bodyPost_ret (v := .tuple #[.agg #[.slice none 0 0, .slice none 0 0, .slice none 0 0, .slice none 0 0, .int .i64 0, .int .u8 0, .int .u8 0, .int .u8 0, .int .u8 0, .int .u8 0, .int .u8 0], .int .i64 1]) ?_ rfl ⟨by rw [HR.out]; rfl, hb2⟩
    simp [results, Try.results53, go_sem, r0, r1, r2, r3, r4, r5, r6, r7, r8, r9, r10]
end Go.Proofs.Ytipdohpbilabiaa
