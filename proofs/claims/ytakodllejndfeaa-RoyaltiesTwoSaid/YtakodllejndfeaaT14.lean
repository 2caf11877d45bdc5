import Derived.Test.YtakodllejndfeaaT13
/-! The least pool, and the odd one. -/
namespace Go.Proofs.Ytakodllejndfeaa
set_option linter.unusedSimpArgs false
set_option linter.unusedVariables false
open Go Go.RowKit

/-- The first one of k numbers from i on of which something is so. -/
def firstF (q : Int → Bool) : Nat → Int → Option Int
  | 0, _ => none
  | k + 1, i => if q i = true then some i else firstF q k (i + 1)
def fpV : Option Int → Int
  | some i => i
  | none => 0
def fpE : Option Int → Int
  | some _ => 0
  | none => 3
theorem firstF_some {q : Int → Bool} : ∀ {k : Nat} {i j : Int}, firstF q k i = some j → i ≤ j ∧ j < i + k ∧ q j = true ∧ ∀ m, i ≤ m → m < j → q m = false
  | 0, i, j, h => by simp [firstF] at h
  | k + 1, i, j, h => by
    unfold firstF at h
    by_cases hq : q i = true
    · rw [if_pos hq] at h
      cases h
      exact ⟨Int.le_refl _, by omega, hq, fun m h1 h2 => by omega⟩
    · rw [if_neg hq] at h
      obtain ⟨h1, h2, h3, h4⟩ := firstF_some h
      refine ⟨by omega, by omega, h3, fun m h5 h6 => ?_⟩
      by_cases e : m = i
      · subst e; simpa using hq
      · exact h4 m (by omega) h6
theorem firstF_none {q : Int → Bool} : ∀ {k : Nat} {i : Int}, firstF q k i = none → ∀ m, i ≤ m → m < i + k → q m = false
  | 0, i, _, m, h1, h2 => by omega
  | k + 1, i, h, m, h1, h2 => by
    unfold firstF at h
    by_cases hq : q i = true
    · rw [if_pos hq] at h; cases h
    · rw [if_neg hq] at h
      by_cases e : m = i
      · subst e; simpa using hq
      · exact firstF_none h m (by omega) (by omega)


set_option maxRecDepth 100000 in
set_option maxHeartbeats 3000000 in
theorem firstPool56_any (lo hi : Int) (k0 : Nat) (b0 b1 b2 : Nat) (q : Int → Bool) (w : World) (h0 : 0 ≤ lo ∧ lo ≤ 1) (h9 : hi ≤ 9999) (hk : (k0 : Int) = hi + 1 - lo)
    (hf : ∀ (V : World) (i : Int), Below w.heap.size w V → lo ≤ i → i ≤ hi → Calls Try.prog 56 #[.int .i64 i, .pointer (some ⟨b0, 0, none⟩), .pointer (some ⟨b1, 0, none⟩), .pointer (some ⟨b2, 0, none⟩)] V fun e w' => e = .returned (.bool (q i)) ∧ Below V.heap.size V w') :
    Calls Try.prog 55 #[.int .i64 lo, .int .i64 hi, .func (.func 56) #[] #[.pointer (some ⟨b0, 0, none⟩), .pointer (some ⟨b1, 0, none⟩), .pointer (some ⟨b2, 0, none⟩)]] w fun e w' => e = .returned (.tuple #[.int .i64 (fpV (firstF q k0 lo)), .int .i64 (fpE (firstF q k0 lo))]) ∧ Below w.heap.size w w' := by
  obtain ⟨r, hr⟩ : ∃ r, r = firstF q k0 lo := ⟨_, rfl⟩
  rw [← hr]
  have HR := hid hr
  have HF := hid hf
  clear hr hf
  go_enter Try.func55, Try.ntmps55
  go_wp2
  go_loopg [8] k0 (fun kx v8 wr => ∃ (i : Int) (k : Nat), v8 = .int .i64 i ∧ lo ≤ i ∧ (k : Int) = hi + 1 - i ∧ k ≤ kx ∧ Hid (r = firstF q k i) ∧ Below w.heap.size w wr)
  case atStart => exact ⟨lo, k0, rfl, Int.le_refl _, hk, Nat.le_refl _, HR, Below.refl _ _⟩
  case round =>
    clear HR
    obtain ⟨i, k, rfl, hi0, hki, hkx, HR, hb⟩ := hrel
    rcases k with _ | k
    · have hle : ¬ i ≤ hi := by omega
      have hR := hid (show r = none from HR.out)
      clear HR
      go_wp2
      go_ret2
      exact ⟨by rw [hR.out]; rfl, hb⟩
    · have hle : i ≤ hi := by omega
      have hc := HF.out wr i hb hi0 hle
      have ew : IntKind.i64.wrap (i + 1) = i + 1 := IntWalk.i64_in _ (by omega)
      have hst : r = if q i = true then some i else firstF q k (i + 1) := HR.out
      cases hq : q i
      · rw [hq] at hc hst
        have hR := hid (show r = firstF q k (i + 1) from hst)
        clear hst HR hq
        go_wp2_with (go_at_call 56; refine hc.mono ?_; rintro e w' ⟨rfl, hb1⟩)
        have hb2 := hb.trans (hb1.mono hb.size)
        clear hb1
        go_roundg k
        case measure => omega
        case rel => exact ⟨i + 1, k, rfl, by omega, by omega, Nat.le_refl _, hR, hb2⟩
      · rw [hq] at hc hst
        have hR := hid (show r = some i from hst)
        clear hst HR hq
        go_wp2_with (go_at_call 56; refine hc.mono ?_; rintro e w' ⟨rfl, hb1⟩)
        have hb2 := hb.trans (hb1.mono hb.size)
        clear hb1
        go_wp2
        go_ret2
        exact ⟨by rw [hR.out]; rfl, hb2⟩

set_option maxRecDepth 100000 in
set_option maxHeartbeats 3000000 in
theorem firstPool57_any (lo hi : Int) (k0 : Nat) (b0 b1 : Nat) (q : Int → Bool) (w : World) (h0 : 0 ≤ lo ∧ lo ≤ 1) (h9 : hi ≤ 9999) (hk : (k0 : Int) = hi + 1 - lo)
    (hf : ∀ (V : World) (i : Int), Below w.heap.size w V → lo ≤ i → i ≤ hi → Calls Try.prog 57 #[.int .i64 i, .pointer (some ⟨b0, 0, none⟩), .pointer (some ⟨b1, 0, none⟩)] V fun e w' => e = .returned (.bool (q i)) ∧ Below V.heap.size V w') :
    Calls Try.prog 55 #[.int .i64 lo, .int .i64 hi, .func (.func 57) #[] #[.pointer (some ⟨b0, 0, none⟩), .pointer (some ⟨b1, 0, none⟩)]] w fun e w' => e = .returned (.tuple #[.int .i64 (fpV (firstF q k0 lo)), .int .i64 (fpE (firstF q k0 lo))]) ∧ Below w.heap.size w w' := by
  obtain ⟨r, hr⟩ : ∃ r, r = firstF q k0 lo := ⟨_, rfl⟩
  rw [← hr]
  have HR := hid hr
  have HF := hid hf
  clear hr hf
  go_enter Try.func55, Try.ntmps55
  go_wp2
  go_loopg [8] k0 (fun kx v8 wr => ∃ (i : Int) (k : Nat), v8 = .int .i64 i ∧ lo ≤ i ∧ (k : Int) = hi + 1 - i ∧ k ≤ kx ∧ Hid (r = firstF q k i) ∧ Below w.heap.size w wr)
  case atStart => exact ⟨lo, k0, rfl, Int.le_refl _, hk, Nat.le_refl _, HR, Below.refl _ _⟩
  case round =>
    clear HR
    obtain ⟨i, k, rfl, hi0, hki, hkx, HR, hb⟩ := hrel
    rcases k with _ | k
    · have hle : ¬ i ≤ hi := by omega
      have hR := hid (show r = none from HR.out)
      clear HR
      go_wp2
      go_ret2
      exact ⟨by rw [hR.out]; rfl, hb⟩
    · have hle : i ≤ hi := by omega
      have hc := HF.out wr i hb hi0 hle
      have ew : IntKind.i64.wrap (i + 1) = i + 1 := IntWalk.i64_in _ (by omega)
      have hst : r = if q i = true then some i else firstF q k (i + 1) := HR.out
      cases hq : q i
      · rw [hq] at hc hst
        have hR := hid (show r = firstF q k (i + 1) from hst)
        clear hst HR hq
        go_wp2_with (go_at_call 57; refine hc.mono ?_; rintro e w' ⟨rfl, hb1⟩)
        have hb2 := hb.trans (hb1.mono hb.size)
        clear hb1
        go_roundg k
        case measure => omega
        case rel => exact ⟨i + 1, k, rfl, by omega, by omega, Nat.le_refl _, hR, hb2⟩
      · rw [hq] at hc hst
        have hR := hid (show r = some i from hst)
        clear hst HR hq
        go_wp2_with (go_at_call 57; refine hc.mono ?_; rintro e w' ⟨rfl, hb1⟩)
        have hb2 := hb.trans (hb1.mono hb.size)
        clear hb1
        go_wp2
        go_ret2
        exact ⟨by rw [hR.out]; rfl, hb2⟩

theorem shV_le {P : Int} {E : List Int} {A : Int} {n : Nat} (h : QOk P E A n) {i : Nat} (hi : i < n) : 0 ≤ shV P E A n (i : Nat) ∧ shV P E A n (i : Nat) ≤ 60000000000 := by
  have h1 := flV_le h hi
  have h2 := shV_rng (P := P) (E := E) (A := A) (n := n) (i : Nat)
  omega
set_option maxRecDepth 100000 in
set_option maxHeartbeats 4000000 in
theorem cl56_any (g n b0 b1 b2 : Nat) (P : Int) (E : List Int) (A : Int) (i : Nat) (cents : Int) (hQ : QOk P E A n) (hi : i < n) (w : World) (x0 : Bx w b0 #[.slice (some ⟨g, 0, none⟩) n n, .int .i64 A] 66) (x1 : Bx w b1 #[.int .i64 (i : Int)] 3) (x2 : Bx w b2 #[.int .i64 cents] 3) (y : Bx w g (vrow E) 3) :
    Calls Try.prog 56 #[.int .i64 P, .pointer (some ⟨b0, 0, none⟩), .pointer (some ⟨b1, 0, none⟩), .pointer (some ⟨b2, 0, none⟩)] w fun e w' => e = .returned (.bool (decide (cents ≤ shV P E A n (i : Nat)))) ∧ Below w.heap.size w w' := by
  have hsh := fun V h => shares_any g n P E A hQ V h
  unfold ShP at hsh
  have hget := shL_get P E A hi
  generalize shL P E A n = L at *
  obtain ⟨s, hs⟩ : ∃ s, s = shV P E A n (i : Nat) := ⟨_, rfl⟩
  rw [← hs] at hget ⊢
  obtain ⟨d, hd⟩ : ∃ d, d = decide (cents ≤ s) := ⟨_, rfl⟩
  rw [← hd]
  have hiI : (i : Int) < (n : Int) := by omega
  have hi0 : (0 : Int) ≤ (i : Int) := by omega
  clear hs hQ
  go_enter Try.func56, Try.ntmps56
  go_upto_region 1 with fail
  have hbd := (Below.refl w.heap.size w).drew
  have S0 := And.intro (x0.below hbd) (And.intro (x1.below hbd) (And.intro (x2.below hbd) (y.below hbd)))
  have hb := hbd
  clear hbd x0 x1 x2 y
  refine wp_region_head 8 (fun w' => Bx w' b0 #[.slice (some ⟨g, 0, none⟩) n n, .int .i64 A] 66 ∧ Bx w' b1 #[.int .i64 (i : Int)] 3 ∧ Bx w' b2 #[.int .i64 cents] 3 ∧ Bx w' g (vrow E) 3) (by kernel_rfl) rfl ?_
  generalize w.drew = Y0 at *
  refine HeadAt.take (i := 0) (.agg #[.slice (some ⟨g, 0, none⟩) n n, .int .i64 A]) rfl (by kernel_rfl) (.inl ⟨rfl, fun w' z => ?_⟩) S0 ?_
  · (have z0 := z.1.cell 0 rfl; have z1 := z.1.cell 1 rfl; simp [go_sem, z0, z1])
  (try simp only [Act.put, List.getElem_toArray, List.getElem_cons_succ, List.getElem_cons_zero, List.setIfInBounds_toArray, List.set_cons_succ, List.set_cons_zero])
  refine HeadAt.take (i := 1) (.int .i64 P) rfl (by kernel_rfl) (.inl ⟨rfl, fun _ _ => by simp [go_sem]⟩) S0 ?_
  (try simp only [Act.put, List.getElem_toArray, List.getElem_cons_succ, List.getElem_cons_zero, List.setIfInBounds_toArray, List.set_cons_succ, List.set_cons_zero])
  refine HeadAt.take (i := 3) (.int .i64 (i : Int)) rfl (by kernel_rfl) (.inl ⟨rfl, fun w' z => ?_⟩) S0 ?_
  · (have z0 := z.2.1.cell 0 rfl; simp [go_sem, z0])
  (try simp only [Act.put, List.getElem_toArray, List.getElem_cons_succ, List.getElem_cons_zero, List.setIfInBounds_toArray, List.set_cons_succ, List.set_cons_zero])
  refine HeadAt.take (i := 6) (.int .i64 cents) rfl (by kernel_rfl) (.inl ⟨rfl, fun w' z => ?_⟩) S0 ?_
  · (have z0 := z.2.2.1.cell 0 rfl; simp [go_sem, z0])
  (try simp only [Act.put, List.getElem_toArray, List.getElem_cons_succ, List.getElem_cons_zero, List.setIfInBounds_toArray, List.set_cons_succ, List.set_cons_zero])
  refine HeadAt.one (i := 2) rfl (by kernel_rfl) ?_
  generalize hK : Upto _ _ = K0
  (try simp only [Act.put, List.getElem_toArray, List.getElem_cons_succ, List.getElem_cons_zero, List.setIfInBounds_toArray, List.set_cons_succ, List.set_cons_zero])
  go_wp2_with fail
  refine (hsh _ S0.2.2.2).mono ?_
  rintro e V1 ⟨r, rfl, yr, hb3, hr⟩
  go_wp2_with fail
  replace S0 := And.intro (S0.1.below hb3) (And.intro (S0.2.1.below hb3) (And.intro (S0.2.2.1.below hb3) (S0.2.2.2.below hb3)))
  replace hb := hb.trans (hb3.mono hb.size)
  clear hb3 hr hsh
  subst hK
  refine ⟨S0, ?_⟩
  (try simp only [Act.put, List.getElem_toArray, List.getElem_cons_succ, List.getElem_cons_zero, List.setIfInBounds_toArray, List.set_cons_succ, List.set_cons_zero])
  refine HeadAt.take (i := 4) (.pointer (some ⟨r, i, none⟩)) rfl (by kernel_rfl) (.inl ⟨rfl, fun w' z => ?_⟩) S0 ?_
  · (simp [go_sem, hiI, hi0])
  (try simp only [Act.put, List.getElem_toArray, List.getElem_cons_succ, List.getElem_cons_zero, List.setIfInBounds_toArray, List.set_cons_succ, List.set_cons_zero])
  have k0 := yr.cell i (vrow_at hget)
  refine HeadAt.one (i := 5) rfl (by kernel_rfl) ?_
  generalize hK : Upto _ _ = K0
  (try simp only [Act.put, List.getElem_toArray, List.getElem_cons_succ, List.getElem_cons_zero, List.setIfInBounds_toArray, List.set_cons_succ, List.set_cons_zero])
  go_wp2_with fail
  subst hK
  refine ⟨S0, ?_⟩
  (try simp only [Act.put, List.getElem_toArray, List.getElem_cons_succ, List.getElem_cons_zero, List.setIfInBounds_toArray, List.set_cons_succ, List.set_cons_zero])
  refine HeadAt.take (i := 7) (.bool d) rfl (by kernel_rfl) (.inl ⟨rfl, fun w' z => ?_⟩) S0 ?_
  · (rw [hd]; simp [go_sem])
  (try simp only [Act.put, List.getElem_toArray, List.getElem_cons_succ, List.getElem_cons_zero, List.setIfInBounds_toArray, List.set_cons_succ, List.set_cons_zero])
  refine HeadAt.done (by kernel_rfl) ?_
  (try simp only [Act.put, List.drop_succ_cons, List.drop_zero, List.getElem_toArray, List.getElem_cons_succ, List.getElem_cons_zero])
  go_wp2_with fail
  refine NoPanic.normal ?_
  go_wp2
  go_ret
  exact ⟨rfl, hb⟩

set_option maxRecDepth 100000 in
set_option maxHeartbeats 4000000 in
theorem cl57_any (g n b0 b1 : Nat) (P : Int) (E : List Int) (A : Int) (i : Nat) (hQ : QOk P E A n) (hQ2 : QOk (P - 1) E A n) (hi : i < n) (w : World) (x0 : Bx w b0 #[.slice (some ⟨g, 0, none⟩) n n, .int .i64 A] 66) (x1 : Bx w b1 #[.int .i64 (i : Int)] 3) (y : Bx w g (vrow E) 3) :
    Calls Try.prog 57 #[.int .i64 P, .pointer (some ⟨b0, 0, none⟩), .pointer (some ⟨b1, 0, none⟩)] w fun e w' => e = .returned (.bool (decide (shV P E A n (i : Nat) < shV (P - 1) E A n (i : Nat)))) ∧ Below w.heap.size w w' := by
  have hsh := fun V h => shares_any g n P E A hQ V h
  have hsh2 := fun V h => shares_any g n (P - 1) E A hQ2 V h
  unfold ShP at hsh hsh2
  have hget := shL_get P E A hi
  have hget2 := shL_get (P - 1) E A hi
  have ew : IntKind.i64.wrap (P - 1) = P - 1 := IntWalk.i64_in _ (by have := hQ.p0; have := hQ.p9; omega)
  generalize shL P E A n = L at *
  generalize shL (P - 1) E A n = L2 at *
  obtain ⟨s, hs⟩ : ∃ s, s = shV P E A n (i : Nat) := ⟨_, rfl⟩
  obtain ⟨t, ht⟩ : ∃ t, t = shV (P - 1) E A n (i : Nat) := ⟨_, rfl⟩
  rw [← hs] at hget ⊢
  rw [← ht] at hget2 ⊢
  obtain ⟨d, hd⟩ : ∃ d, d = decide (s < t) := ⟨_, rfl⟩
  rw [← hd]
  have hiI : (i : Int) < (n : Int) := by omega
  have hi0 : (0 : Int) ≤ (i : Int) := by omega
  clear hs ht hQ hQ2
  go_enter Try.func57, Try.ntmps57
  go_upto_region 1 with fail
  have hbd := (Below.refl w.heap.size w).drew
  have S0 := And.intro (x0.below hbd) (And.intro (x1.below hbd) (y.below hbd))
  have hb := hbd
  clear hbd x0 x1 y
  refine wp_region_head 14 (fun w' => Bx w' b0 #[.slice (some ⟨g, 0, none⟩) n n, .int .i64 A] 66 ∧ Bx w' b1 #[.int .i64 (i : Int)] 3 ∧ Bx w' g (vrow E) 3) (by kernel_rfl) rfl ?_
  generalize w.drew = Y0 at *
  refine HeadAt.take (i := 0) (.agg #[.slice (some ⟨g, 0, none⟩) n n, .int .i64 A]) rfl (by kernel_rfl) (.inl ⟨rfl, fun w' z => ?_⟩) S0 ?_
  · (have z0 := z.1.cell 0 rfl; have z1 := z.1.cell 1 rfl; simp [go_sem, z0, z1])
  (try simp only [Act.put, List.getElem_toArray, List.getElem_cons_succ, List.getElem_cons_zero, List.setIfInBounds_toArray, List.set_cons_succ, List.set_cons_zero])
  refine HeadAt.take (i := 1) (.int .i64 P) rfl (by kernel_rfl) (.inl ⟨rfl, fun _ _ => by simp [go_sem]⟩) S0 ?_
  (try simp only [Act.put, List.getElem_toArray, List.getElem_cons_succ, List.getElem_cons_zero, List.setIfInBounds_toArray, List.set_cons_succ, List.set_cons_zero])
  refine HeadAt.take (i := 3) (.int .i64 (i : Int)) rfl (by kernel_rfl) (.inl ⟨rfl, fun w' z => ?_⟩) S0 ?_
  · (have z0 := z.2.1.cell 0 rfl; simp [go_sem, z0])
  (try simp only [Act.put, List.getElem_toArray, List.getElem_cons_succ, List.getElem_cons_zero, List.setIfInBounds_toArray, List.set_cons_succ, List.set_cons_zero])
  refine HeadAt.take (i := 6) (.agg #[.slice (some ⟨g, 0, none⟩) n n, .int .i64 A]) rfl (by kernel_rfl) (.inl ⟨rfl, fun w' z => ?_⟩) S0 ?_
  · (have z0 := z.1.cell 0 rfl; have z1 := z.1.cell 1 rfl; simp [go_sem, z0, z1])
  (try simp only [Act.put, List.getElem_toArray, List.getElem_cons_succ, List.getElem_cons_zero, List.setIfInBounds_toArray, List.set_cons_succ, List.set_cons_zero])
  refine HeadAt.take (i := 7) (.int .i64 P) rfl (by kernel_rfl) (.inl ⟨rfl, fun _ _ => by simp [go_sem]⟩) S0 ?_
  (try simp only [Act.put, List.getElem_toArray, List.getElem_cons_succ, List.getElem_cons_zero, List.setIfInBounds_toArray, List.set_cons_succ, List.set_cons_zero])
  refine HeadAt.take (i := 8) (.int .i64 (P - 1)) rfl (by kernel_rfl) (.inl ⟨rfl, fun w' z => ?_⟩) S0 ?_
  · (simp [go_sem, ew])
  (try simp only [Act.put, List.getElem_toArray, List.getElem_cons_succ, List.getElem_cons_zero, List.setIfInBounds_toArray, List.set_cons_succ, List.set_cons_zero])
  refine HeadAt.take (i := 10) (.int .i64 (i : Int)) rfl (by kernel_rfl) (.inl ⟨rfl, fun w' z => ?_⟩) S0 ?_
  · (have z0 := z.2.1.cell 0 rfl; simp [go_sem, z0])
  (try simp only [Act.put, List.getElem_toArray, List.getElem_cons_succ, List.getElem_cons_zero, List.setIfInBounds_toArray, List.set_cons_succ, List.set_cons_zero])
  refine HeadAt.one (i := 2) rfl (by kernel_rfl) ?_
  generalize hK : Upto _ _ = K0
  (try simp only [Act.put, List.getElem_toArray, List.getElem_cons_succ, List.getElem_cons_zero, List.setIfInBounds_toArray, List.set_cons_succ, List.set_cons_zero])
  go_wp2_with fail
  refine (hsh _ S0.2.2).mono ?_
  rintro e V2 ⟨r, rfl, yr, hb3, hr⟩
  go_wp2_with fail
  replace S0 := And.intro (S0.1.below hb3) (And.intro (S0.2.1.below hb3) (S0.2.2.below hb3))
  replace hb := hb.trans (hb3.mono hb.size)
  clear hb3 hr hsh
  subst hK
  refine ⟨S0, ?_⟩
  (try simp only [Act.put, List.getElem_toArray, List.getElem_cons_succ, List.getElem_cons_zero, List.setIfInBounds_toArray, List.set_cons_succ, List.set_cons_zero])
  refine HeadAt.take (i := 4) (.pointer (some ⟨r, i, none⟩)) rfl (by kernel_rfl) (.inl ⟨rfl, fun w' z => ?_⟩) S0 ?_
  · (simp [go_sem, hiI, hi0])
  (try simp only [Act.put, List.getElem_toArray, List.getElem_cons_succ, List.getElem_cons_zero, List.setIfInBounds_toArray, List.set_cons_succ, List.set_cons_zero])
  refine HeadAt.two (i := 5) (j := 9) rfl rfl (by kernel_rfl) ?_ ?_
  · skip
    generalize hK : Upto _ _ = K0
    (try simp only [Act.put, List.getElem_toArray, List.getElem_cons_succ, List.getElem_cons_zero, List.setIfInBounds_toArray, List.set_cons_succ, List.set_cons_zero])
    have k0 := yr.cell i (vrow_at hget)
    go_wp2_with fail
    subst hK
    clear k0
    refine ⟨S0, ?_⟩
    (try simp only [Act.put, List.getElem_toArray, List.getElem_cons_succ, List.getElem_cons_zero, List.setIfInBounds_toArray, List.set_cons_succ, List.set_cons_zero])
    refine HeadAt.one (i := 9) rfl (by kernel_rfl) ?_
    generalize hK : Upto _ _ = K0
    (try simp only [Act.put, List.getElem_toArray, List.getElem_cons_succ, List.getElem_cons_zero, List.setIfInBounds_toArray, List.set_cons_succ, List.set_cons_zero])
    go_wp2_with fail
    refine (hsh2 _ S0.2.2).mono ?_
    rintro e V3 ⟨r2, rfl, yr2, hb3, hr⟩
    go_wp2_with fail
    replace S0 := And.intro (S0.1.below hb3) (And.intro (S0.2.1.below hb3) (S0.2.2.below hb3))
    replace hb := hb.trans (hb3.mono hb.size)
    clear hb3 hr hsh2
    subst hK
    refine ⟨S0, ?_⟩
    (try simp only [Act.put, List.getElem_toArray, List.getElem_cons_succ, List.getElem_cons_zero, List.setIfInBounds_toArray, List.set_cons_succ, List.set_cons_zero])
    refine HeadAt.take (i := 11) (.pointer (some ⟨r2, i, none⟩)) rfl (by kernel_rfl) (.inl ⟨rfl, fun w' z => ?_⟩) S0 ?_
    · (simp [go_sem, hiI, hi0])
    (try simp only [Act.put, List.getElem_toArray, List.getElem_cons_succ, List.getElem_cons_zero, List.setIfInBounds_toArray, List.set_cons_succ, List.set_cons_zero])
    refine HeadAt.one (i := 12) rfl (by kernel_rfl) ?_
    generalize hK : Upto _ _ = K0
    (try simp only [Act.put, List.getElem_toArray, List.getElem_cons_succ, List.getElem_cons_zero, List.setIfInBounds_toArray, List.set_cons_succ, List.set_cons_zero])
    have k0 := yr2.cell i (vrow_at hget2)
    go_wp2_with fail
    subst hK
    clear k0
    refine ⟨S0, ?_⟩
    (try simp only [Act.put, List.getElem_toArray, List.getElem_cons_succ, List.getElem_cons_zero, List.setIfInBounds_toArray, List.set_cons_succ, List.set_cons_zero])
    refine HeadAt.take (i := 13) (.bool d) rfl (by kernel_rfl) (.inl ⟨rfl, fun w' z => ?_⟩) S0 ?_
    · (rw [hd]; simp [go_sem])
    (try simp only [Act.put, List.getElem_toArray, List.getElem_cons_succ, List.getElem_cons_zero, List.setIfInBounds_toArray, List.set_cons_succ, List.set_cons_zero])
    refine HeadAt.done (by kernel_rfl) ?_
    (try simp only [Act.put, List.drop_succ_cons, List.drop_zero, List.getElem_toArray, List.getElem_cons_succ, List.getElem_cons_zero])
    go_wp2_with fail
    refine NoPanic.normal ?_
    go_wp2
    go_ret
    exact ⟨rfl, hb⟩
  · skip
    generalize hK : Upto _ _ = K0
    (try simp only [Act.put, List.getElem_toArray, List.getElem_cons_succ, List.getElem_cons_zero, List.setIfInBounds_toArray, List.set_cons_succ, List.set_cons_zero])
    go_wp2_with fail
    refine (hsh2 _ S0.2.2).mono ?_
    rintro e V4 ⟨r2, rfl, yr2, hb3, hr⟩
    go_wp2_with fail
    replace S0 := And.intro (S0.1.below hb3) (And.intro (S0.2.1.below hb3) (S0.2.2.below hb3))
    replace hb := hb.trans (hb3.mono hb.size)
    replace yr := yr.below hb3
    clear hb3 hr hsh2
    subst hK
    refine ⟨S0, ?_⟩
    (try simp only [Act.put, List.getElem_toArray, List.getElem_cons_succ, List.getElem_cons_zero, List.setIfInBounds_toArray, List.set_cons_succ, List.set_cons_zero])
    refine HeadAt.take (i := 11) (.pointer (some ⟨r2, i, none⟩)) rfl (by kernel_rfl) (.inl ⟨rfl, fun w' z => ?_⟩) S0 ?_
    · (simp [go_sem, hiI, hi0])
    (try simp only [Act.put, List.getElem_toArray, List.getElem_cons_succ, List.getElem_cons_zero, List.setIfInBounds_toArray, List.set_cons_succ, List.set_cons_zero])
    refine HeadAt.two (i := 5) (j := 12) rfl rfl (by kernel_rfl) ?_ ?_
    · skip
      generalize hK : Upto _ _ = K0
      (try simp only [Act.put, List.getElem_toArray, List.getElem_cons_succ, List.getElem_cons_zero, List.setIfInBounds_toArray, List.set_cons_succ, List.set_cons_zero])
      have k0 := yr.cell i (vrow_at hget)
      go_wp2_with fail
      subst hK
      clear k0
      refine ⟨S0, ?_⟩
      (try simp only [Act.put, List.getElem_toArray, List.getElem_cons_succ, List.getElem_cons_zero, List.setIfInBounds_toArray, List.set_cons_succ, List.set_cons_zero])
      refine HeadAt.one (i := 12) rfl (by kernel_rfl) ?_
      generalize hK : Upto _ _ = K0
      (try simp only [Act.put, List.getElem_toArray, List.getElem_cons_succ, List.getElem_cons_zero, List.setIfInBounds_toArray, List.set_cons_succ, List.set_cons_zero])
      have k0 := yr2.cell i (vrow_at hget2)
      go_wp2_with fail
      subst hK
      clear k0
      refine ⟨S0, ?_⟩
      (try simp only [Act.put, List.getElem_toArray, List.getElem_cons_succ, List.getElem_cons_zero, List.setIfInBounds_toArray, List.set_cons_succ, List.set_cons_zero])
      refine HeadAt.take (i := 13) (.bool d) rfl (by kernel_rfl) (.inl ⟨rfl, fun w' z => ?_⟩) S0 ?_
      · (rw [hd]; simp [go_sem])
      (try simp only [Act.put, List.getElem_toArray, List.getElem_cons_succ, List.getElem_cons_zero, List.setIfInBounds_toArray, List.set_cons_succ, List.set_cons_zero])
      refine HeadAt.done (by kernel_rfl) ?_
      (try simp only [Act.put, List.drop_succ_cons, List.drop_zero, List.getElem_toArray, List.getElem_cons_succ, List.getElem_cons_zero])
      go_wp2_with fail
      refine NoPanic.normal ?_
      go_wp2
      go_ret
      exact ⟨rfl, hb⟩
    · skip
      generalize hK : Upto _ _ = K0
      (try simp only [Act.put, List.getElem_toArray, List.getElem_cons_succ, List.getElem_cons_zero, List.setIfInBounds_toArray, List.set_cons_succ, List.set_cons_zero])
      have k0 := yr2.cell i (vrow_at hget2)
      go_wp2_with fail
      subst hK
      clear k0
      refine ⟨S0, ?_⟩
      (try simp only [Act.put, List.getElem_toArray, List.getElem_cons_succ, List.getElem_cons_zero, List.setIfInBounds_toArray, List.set_cons_succ, List.set_cons_zero])
      refine HeadAt.one (i := 5) rfl (by kernel_rfl) ?_
      generalize hK : Upto _ _ = K0
      (try simp only [Act.put, List.getElem_toArray, List.getElem_cons_succ, List.getElem_cons_zero, List.setIfInBounds_toArray, List.set_cons_succ, List.set_cons_zero])
      have k0 := yr.cell i (vrow_at hget)
      go_wp2_with fail
      subst hK
      clear k0
      refine ⟨S0, ?_⟩
      (try simp only [Act.put, List.getElem_toArray, List.getElem_cons_succ, List.getElem_cons_zero, List.setIfInBounds_toArray, List.set_cons_succ, List.set_cons_zero])
      refine HeadAt.take (i := 13) (.bool d) rfl (by kernel_rfl) (.inl ⟨rfl, fun w' z => ?_⟩) S0 ?_
      · (rw [hd]; simp [go_sem])
      (try simp only [Act.put, List.getElem_toArray, List.getElem_cons_succ, List.getElem_cons_zero, List.setIfInBounds_toArray, List.set_cons_succ, List.set_cons_zero])
      refine HeadAt.done (by kernel_rfl) ?_
      (try simp only [Act.put, List.drop_succ_cons, List.drop_zero, List.getElem_toArray, List.getElem_cons_succ, List.getElem_cons_zero])
      go_wp2_with fail
      refine NoPanic.normal ?_
      go_wp2
      go_ret
      exact ⟨rfl, hb⟩
end Go.Proofs.Ytakodllejndfeaa
