import Derived.Test.YthgjjlkdekfdbaaT8
/-! Repaid and Enough. -/
namespace Go.Proofs.Ythgjjlkdekfdbaa
set_option linter.unusedSimpArgs false
set_option linter.unusedVariables false
open Go Go.RowKit

/-- The first number below n of which p is so. -/
def firstA (p : Nat → Bool) (n : Nat) : Option Nat := (List.range n).find? p
def firstR (o : Option Nat) : Int × Int := match o with | some k => ((k : Int), 0) | none => (0, 3)
theorem first_some {p : Nat → Bool} {n k : Nat} (hk : k < n) (hp : p k = true) (hlt : ∀ j, j < k → p j = false) : firstR (firstA p n) = ((k : Int), 0) := by
  have : firstA p n = some k := by
    unfold firstA
    rw [List.find?_range_eq_some]
    exact ⟨hp, by simpa using hk, fun j hj => by simp [hlt j hj]⟩
  rw [this]; rfl
theorem first_none {p : Nat → Bool} {n : Nat} (h : ∀ j, j < n → p j = false) : firstR (firstA p n) = (0, 3) := by
  have : firstA p n = none := by
    unfold firstA
    rw [List.find?_range_eq_none]
    exact fun j hj => by simp [h j hj]
  rw [this]; rfl
/-- What is owed after some weeks. -/
def loanK (L : Int) (cs : List Cl) (t : Int) : Nat → Int
  | 0 => L
  | k + 1 => (settledW (loanK L cs t k) cs t).owed
theorem loanK_rng {cs : List Cl} {L t : Int} (h : Ok cs L t) : ∀ k, 0 ≤ loanK L cs t k ∧ loanK L cs t k ≤ L
  | 0 => ⟨h.L.1, Int.le_refl _⟩
  | k + 1 => by
    obtain ⟨h1, h2⟩ := loanK_rng h k
    have hL := h.L
    have ho : Ok cs (loanK L cs t k) t := ⟨h.cs, by omega, h.t⟩
    have := ho.fin
    have a1 := this.owed; have a2 := this.loan; have a3 := this.rp
    show 0 ≤ (settledW (loanK L cs t k) cs t).owed ∧ (settledW (loanK L cs t k) cs t).owed ≤ L
    omega
theorem loanK_ok {cs : List Cl} {L t : Int} (h : Ok cs L t) (k : Nat) : Ok cs (loanK L cs t k) t := by
  have := loanK_rng h k
  have hL := h.L
  exact ⟨h.cs, by omega, h.t⟩
def repP (L : Int) (cs : List Cl) (t : Int) (k : Nat) : Bool := loanK L cs t k == 0
/-- In how many weeks the loan is paid back. -/
def repR (L : Int) (cs : List Cl) (t : Int) : Int × Int := firstR (firstA (repP L cs t) 1001)
def enP (L : Int) (cs : List Cl) (g : Int) (k : Nat) : Bool := decide (g ≤ (settledW L cs k).ow)
/-- The least takings of which the owner gets enough. -/
def enR (L : Int) (cs : List Cl) (g : Int) : Int × Int := firstR (firstA (enP L cs g) 10000)


set_option maxRecDepth 100000 in
set_option maxHeartbeats 2000000 in
theorem Repaid_bad (ac : Option Addr) (cc : Nat) (cs : List Cl) (L : Int) (t : Int) (w : World) (hX : Clz w ac cs) (r : Int) (hr : r = askE cs L (cenB t)) (h0 : r ≠ 0) : Calls Try.prog 34 #[.agg #[.slice ac cs.length cc, .int .i64 L], .int .i64 t] w fun e w' => e = .returned (.tuple #[.int .i64 0, .int .i64 r]) ∧ Below w.heap.size w w' := by
  obtain ⟨W, hW, hb, hs, x0⟩ := boxes1 w #[.slice ac cs.length cc, .int .i64 L] 24
  have hX1 := hX.below hb (Nat.le_refl _)
  have h1 := fun (q : Ext W) => (isCents_any t q.w).mono (fun e w' h => And.intro h.1 (Below.of_eq (B := q.w.heap.size) h.2))
  have h2 := fun (q : Ext W) => check_any ac cc cs L (cenB t) q.w (hX1.below q.below (Nat.le_refl _))
  rw [← hr] at h2
  generalize cenB t = o at *
  have c0 := x0.ext 0 rfl; have c1 := x0.ext 1 rfl
  clear hr hX hX1 x0 hs
  go_enter Try.func34, Try.ntmps34
  go_upto_region 1 with fail
  clear hW
  refine wp_region_ext_lit (by kernel_rfl) (by kernel_rfl) ?_
  repeat (quiet_step (first | (go_at_call 51; exact quiet_ext (h1 _)) | (go_at_call 50; exact quiet_ext (h2 _))))
  refine wpQuiet_nil ?_
  intro _ hw'
  obtain ⟨tt, rfl⟩ := hw'
  have hbt := tt.below
  clear c0 c1 h1 h2
  go_wp2
  go_ret2
  exact ⟨rfl, hb.trans (hbt.mono hb.size)⟩

set_option maxRecDepth 100000 in
set_option maxHeartbeats 2000000 in
theorem Enough_bad (ac : Option Addr) (cc : Nat) (cs : List Cl) (L : Int) (t : Int) (w : World) (hX : Clz w ac cs) (r : Int) (hr : r = askE cs L (cenB t)) (h0 : r ≠ 0) : Calls Try.prog 36 #[.agg #[.slice ac cs.length cc, .int .i64 L], .int .i64 t] w fun e w' => e = .returned (.tuple #[.int .i64 0, .int .i64 r]) ∧ Below w.heap.size w w' := by
  obtain ⟨W, hW, hb, hs, x0⟩ := boxes1 w #[.slice ac cs.length cc, .int .i64 L] 24
  have hX1 := hX.below hb (Nat.le_refl _)
  have h1 := fun (q : Ext W) => (isCents_any t q.w).mono (fun e w' h => And.intro h.1 (Below.of_eq (B := q.w.heap.size) h.2))
  have h2 := fun (q : Ext W) => check_any ac cc cs L (cenB t) q.w (hX1.below q.below (Nat.le_refl _))
  rw [← hr] at h2
  generalize cenB t = o at *
  have c0 := x0.ext 0 rfl; have c1 := x0.ext 1 rfl
  clear hr hX hX1 x0 hs
  go_enter Try.func36, Try.ntmps36
  go_upto_region 1 with fail
  clear hW
  refine wp_region_ext_lit (by kernel_rfl) (by kernel_rfl) ?_
  repeat (quiet_step (first | (go_at_call 51; exact quiet_ext (h1 _)) | (go_at_call 50; exact quiet_ext (h2 _))))
  refine wpQuiet_nil ?_
  intro _ hw'
  obtain ⟨tt, rfl⟩ := hw'
  have hbt := tt.below
  clear c0 c1 h1 h2
  go_wp2
  go_ret2
  exact ⟨rfl, hb.trans (hbt.mono hb.size)⟩

set_option maxRecDepth 100000 in
set_option maxHeartbeats 4000000 in
theorem Repaid_ok (ac : Option Addr) (cc : Nat) (cs : List Cl) (L : Int) (t : Int) (w : World) (hX : Clz w ac cs) (h : shB cs L = true) (ht : cenB t = true) (R : Int × Int) (hR : R = repR L cs t) : Calls Try.prog 34 #[.agg #[.slice ac cs.length cc, .int .i64 L], .int .i64 t] w fun e w' => e = .returned (.tuple #[.int .i64 R.1, .int .i64 R.2]) ∧ Below w.heap.size w w' := by
  obtain ⟨W, hW, hb, hs, x0⟩ := boxes1 w #[.slice ac cs.length cc, .int .i64 L] 24
  have hX1 := hX.below hb (Nat.le_refl _)
  have h1 := fun (q : Ext W) => (isCents_any t q.w).mono (fun e w' h => And.intro h.1 (Below.of_eq (B := q.w.heap.size) h.2))
  have h2 := fun (q : Ext W) => check_any ac cc cs L (cenB t) q.w (hX1.below q.below (Nat.le_refl _))
  have ha : askE cs L (cenB t) = 0 := by unfold askE; rw [h, ht]; rfl
  have ho := Ok.of h ht
  rw [ha] at h2
  generalize cenB t = o at *
  have hsome := fun k hk hp hlt => first_some (p := repP L cs t) (n := 1001) (k := k) hk hp hlt
  have hnone := fun hh => first_none (p := repP L cs t) (n := 1001) hh
  have hR' : R = firstR (firstA (repP L cs t) 1001) := hR
  rw [← hR'] at hsome hnone
  have hset := fun (k : Nat) (V : World) hh => settled_any ac cc cs (loanK L cs t k) t (loanK_ok ho k) V hh _ rfl
  have hsu : ∀ k, loanK L cs t (k + 1) = (settledW (loanK L cs t k) cs t).owed := fun _ => rfl
  have hp0 : ∀ k, repP L cs t k = (loanK L cs t k == 0) := fun _ => rfl
  have hL0 : loanK L cs t 0 = L := rfl
  generalize repP L cs t = p at *
  obtain ⟨lo, hlo⟩ : ∃ lo, lo = loanK L cs t := ⟨_, rfl⟩
  rw [← hlo] at hset hsu hp0 hL0
  have hset1 : ∀ (k : Nat) (V : World), Clz V ac cs → ∃ u : Wk, u.owed = lo (k + 1) ∧ Calls Try.prog 52 #[.agg #[.slice ac cs.length cc, .int .i64 (lo k)], .int .i64 t] V fun e w' => e = .returned (.agg #[.int .i64 u.op, .int .i64 u.ow, .int .i64 u.rp, .int .i64 u.rest, .int .i64 u.owed]) ∧ Below V.heap.size V w' := fun k V hh => ⟨_, (hsu k).symm, hset k V hh⟩
  have c0 := x0.ext 0 rfl; have c1 := x0.ext 1 rfl
  have hX0 := hX
  clear hR hR' hX h ht hs ha hset hsu hlo ho
  go_enter Try.func34, Try.ntmps34
  go_upto_region 1 with fail
  clear hW
  refine wp_region_ext_lit (by kernel_rfl) (by kernel_rfl) ?_
  repeat (quiet_step (first | (go_at_call 51; exact quiet_ext (h1 _)) | (go_at_call 50; exact quiet_ext (h2 _))))
  refine wpQuiet_nil ?_
  intro _ hw'
  obtain ⟨tt, rfl⟩ := hw'
  have hbt := tt.below
  clear c0 c1 h1 h2
  replace x0 := x0.below hbt
  replace hb := hb.trans (hbt.mono hb.size)
  clear hbt hX1
  generalize tt.w = V2 at *
  rw [← hL0] at x0
  clear hL0
  go_wp2
  go_loopw [7, 15] (fun v7 v15 wr => ∃ k : Nat, k ≤ 1001 ∧ v15 = .int .i64 (k : Int) ∧ Hid (∀ j, j < k → p j = false) ∧ Bx wr w.heap.size #[.slice ac cs.length cc, .int .i64 (lo k)] 24 ∧ Below w.heap.size w wr) (fun _ v15 _ => 1001 - (intOf v15).toNat)
  case atStart => exact ⟨0, Nat.zero_le _, rfl, hid (fun j hj => by omega), x0, hb⟩
  case round =>
    clear x0 hb
    obtain ⟨k, hk, rfl, HP, x0, hb⟩ := hrel
    by_cases hlt : k < 1001
    · have hkI : (k : Int) < 1001 := by omega
      have hpk := hp0 k
      have c0 := x0.cell 0 rfl; have c1 := x0.cell 1 rfl
      by_cases hz : lo k = 0
      · have hpt : p k = true := by rw [hpk, hz]; rfl
        have HR := hid (hsome k hlt hpt HP.out)
        rw [hz] at c1 x0
        clear hpt hpk hsome hnone HP hset1
        go_wp2
        go_ret2
        exact ⟨by rw [HR.out]; rfl, hb⟩
      · have hpf : p k = false := by rw [hpk]; simpa using hz
        have HP2 := hid (show ∀ j, j < k + 1 → p j = false from fun j hj => by
          rcases Nat.lt_succ_iff_lt_or_eq.1 hj with h | h
          · exact HP.out j h
          · rw [h]; exact hpf)
        have hzI : (lo k == 0) = false := by simpa using hz
        obtain ⟨u, hu, hst⟩ := hset1 k wr (hX0.below hb (Nat.le_refl _))
        have HU := hid hu
        have hf2 := fun W => (week_f u.op u.ow u.rp u.rest u.owed W).2
        clear hpf hpk hsome hnone HP hset1 hp0 hu
        obtain ⟨m, hm⟩ : ∃ m, m = lo k := ⟨_, rfl⟩
        rw [← hm] at c1 x0 hzI hz hst
        clear hm
        go_wp2_with fail
        refine hst.mono ?_
        rintro e V1 ⟨rfl, hb1⟩
        have y0 := x0.below hb1
        have y3 := hb.trans (hb1.mono hb.size)
        clear c0 c1 x0 hb hb1 hst
        have c0 := y0.cell 0 rfl; have c1 := y0.cell 1 rfl
        have f0 := y0.free 0; have f1 := y0.free 1
        have z0 := y0.put2_1 (.int .i64 u.owed)
        have z3 := y3.setCell (p := ⟨w.heap.size, 1, none⟩) (Nat.le_refl _) (.int .i64 u.owed)
        have HZ := hid (And.intro z0 z3)
        clear z0 z3 y0 y3
        go_wp2
        obtain ⟨z0, z3⟩ := HZ.out
        go_roundw
        case rel => exact ⟨k + 1, by omega, by simp, HP2, by rw [← HU.out]; exact z0, z3⟩
        case measure => simp [intOf]; omega
    · have hk1 : k = 1001 := by omega
      have HR := hid (hnone (by rw [← hk1]; exact HP.out))
      have hkI : ¬ (k : Int) < 1001 := by omega
      clear hsome hnone HP hset1 hp0 hk1
      go_wp2
      go_ret2
      exact ⟨by rw [HR.out]; rfl, hb⟩

set_option maxRecDepth 100000 in
set_option maxHeartbeats 4000000 in
theorem Enough_ok (ac : Option Addr) (cc : Nat) (cs : List Cl) (L : Int) (g : Int) (w : World) (hX : Clz w ac cs) (h : shB cs L = true) (hg : cenB g = true) (R : Int × Int) (hR : R = enR L cs g) : Calls Try.prog 36 #[.agg #[.slice ac cs.length cc, .int .i64 L], .int .i64 g] w fun e w' => e = .returned (.tuple #[.int .i64 R.1, .int .i64 R.2]) ∧ Below w.heap.size w w' := by
  obtain ⟨W, hW, hb, hs, x0⟩ := boxes1 w #[.slice ac cs.length cc, .int .i64 L] 24
  have hX1 := hX.below hb (Nat.le_refl _)
  have h1 := fun (q : Ext W) => (isCents_any g q.w).mono (fun e w' h => And.intro h.1 (Below.of_eq (B := q.w.heap.size) h.2))
  have h2 := fun (q : Ext W) => check_any ac cc cs L (cenB g) q.w (hX1.below q.below (Nat.le_refl _))
  have ha : askE cs L (cenB g) = 0 := by unfold askE; rw [h, hg]; rfl
  rw [ha] at h2
  have hok : ∀ k : Nat, k < 10000 → Ok cs L (k : Int) := fun k hk => Ok.of h (by rw [cenB_iff]; omega)
  generalize cenB g = o at *
  have hsome := fun k hk hp hlt => first_some (p := enP L cs g) (n := 10000) (k := k) hk hp hlt
  have hnone := fun hh => first_none (p := enP L cs g) (n := 10000) hh
  have hR' : R = firstR (firstA (enP L cs g) 10000) := hR
  rw [← hR'] at hsome hnone
  have hset1 : ∀ (k : Nat) (V : World), k < 10000 → Clz V ac cs → ∃ u : Wk, enP L cs g k = decide (g ≤ u.ow) ∧ Calls Try.prog 52 #[.agg #[.slice ac cs.length cc, .int .i64 L], .int .i64 (k : Int)] V fun e w' => e = .returned (.agg #[.int .i64 u.op, .int .i64 u.ow, .int .i64 u.rp, .int .i64 u.rest, .int .i64 u.owed]) ∧ Below V.heap.size V w' := fun k V hk hh => ⟨_, rfl, settled_any ac cc cs L k (hok k hk) V hh _ rfl⟩
  generalize enP L cs g = p at *
  have c0 := x0.ext 0 rfl; have c1 := x0.ext 1 rfl
  have hX0 := hX
  clear hR hR' hX h hg hs ha hok
  go_enter Try.func36, Try.ntmps36
  go_upto_region 1 with fail
  clear hW
  refine wp_region_ext_lit (by kernel_rfl) (by kernel_rfl) ?_
  repeat (quiet_step (first | (go_at_call 51; exact quiet_ext (h1 _)) | (go_at_call 50; exact quiet_ext (h2 _))))
  refine wpQuiet_nil ?_
  intro _ hw'
  obtain ⟨tt, rfl⟩ := hw'
  have hbt := tt.below
  clear c0 c1 h1 h2
  replace x0 := x0.below hbt
  replace hb := hb.trans (hbt.mono hb.size)
  clear hbt hX1
  generalize tt.w = V2 at *
  go_wp2
  go_loopw [7, 15] (fun v7 v15 wr => ∃ k : Nat, k ≤ 10000 ∧ v15 = .int .i64 (k : Int) ∧ Hid (∀ j, j < k → p j = false) ∧ Bx wr w.heap.size #[.slice ac cs.length cc, .int .i64 L] 24 ∧ Below w.heap.size w wr) (fun _ v15 _ => 10000 - (intOf v15).toNat)
  case atStart => exact ⟨0, Nat.zero_le _, rfl, hid (fun j hj => by omega), x0, hb⟩
  case round =>
    clear x0 hb
    obtain ⟨k, hk, rfl, HP, x0, hb⟩ := hrel
    by_cases hlt : k < 10000
    · have hkI : (k : Int) < 10000 := by omega
      obtain ⟨u, hu, hst⟩ := hset1 k wr hlt (hX0.below hb (Nat.le_refl _))
      have hf0 := fun W => (week_f u.op u.ow u.rp u.rest u.owed W).1
      have hf1 := split_f u.op u.ow u.rp
      have c0 := x0.cell 0 rfl; have c1 := x0.cell 1 rfl
      by_cases hz : g ≤ u.ow
      · have hpt : p k = true := by rw [hu]; simpa using hz
        have HR := hid (hsome k hlt hpt HP.out)
        clear hpt hu hsome hnone HP hset1
        go_wp2_with fail
        refine hst.mono ?_
        rintro e V1 ⟨rfl, hb1⟩
        replace hb := hb.trans (hb1.mono hb.size)
        clear c0 c1 x0 hb1 hst
        go_wp2
        go_ret2
        exact ⟨by rw [HR.out]; rfl, hb⟩
      · have hpf : p k = false := by rw [hu]; simpa using hz
        have HP2 := hid (show ∀ j, j < k + 1 → p j = false from fun j hj => by
          rcases Nat.lt_succ_iff_lt_or_eq.1 hj with h | h
          · exact HP.out j h
          · rw [h]; exact hpf)
        have hzI : u.ow < g := by omega
        clear hpf hu hsome hnone HP hset1
        go_wp2_with fail
        refine hst.mono ?_
        rintro e V1 ⟨rfl, hb1⟩
        replace hb := hb.trans (hb1.mono hb.size)
        replace x0 := x0.below hb1
        clear c0 c1 hb1 hst
        go_wp2
        go_roundw
        case rel => exact ⟨k + 1, by omega, by simp, HP2, x0, hb⟩
        case measure => simp [intOf]; omega
    · have hk1 : k = 10000 := by omega
      have HR := hid (hnone (by rw [← hk1]; exact HP.out))
      have hkI : ¬ (k : Int) < 10000 := by omega
      clear hsome hnone HP hset1 hk1
      go_wp2
      go_ret2
      exact ⟨by rw [HR.out]; rfl, hb⟩
end Go.Proofs.Ythgjjlkdekfdbaa
