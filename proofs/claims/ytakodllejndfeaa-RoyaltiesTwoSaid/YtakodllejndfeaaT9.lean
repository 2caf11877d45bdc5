import Derived.Test.YtakodllejndfeaaT8
/-! The shares of a pool. -/
namespace Go.Proofs.Ytakodllejndfeaa
set_option linter.unusedSimpArgs false
set_option linter.unusedVariables false
open Go Go.RowKit

def flK (P : Int) (E : List Int) (A : Int) (n k : Nat) : List Int := (List.range k).map (fun i : Nat => flV P E A (i : Nat)) ++ List.replicate (n - k) 0
theorem flK_set (P : Int) (E : List Int) (A : Int) (n k : Nat) (hk : k < n) : (flK P E A n k).set k (flV P E A (k : Nat)) = flK P E A n (k + 1) := by
  unfold flK
  have e : n - k = (n - (k + 1)) + 1 := by omega
  rw [e, List.replicate_succ, List.range_succ, List.map_append, List.append_assoc]
  rw [List.set_append_right _ _ (by simp)]
  simp
theorem flK_get (P : Int) (E : List Int) (A : Int) (n k : Nat) (hk : k < n) : (flK P E A n k)[k]? = some 0 := by
  unfold flK
  rw [List.getElem?_append_right (by simp), List.length_map, List.length_range, Nat.sub_self, List.getElem?_replicate, if_pos (by omega)]
theorem flK_end (P : Int) (E : List Int) (A : Int) (n : Nat) : flK P E A n n = flL P E A n := by unfold flK flL; simp
theorem flK_zero (P : Int) (E : List Int) (A : Int) (n : Nat) : flK P E A n 0 = List.replicate n 0 := by unfold flK; simp
/-- What shares are in memory. -/
def ShP (P : Int) (E : List Int) (A : Int) (n : Nat) (w : World) (e : Ending) (w' : World) : Prop :=
  ∃ r : Nat, e = .returned (.slice (some ⟨r, 0, none⟩) n n) ∧ Bx w' r (vrow (shL P E A n)) 3 ∧ Below w.heap.size w w' ∧ w.heap.size ≤ r
theorem flV_le {P : Int} {E : List Int} {A : Int} {n : Nat} (h : QOk P E A n) {i : Nat} (hi : i < n) : 0 ≤ flV P E A (i : Nat) ∧ flV P E A (i : Nat) ≤ 59994000000 := by
  have h1 := flV_nn h.toCOk hi
  have h2 := h.mul hi
  have h3 := fl_rs P E A (i : Nat)
  rw [Int.toNat_natCast] at h3
  have h4 := (rsV_rng h.toCOk (i : Nat)).1
  have h5 : flV P E A (i : Nat) ≤ A * flV P E A (i : Nat) := by
    have := Int.mul_le_mul_of_nonneg_right (show (1 : Int) ≤ A by have := h.a0; omega) h1
    omega
  omega
theorem sumR_rng {k : Nat} {f : Nat → Int} {b : Int} (h : ∀ i, i < k → 0 ≤ f i ∧ f i ≤ b) : 0 ≤ sumR k f ∧ sumR k f ≤ k * b := by
  induction k with
  | zero => simp [sumR]
  | succ k ih =>
    rw [sumR_succ]
    have h1 := ih fun i hi => h i (by omega)
    have h2 := h k (by omega)
    have : ((k + 1 : Nat) : Int) * b = k * b + b := by rw [show ((k + 1 : Nat) : Int) = (k : Int) + 1 by omega, Int.add_mul, Int.one_mul]
    omega

set_option maxRecDepth 100000 in
set_option maxHeartbeats 6000000 in
theorem shares_any (g n : Nat) (P : Int) (E : List Int) (A : Int) (hQ : QOk P E A n) (w : World) (y : Bx w g (vrow E) 3) :
    Calls Try.prog 46 #[.agg #[.slice (some ⟨g, 0, none⟩) n n, .int .i64 A], .int .i64 P] w (ShP P E A n w) := by
  have hn6 := hQ.n6
  have hnI : (n : Int) ≤ 6 := by omega
  have hmk := make_ints n (by omega)
  have hgl := y.lt
  have hend := fun W (h : Ord P E A n W) k hk => shK_end hQ.toCOk h (k := k) hk
  unfold ShP
  go_enter Try.func46, Try.ntmps46
  go_upto_region 2 with fail
  obtain ⟨W, hW, hb, hs, x1, x3⟩ := boxes2 w #[.slice (some ⟨g, 0, none⟩) n n, .int .i64 A] 66 (vrow (List.replicate n 0)) 3
  rw [hW]
  replace y := y.below hb
  clear hW hmk
  have x30 : Bx W (w.heap.size + 1) (vrow (flK P E A n 0)) 3 := by rw [flK_zero]; exact x3
  clear x3
  have c0 := x1.cell 0 rfl
  go_wp2
  clear c0
  go_loopw [6, 19] (fun v6 v19 wr => ∃ k : Nat, k ≤ n ∧ v19 = .int .i64 (k : Int) ∧ v6 = .int .i64 (P - sumR k fun i => flV P E A (i : Nat)) ∧ Bx wr w.heap.size #[.slice (some ⟨g, 0, none⟩) n n, .int .i64 A] 66 ∧ Bx wr g (vrow E) 3 ∧ Bx wr (w.heap.size + 1) (vrow (flK P E A n k)) 3 ∧ Below w.heap.size w wr) (fun _ v19 _ => n - (intOf v19).toNat)
  case atStart => exact ⟨0, Nat.zero_le _, rfl, by simp [sumR], x1, y, x30, hb⟩
  case round =>
    clear x1 y x30 hb hs
    obtain ⟨k, hk, rfl, rfl, x1, y, x3, hb⟩ := hrel
    by_cases hlt : k < n
    · have hkI : (k : Int) < n := by omega
      have hk0 : (0 : Int) ≤ (k : Int) := by omega
      have hm := hQ.mul hlt
      have hg := hQ.get hlt
      have ha := hQ.a0
      have hfl := flV_le hQ hlt
      have hsr := sumR_rng (k := k) (f := fun i => flV P E A (i : Nat)) (b := 59994000000) (fun i hi => flV_le hQ (by omega))
      have hss := sumR_succ k fun i => flV P E A (i : Nat)
      have hp := hQ.p0; have hp9 := hQ.p9
      have hfd : flV P E A (k : Nat) = P * E.getD k 0 / A := by unfold flV; rw [Int.toNat_natCast]
      have hset := flK_set P E A n k hlt
      obtain ⟨x, hx⟩ : ∃ x, x = E.getD k 0 := ⟨_, rfl⟩
      rw [← hx] at hm hg hfd
      have hdiv : (P * x).tdiv A = P * x / A := Int.tdiv_eq_ediv_of_nonneg hm.1
      rw [← hfd] at hdiv
      obtain ⟨f, hf⟩ : ∃ f, f = flV P E A (k : Nat) := ⟨_, rfl⟩
      simp only [← hf] at hdiv hfl hss hset
      obtain ⟨u, hu⟩ : ∃ u, u = sumR k fun i => flV P E A (i : Nat) := ⟨_, rfl⟩
      rw [← hu] at hss hsr ⊢
      have ew : IntKind.i64.wrap (P * x) = P * x := IntWalk.i64_in _ (by omega)
      have ew2 : IntKind.i64.wrap f = f := IntWalk.i64_in _ (by omega)
      have ew3 : IntKind.i64.wrap (P - u - f) = P - u - f := IntWalk.i64_in _ (by omega)
      have hne : ¬ A = 0 := by omega
      have HSS := hid hss
      have c1 := x1.cell 1 rfl
      have d0 := y.cell k (vrow_at hg)
      have e0 := x3.cell k (vrow_at (flK_get P E A n k hlt))
      have f0 := x3.free k
      have z3 := x3.set k (.int .i64 f)
      rw [vrow_set, hset] at z3
      have z1 := x1.other (a := ⟨w.heap.size + 1, k, none⟩) (by show w.heap.size ≠ w.heap.size + 1; omega) (.int .i64 f)
      have zy := y.other (a := ⟨w.heap.size + 1, k, none⟩) (by show g ≠ w.heap.size + 1; omega) (.int .i64 f)
      have zb := hb.setCell (p := ⟨w.heap.size + 1, k, none⟩) (by show w.heap.size ≤ w.heap.size + 1; omega) (.int .i64 f)
      have q0 : (wr.setCell ⟨w.heap.size + 1, k, none⟩ (.int .i64 f)).cell? ⟨w.heap.size + 1, k, none⟩ = some (.int .i64 f) := z3.cell k (vrow_at (by rw [← hset, List.getElem?_set, if_pos rfl, if_pos (by have := flK_get P E A n k hlt; have := (List.getElem?_eq_some_iff.1 this).1; exact this)]))
      have HZ := hid (And.intro z1 (And.intro zy (And.intro z3 (And.intro zb q0))))
      clear x1 y x3 hb z1 z3 zy zb q0 hf hx hu hfd hset hss hg hm hQ hend
      go_upto_region 7 with fail
      obtain ⟨z1, zy, z3, zb, q0⟩ := HZ.out
      clear HZ c1 d0 e0 f0
      generalize World.setCell _ _ _ = Y1 at *
      go_wp2
      go_roundw
      case rel => exact ⟨k + 1, by omega, by simp, by rw [HSS.out, show P - (u + f) = P - u - f by omega], z1, zy, z3, zb⟩
      case measure => simp [intOf]; omega
    · have hkn : k = n := by omega
      subst hkn
      have hkI : ¬ (k : Int) < (k : Int) := by omega
      have hl := left_n hQ.toCOk
      have hle : P - sumR k (fun i => flV P E A (i : Nat)) = leftV P E A k := rfl
      rw [hle]
      have hfe := flK_end P E A k
      have hbr := byRests_any g k P E A hQ wr y
      obtain ⟨lk, hlk⟩ : ∃ lk : Nat, (lk : Int) = leftV P E A k := ⟨(leftV P E A k).toNat, by omega⟩
      have hend2 := fun W h => hend W h lk hlk
      rw [← hlk] at hl ⊢
      rw [hfe] at x3
      clear hle hfe hlk hend
      have hlk2 : (lk : Int) ≤ (k : Int) := hl.2
      have hlk0 : (0 : Int) ≤ (lk : Int) := hl.1
      have htn : ((lk : Int)).toNat = lk := by omega
      have c0 := x1.cell 0 rfl; have c1 := x1.cell 1 rfl
      go_wp2_with fail
      refine hbr.mono ?_
      rintro e V1 ⟨r, W2, rfl, yr, hO, hb2, hr⟩
      have h3l := x3.lt
      have hrne : w.heap.size + 1 ≠ r := by omega
      rw [← shK_zero P E A k W2] at x3
      replace x3 := x3.below hb2
      replace hb := hb.trans (hb2.mono hb.size)
      have hfe := hend2 W2 hO
      have HFE := hid hfe
      have HO := hid hO
      have hol := hO.len
      have HSV := hid (fun i (hi : i < k) => flV_le hQ hi)
      clear hfe hend2 hO hQ hb2 hbr c0 c1 y x1
      go_wp2
      go_loopw [46] (fun v46 wr => ∃ j : Nat, j ≤ lk ∧ v46 = .int .i64 (j : Int) ∧ Bx wr r (vrow W2) 3 ∧ Bx wr (w.heap.size + 1) (vrow (shK P E A k W2 j)) 3 ∧ Below w.heap.size w wr) (fun v46 _ => lk - (intOf v46).toNat)
      case atStart => exact ⟨0, Nat.zero_le _, rfl, yr, x3, hb⟩
      case round =>
        clear yr x3 hb
        obtain ⟨j, hj, rfl, yr, x3, hb⟩ := hrel
        by_cases hltj : j < lk
        · have hjI : (j : Int) < (lk : Int) := by omega
          have hj0 : (0 : Int) ≤ (j : Int) := by omega
          have hjl : j < W2.length := by omega
          have hrg := HO.out.rng W2[j] (List.getElem_mem hjl)
          obtain ⟨x, hx⟩ := Int.eq_ofNat_of_zero_le hrg.1
          have hxg : W2[j]? = some (x : Int) := by rw [List.getElem?_eq_getElem hjl, hx]
          obtain ⟨hxn, hgx, hset⟩ := shK_succ HO.out hxg
          have hfl := HSV.out x hxn
          obtain ⟨f, hf⟩ : ∃ f, f = flV P E A (x : Nat) := ⟨_, rfl⟩
          rw [← hf] at hgx hset hfl
          have ew : IntKind.i64.wrap (f + 1) = f + 1 := IntWalk.i64_in _ (by omega)
          have hxI : (x : Int) < (k : Int) := by omega
          have hx0 : (0 : Int) ≤ (x : Int) := by omega
          have c0 := yr.cell j (vrow_at hxg)
          have d0 := x3.cell x (vrow_at hgx)
          have f0 := x3.free x
          have z3 := x3.set x (.int .i64 (f + 1))
          rw [vrow_set, hset] at z3
          have zr := yr.other (a := ⟨w.heap.size + 1, x, none⟩) (by show r ≠ w.heap.size + 1; omega) (.int .i64 (f + 1))
          have zb := hb.setCell (p := ⟨w.heap.size + 1, x, none⟩) (by show w.heap.size ≤ w.heap.size + 1; omega) (.int .i64 (f + 1))
          have HZ := hid (And.intro zr (And.intro z3 zb))
          clear yr x3 hb z3 zr zb hf hset hgx hxg hx hrg
          go_wp2
          go_roundw
          case rel => exact ⟨j + 1, by omega, by simp, HZ.out⟩
          case measure => simp [intOf]; omega
        · have hjI : ¬ (j : Int) < (lk : Int) := by omega
          have hjl : j = lk := by omega
          rw [hjl, HFE.out] at x3
          have HZ := hid (And.intro x3 hb)
          clear x3 hb yr
          go_wp2
          go_ret
          exact ⟨_, rfl, HZ.out.1, HZ.out.2, by omega⟩
end Go.Proofs.Ytakodllejndfeaa
