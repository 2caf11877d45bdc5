import Derived.Test.YtmkmnedojgigoaaK3
import Derived.Test.YtmkmnedojgigoaaP12
namespace Go.Proofs.Ytmkmnedojgigoaa
open Go.RowKit

set_option maxRecDepth 100000 in
set_option maxHeartbeats 1000000 in
theorem isPurse_any (r : Int) (an ac : Option Addr) (cn cc : Nat) (N C : List Int) (a : Option Addr) (ca : Nat) (xs : List Int) (w : World) (hC : Ints w ac C) (hX : Ints w a xs) (hl : xs.length ≤ 40) :
    Calls Try.prog 51 #[.agg #[.int .i64 r, .slice an N.length cn, .slice ac C.length cc], .slice a xs.length ca] w fun e w' => e = .returned (.bool (okP C xs)) ∧ Below w.heap.size w w' := by
  have hcl := hC.len
  clear hC
  obtain ⟨W, hW, hb, hs, x0⟩ := boxes1 w #[.int .i64 r, .slice an N.length cn, .slice ac C.length cc] 24
  clear hs
  replace hX := hX.below hb (Nat.le_refl _)
  have c0 := x0.cell 0 rfl; have c1 := x0.cell 1 rfl; have c2 := x0.cell 2 rfl
  by_cases he : xs.length = C.length
  · have hB : ((xs.length : Int) != (C.length : Int)) = false := by simp [he]
    have HE := hid he; clear he
    go_enter Try.func51, Try.ntmps51
    go_wp2
    clear hW c0 c1 c2 x0
    go_loop [5, 6] (fun s5 s6 => ∃ (k : Nat) (q : Int), k ≤ xs.length ∧ s6 = .int .i64 k ∧ s5 = .int .i64 q ∧ 0 ≤ q ∧ q ≤ 12 * k ∧ xs.all (fun x => inR 0 x 12) = (xs.drop k).all (fun x => inR 0 x 12) ∧ xs.sum = q + (xs.drop k).sum) (fun _ s6 => xs.length - (intOf s6).toNat)
    case atStart => exact ⟨0, 0, Nat.zero_le _, rfl, rfl, by omega, by omega, rfl, by simp⟩
    case round =>
      obtain ⟨k, q, hk, rfl, rfl, hq0, hq1, hn, hsu⟩ := hrel
      have Hn := hid hn; have Hs := hid hsu; clear hn hsu
      by_cases hlt : k < xs.length
      · obtain ⟨b, off, x, rfl, hbs, hc, _, _, _, hd⟩ := hX.at hlt
        have hkI : (k : Int) < (xs.length : Int) := by omega
        cases hi : inR 0 x 12
        · go_wp2_with (first | (go_at_call 58; refine (within_any _ _ _ _).mono ?_; rintro e w' ⟨rfl, rfl⟩))
          go_ret
          exact ⟨ret_bool (by rw [okP, Hn.out, hd.out]; simp only [List.all_cons, hi, Bool.false_and, Bool.and_false]), hb⟩
        · have hx := inR_iff.1 hi
          go_wp2_with (first | (go_at_call 58; refine (within_any _ _ _ _).mono ?_; rintro e w' ⟨rfl, rfl⟩))
          go_round
          case rel => exact ⟨k + 1, q + x, by omega, by go_num, by go_num, by omega, by omega, by rw [Hn.out, hd.out]; simp only [List.all_cons, hi, Bool.true_and], by rw [Hs.out, hd.out, List.sum_cons]; omega⟩
          case measure => simp [intOf]; omega
      · go_wp2
        go_ret
        exact ⟨ret_bool (by rw [okP, Hn.out, Hs.out, drop_end hk hlt]; simp [HE.out]), hb⟩
  · have hB : ((xs.length : Int) != (C.length : Int)) = true := by simp; omega
    have hof : okP C xs = false := by simp [okP, he]
    have HO := hid hof
    clear he hof
    go_enter Try.func51, Try.ntmps51
    go_wp2
    go_ret
    exact ⟨ret_bool (by rw [HO.out]), hb⟩

theorem okP_mem {C xs : List Int} (h : okP C xs = true) : xs.length = C.length ∧ (∀ x ∈ xs, 0 ≤ x ∧ x ≤ 12) ∧ xs.sum ≤ 12 := by
  simp only [okP, Bool.and_eq_true, decide_eq_true_eq] at h
  exact ⟨h.1, fun x hx => inR_iff.1 (List.all_eq_true.1 h.2.1 x hx), h.2.2⟩

set_option maxRecDepth 100000 in
set_option maxHeartbeats 1000000 in
theorem rich_ok (R : Nat) (an ac : Option Addr) (cn cc : Nat) (N C : List Int) (a : Option Addr) (ca : Nat) (xs : List Int) (w : World) (hN : Ints w an N) (hC : Ints w ac C) (hX : Ints w a xs) (hv : Vw R N C) (ho : okP C xs = true) :
    Calls Try.prog 27 #[.agg #[.int .i64 (R : Int), .slice an N.length cn, .slice ac C.length cc], .slice a xs.length ca] w fun e w' => e = .returned (.bool (decide (6 < xs.sum))) ∧ Below w.heap.size w w' := by
  have hk : chk (R : Int) N C = 0 := by simp [chk, hv.valid]
  obtain ⟨o1, o2, o3⟩ := okP_mem ho
  have c4 := hv.c4
  have hl : xs.length ≤ 4 := by omega
  have HO := hid o1
  clear o1
  obtain ⟨W, hW, hb, hs, x0⟩ := boxes1 w #[.int .i64 (R : Int), .slice an N.length cn, .slice ac C.length cc] 24
  clear hs
  replace hX := hX.below hb (Nat.le_refl _); replace hC := hC.below hb (Nat.le_refl _); replace hN := hN.below hb (Nat.le_refl _)
  have c0 := x0.cell 0 rfl; have c1 := x0.cell 1 rfl; have c2 := x0.cell 2 rfl
  have d1 : decide ((40 : Int) < (xs.length : Int)) = false := by simp; omega
  go_enter Try.func27, Try.ntmps27
  go_wp2_with fail
  refine (refCheck_any _ _ _ _ _ _ _ _ hN hC).mono ?_
  rintro e W1 ⟨rfl, hb1⟩
  rw [hk]
  clear hW
  replace hC := hC.below hb1 (Nat.le_refl _); replace hX := hX.below hb1 (Nat.le_refl _); (try clear c0 c1 c2); replace x0 := x0.below hb1; have c0 := x0.cell 0 rfl; have c1 := x0.cell 1 rfl; have c2 := x0.cell 2 rfl; replace hb := hb.trans (hb1.mono hb.size); clear hb1
  go_wp2_with fail
  refine (isPurse_any _ _ _ _ _ _ _ a ca xs _ hC hX (by omega)).mono ?_
  rintro e W2 ⟨rfl, hb1⟩
  rw [ho]
  replace hX := hX.below hb1 (Nat.le_refl _); replace hb := hb.trans (hb1.mono hb.size); clear hb1
  clear x0 c0 c1 c2 d1 ho hk
  go_wp2_with fail
  go_loop [5, 6] (fun s5 s6 => ∃ (k : Nat) (q : Int), k ≤ xs.length ∧ s6 = .int .i64 k ∧ s5 = .int .i64 q ∧ 0 ≤ q ∧ q ≤ 12 * k ∧ xs.sum = q + (xs.drop k).sum) (fun _ s6 => xs.length - (intOf s6).toNat)
  case atStart => exact ⟨0, 0, Nat.zero_le _, rfl, rfl, by omega, by omega, by simp⟩
  case round =>
    obtain ⟨k, q, hk, rfl, rfl, hq0, hq1, hsu⟩ := hrel
    have Hs := hid hsu; clear hsu
    by_cases hlt : k < xs.length
    · obtain ⟨b, off, x, rfl, hbs, hc, _, _, hx, hd⟩ := hX.at hlt
      have hx2 := o2 x (List.mem_of_getElem? hx.out)
      have hkI : (k : Int) < (xs.length : Int) := by omega
      go_wp2
      go_round
      case rel => exact ⟨k + 1, q + x, by omega, by go_num, by go_num, by omega, by omega, by rw [Hs.out, hd.out, List.sum_cons]; omega⟩
      case measure => simp [intOf]; omega
    · go_wp2
      go_ret
      exact ⟨ret_bool (by rw [Hs.out, drop_end hk hlt]; simp), hb⟩

/-- The worth of the first k kinds of a purse. -/
def pwS (C xs : List Int) : Nat → Nat
  | 0 => 0
  | k + 1 => pwS C xs k + bgN xs k * cw C k
theorem pwS_le {R : Nat} {N C xs : List Int} (hv : Vw R N C) (ho : okP C xs = true) : ∀ k, k ≤ xs.length → pwS C xs k ≤ 1200 * k
  | 0, _ => Nat.le_refl _
  | k + 1, h => by
    obtain ⟨o1, o2, _⟩ := okP_mem ho
    have ih := pwS_le hv ho k (by omega)
    have h1 := (hv.coin (k := k) (by omega)).2
    have h2 : bgN xs k ≤ 12 := by
      have := o2 _ (List.getElem_mem (h := show k < xs.length by omega))
      simp [bgN, List.getD, show k < xs.length by omega]
      omega
    have h3 := Nat.mul_le_mul h2 h1.2
    unfold pwS
    omega
theorem pwS_all {C xs : List Int} (h : xs.length ≤ 4) : pwS C xs xs.length = bgN xs 0 * cw C 0 + bgN xs 1 * cw C 1 + bgN xs 2 * cw C 2 + bgN xs 3 * cw C 3 := by
  match xs, h with
  | [], _ => simp [pwS, bgN]
  | [a], _ => simp [pwS, bgN]
  | [a, b], _ => simp [pwS, bgN]
  | [a, b, c], _ => simp [pwS, bgN]
  | [a, b, c, d], _ => simp [pwS, bgN]

set_option maxRecDepth 100000 in
set_option maxHeartbeats 1000000 in
theorem pworth_ok (R : Nat) (an ac : Option Addr) (cn cc : Nat) (N C : List Int) (a : Option Addr) (ca : Nat) (xs : List Int) (w : World) (_hN : Ints w an N) (hC : Ints w ac C) (hX : Ints w a xs) (hv : Vw R N C) (ho : okP C xs = true) :
    Calls Try.prog 54 #[.agg #[.int .i64 (R : Int), .slice an N.length cn, .slice ac C.length cc], .slice a xs.length ca] w fun e w' => e = .returned (.int .i64 (pwS C xs xs.length : Nat)) ∧ Below w.heap.size w w' := by
  obtain ⟨o1, o2, o3⟩ := okP_mem ho
  have c4 := hv.c4
  have hl : xs.length ≤ 4 := by omega
  have hlc : xs.length ≤ C.length := by omega
  have pl := pwS_le hv ho
  clear o1
  obtain ⟨W, hW, hb, hs, x0⟩ := boxes1 w #[.int .i64 (R : Int), .slice an N.length cn, .slice ac C.length cc] 24
  clear hs
  replace hX := hX.below hb (Nat.le_refl _); replace hC := hC.below hb (Nat.le_refl _)
  go_enter Try.func54, Try.ntmps54
  go_wp2
  clear hW
  go_loopw [5, 6] (fun s5 s6 wr => ∃ (k : Nat), k ≤ xs.length ∧ s6 = .int .i64 k ∧ s5 = .int .i64 (pwS C xs k : Nat) ∧ Qd W wr) (fun _ s6 _ => xs.length - (intOf s6).toNat)
  case atStart => exact ⟨0, Nat.zero_le _, rfl, rfl, Qd.refl _⟩
  case round =>
    obtain ⟨k, hk', rfl, rfl, hqd⟩ := hrel
    replace hX := hX.qd hqd; replace hC := hC.qd hqd
    have x1 := x0.below (hqd.below _)
    have c0 := x1.cell 0 rfl; have c1 := x1.cell 1 rfl; have c2 := x1.cell 2 rfl
    by_cases hlt : k < xs.length
    · obtain ⟨b, off, x, rfl, hbs, hc, _, _, hx, hd⟩ := hX.at hlt
      have hx2 := o2 x (List.mem_of_getElem? hx.out)
      have hbg : bgN xs k = x.toNat := by simp [bgN, List.getD, hx.out]
      obtain ⟨bc, offc, y, rfl, hbc, hcc, _, _, hy, _⟩ := hC.at (k := k) (by omega)
      have hco := hv.coin (k := k) (by omega)
      have hye : y = (cw C k : Int) := by have := hy.out; rw [hco.1] at this; simpa using this.symm
      subst hye
      have h1 := hco.2
      have hp := pl k (by omega)
      obtain ⟨n, rfl⟩ := Int.eq_ofNat_of_zero_le hx2.1
      have hS : pwS C xs (k + 1) = pwS C xs k + n * cw C k := by rw [pwS, hbg, Int.toNat_natCast]
      have HS := hid hS
      obtain ⟨v, hve⟩ : ∃ v, v = cw C k := ⟨_, rfl⟩
      rw [← hve] at hcc h1 hS
      have Hv := hid hve
      have hm1 : n * v ≤ 12 * 100 := Nat.mul_le_mul (by omega) h1.2
      obtain ⟨q, hq⟩ : ∃ q, q = pwS C xs k := ⟨_, rfl⟩
      rw [← hq] at hp hS ⊢
      obtain ⟨u, hu⟩ : ∃ u, u = n * v := ⟨_, rfl⟩
      have huI : (n : Int) * (v : Int) = (u : Int) := by rw [hu]; simp
      rw [← hu] at hm1 hS
      have HS2 := hid hS
      have Hq := hid hq
      clear hco hy hx hd hve hbg hS hq hu
      have hkI : (k : Int) < (xs.length : Int) := by omega
      have hk0 : (0 : Int) ≤ (k : Int) := by omega
      have hnI : (k : Int) < (C.length : Int) := by omega
      have f1 : IntKind.i64.wrap (u : Int) = (u : Int) := IntWalk.i64_in _ (by omega)
      have f2 : IntKind.i64.wrap ((q : Int) + (u : Int)) = (q : Int) + (u : Int) := IntWalk.i64_in _ (by omega)
      go_wp2
      go_quiet (fail)
      clear f1 f2
      go_wp2
      go_roundw
      case rel => exact ⟨k + 1, by omega, by go_num, by rw [HS2.out]; go_num, hqd.drewN _⟩
      case measure => simp [intOf]; omega
    · have he : k = xs.length := by omega
      subst he
      go_wp2
      go_ret
      exact ⟨rfl, hb.trans (hqd.below _ |>.mono hb.size)⟩
end Go.Proofs.Ytmkmnedojgigoaa
